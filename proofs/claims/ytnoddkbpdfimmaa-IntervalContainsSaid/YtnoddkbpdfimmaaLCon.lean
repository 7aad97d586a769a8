/- Law IntervalContains: for every input the call returns true, and its arguments read afterwards as before. -/
import Derived.Test.YtnoddkbpdfimmaaIva
import Derived.Test.YtnoddkbpdfimmaaIvh2
import Derived.Test.YtnoddkbpdfimmaaOpn
import Derived.Test.YtnoddkbpdfimmaaIvd
namespace Go.Proofs.Ytnoddkbpdfimmaa
open Go.ChangeShapes Go.WideShapes Go.ChangeAt Go.RowKit Go.ChangeMaps

set_option maxRecDepth 100000 in
set_option maxHeartbeats 2000000 in
theorem intervalContains_walk (A : Option Addr) (n c : Nat) (R : List Iv) (a1 : Int) (w : World) (k0 : At w A n 2 (R.flatMap Iv.cells)) (l0 : n ≤ 9223372036854775807) (g0 : ∀ x ∈ R, x.in) (_ : -9223372036854775808 ≤ a1) (_ : a1 ≤ 9223372036854775807) : Calls Try.prog 4 #[.slice A n c, .int .i64 a1] w fun e w' => e = .returned (.bool true) ∧ Below w.heap.size w w' := by
  have HK := Lib.hid (show Ivs w A n R from k0)
  have HOK := Lib.hid (show ∀ x ∈ R, x.ok from fun x hx => g0 x hx)
  clear k0 g0
  go_enter Try.func4, Try.ntmps4
  go_wp2_with fail
  refine (awake_any w).mono ?_
  rintro e w1 ⟨rfl, hb⟩
  have HB := Lib.hid hb
  clear hb
  go_wp2_with fail
  refine (few_any A n c w1).mono ?_
  rintro e w2 ⟨rfl, rfl⟩
  by_cases hn : (n : Int) ≤ 30
  · have hd : decide ((n : Int) ≤ 30) = true := by simpa using hn
    rw [hd]
    have hn2 : n ≤ 100000 := by omega
    clear hn hd
    go_wp2_with fail
    refine (to_any A n c R _ (HK.out.below HB.out) hn2).mono ?_
    rintro e w3 ⟨v3, rfl, ho, hb⟩
    obtain ⟨A3, c3, ev, I3, -, -⟩ := ho.ivs
    have hlen := HK.out.len
    rw [hlen] at ev I3
    subst ev
    have HB3 := Lib.hid (HB.out.trans (hb.mono HB.out.size))
    have OFC := Lib.hid (Of_any A3 n c3 R w3 I3 hn2 HOK.out)
    clear ho hb I3 hlen
    go_wp2_with fail
    refine OFC.out.mono ?_
    rintro e w4 ⟨v4, rfl, T, hp, hs, ho, hb⟩
    have HHAS := Lib.hid (of_has a1 hp hs HOK.out)
    have hofl := ofM_len T
    have hTl : T.length = n := by rw [hp.length_eq]; exact HK.out.len
    obtain ⟨A4, c4, ev, I4, -, -⟩ := ho.ivs
    subst ev
    have HB4 := Lib.hid (HB3.out.trans (hb.mono HB3.out.size))
    have CON := Lib.hid (Contains_any A4 (ofM T).length c4 (ofM T) a1 w4 I4 (by omega))
    rw [HHAS.out] at CON
    generalize (ofM T).length = q at *
    clear ho hb I4 OFC HB3 hofl hp hs hTl
    go_wp2_with fail
    refine CON.out.mono ?_
    rintro e w5 ⟨rfl, hb⟩
    have HB5 := Lib.hid (HB4.out.trans (hb.mono HB4.out.size))
    have RCN := Lib.hid (RContains_any A n c R a1 w5 (HK.out.below HB5.out) hn2)
    clear hb CON HB4
    generalize R.any (Iv.has a1) = rb at *
    go_wp2_with fail
    refine RCN.out.mono ?_
    rintro e w6 ⟨rfl, hb⟩
    have HB6 := Lib.hid (HB5.out.trans (hb.mono HB5.out.size))
    clear hb RCN HB5
    go_wp2
    go_ret
    exact ⟨by simp, HB6.out⟩
  · have hd : decide ((n : Int) ≤ 30) = false := by simpa using hn
    rw [hd]
    go_wp2
    go_ret
    exact ⟨rfl, HB.out⟩

set_option maxRecDepth 100000 in
theorem intervalContains_lifted (os : Os) (started : os.Started) (H : Type) (enc : TypeId × Value → H) :
    ReturnsInHanded {} Try.checked os 4 .any (Rows.intervalContainsSpec.pre6 enc Try.prog Try.f4 Rows.intervalContainsRow.domain false) (Rows.intervalContainsSpec.post enc Try.prog Try.f4 false true false false) := by
  refine law_lifted (C := Try.checked) (B := 4) Try.own started (by kernel_rfl) Try.func4
    (ChangeSpec.witness6 (enc := enc) (C := Try.checked) false ⟨#[], #[.slice none 0 0, .int .i64 0], []⟩ 8 (by kernel_rfl) (by kernel_rfl) (by kernel_rfl) (by kernel_rfl))
    Try.laidOut (by kernel_rfl) rfl rfl rfl Try.underlying4 (fun ds h => match ds, h with | [_, _], _ => rfl) ?_
  intro W base args ds ps hval hA hlt hsz
  rw [Try.params4] at hA hval hsz
  obtain ⟨v0, vs0, d0, ds0, p0, q0, hargs, rfl, rfl, h0, r0⟩ := trodAll_cons hA
  obtain ⟨v1, vs1, d1, ds1, p1, q1, rfl, rfl, rfl, h1, r1⟩ := trodAll_cons r0
  obtain ⟨rfl, rfl, rfl⟩ := trodAll_nil r1
  obtain rfl : args = #[v0, v1] := by cases args; simp_all
  obtain ⟨A0, n0, c0, R0, rfl, k0, l0, g0⟩ := open_row (hval 0 22 v0 rfl rfl) h0 (fun x hx => hlt x (by simp [hx])) hsz (j := 0) rfl rfl
  obtain ⟨a1, rfl, rfl, rfl, w1⟩ := open_int Try.underlying2 (hval 1 2 v1 rfl rfl) h1
  obtain ⟨l1, g1⟩ := i64_bd w1
  exact intervalContains_walk A0 n0 c0 R0 a1 W k0 l0 g0 l1 g1

theorem intervalContains_over : Rows.intervalContainsRow.holds Try.pinned (OpenSpec.ofChange Rows.intervalContainsSpec) :=
  OpenClaim.holds_of_wide 4 Try.f4 rfl rfl rfl rfl rfl rfl rfl ⟨rfl, rfl, rfl, rfl, rfl⟩ rfl rfl rfl rfl rfl (by kernel_rfl) Try.func4 (by kernel_rfl)
    (of_decide_eq_true (by kernel_rfl)) (by unfold Func.isWrapper; first | (rw [if_pos (by decide +kernel)]; kernel_rfl) | (rw [if_neg (by decide +kernel)]; exact ⟨rfl, rfl⟩))
    (fun os started H enc _ => intervalContains_lifted os started H enc)

theorem intervalContains_proved : Rows.IntervalContainsSaid := intervalContains_over
end Go.Proofs.Ytnoddkbpdfimmaa
