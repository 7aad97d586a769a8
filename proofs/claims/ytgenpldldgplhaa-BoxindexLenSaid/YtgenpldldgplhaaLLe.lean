/- Law BoxindexLen: for every input the call returns true, and its arguments read afterwards as before. -/
import Derived.Test.YtgenpldldgplhaaBo2
import Derived.Test.YtgenpldldgplhaaBfr
import Derived.Test.YtgenpldldgplhaaBpy
import Derived.Deep.Cut
namespace Go.Proofs.Ytgenpldldgplhaa
open Go.ChangeShapes Go.WideShapes Go.ChangeAt Go.RowKit Go.ChangeMaps

set_option maxRecDepth 100000 in
set_option maxHeartbeats 4000000 in
theorem boxindexLen_walk (A : Option Addr) (n c : Nat) (R : List Ot) (w : World) (k0 : Ots w A n R) (l0 : n ≤ c ∧ c ≤ 9223372036854775807) (g0 : ∀ x ∈ R, Sds w x.A x.n x.R ∧ x.n ≤ 9223372036854775807 ∧ w64 x.id ∧ w64 x.t ∧ 0 ≤ x.kd ∧ x.kd < 256) : Calls Try.prog 4 #[.slice A n c] w fun e w' => e = .returned (.bool true) ∧ Below w.heap.size w w' := by
  have HK := Lib.hid k0
  have HG := Lib.hid g0
  go_enter Try.func4, Try.ntmps4
  go_wp2_with fail
  refine (awake_any w).mono ?_
  rintro e1 w1 ⟨rfl, hb1⟩
  have HB1 := Lib.hid hb1
  have CF := Lib.hid (Fair_any A n c R 40 w1 (k0.below hb1) (by omega) (fun o ho => ⟨(g0 o ho).1.below hb1, (g0 o ho).2.1⟩))
  clear hb1 k0 g0
  go_wp2_with fail
  refine CF.out.mono ?_
  rintro e2 w2 ⟨q, rfl, hq, hb2⟩
  have HB2 := Lib.hid (HB1.out.trans (hb2.mono HB1.out.size))
  clear CF hb2
  cases q
  · go_wp2
    go_ret
    exact ⟨rfl, HB2.out⟩
  · obtain ⟨hn60, hn4⟩ := hq rfl
    have hn : n ≤ 40 := by omega
    have HOK := Lib.hid (show OkO w2 R from fun o ho => ⟨(HG.out o ho).1.below HB2.out, by have := hn4 o ho; omega, (HG.out o ho).2.2⟩)
    clear hq hn4 hn60
    have HKO := Lib.hid (HK.out.below HB2.out)
    have HA := Lib.hid HKO.out.at
    have hnc : n ≤ c := l0.1
    have hcc : c ≤ 9223372036854775807 := l0.2
    go_wp2
    go_loopw [14] (fun s wr => ∃ (k : Nat), s = .int .i64 (k : Int) ∧ k ≤ n ∧ Below w2.heap.size w2 wr) (fun s _ => n - (intOf s).toNat)
    case atStart => exact ⟨0, rfl, Nat.zero_le _, Below.refl _ _⟩
    case round =>
      obtain ⟨k, rfl, hkn, hB⟩ := hrel
      have HB := Lib.hid hB
      clear hB
      by_cases hlt : k < n
      · have hki : (k : Int) < n := by omega
        have hk0 : (0 : Int) ≤ (k : Int) := by omega
        obtain ⟨b, off, rfl, -, -⟩ := HA.out (by omega)
        have ht1 : ((k : Int) + 1).toNat = k + 1 := by omega
        have hk1 : ¬ ((k : Int) + 1 < 0) := by omega
        have hk2 : ¬ ((c : Int) < (k : Int) + 1) := by omega
        have CP := Lib.hid (Play_any (some ⟨b, off, none⟩) (k + 1) c (R.take (k + 1)) wr ((HKO.out.take hlt).below HB.out) (by omega) (fun o ho => by
          obtain ⟨q1, q2⟩ := HOK.out o (List.mem_of_mem_take ho)
          exact ⟨q1.below HB.out, q2⟩))
        go_wp2_with fail
        refine CP.out.mono ?_
        rintro e3 w3 ⟨x, A', m, c', M, L1, L2, rfl, hp⟩
        have HP := Lib.hid hp
        have hlm : L1.length = m := hp.ks.len.trans hp.row.len
        clear CP hp
        go_wp2_with fail
        refine (Len_any w3 _ x M L1 HP.out.ix).mono ?_
        rintro e4 w4 ⟨rfl, rfl⟩
        rw [hlm]
        clear hlm
        go_wp2
        go_roundw
        case rel => exact ⟨k + 1, by go_num, hlt, HB.out.trans (HP.out.bel.mono HB.out.size)⟩
        case measure => simp [intOf]; omega
      · obtain rfl : k = n := by omega
        have hlt2 : ¬ ((k : Int) < (k : Int)) := by omega
        go_wp2
        go_ret
        exact ⟨rfl, HB2.out.trans (HB.out.mono HB2.out.size)⟩

set_option maxRecDepth 100000 in
theorem boxindexLen_lifted (os : Os) (started : os.Started) (H : Type) (enc : TypeId × Value → H) :
    ReturnsInHanded {} Try.checked os 4 .any (Rows.boxindexLenSpec.pre6 enc Try.prog Try.f4 Rows.boxindexLenRow.domain false) (Rows.boxindexLenSpec.post enc Try.prog Try.f4 false true false false) := by
  refine law_lifted (C := Try.checked) (B := 4) Try.own started (by kernel_rfl) Try.func4
    (ChangeSpec.witness6 (enc := enc) (C := Try.checked) false ⟨#[], #[.slice none 0 0], []⟩ 8 (by kernel_rfl) (by kernel_rfl) (by kernel_rfl) (by kernel_rfl))
    Try.laidOut (by kernel_rfl) rfl rfl rfl Try.underlying4 (fun ds h => match ds, h with | [_], _ => rfl) ?_
  intro W base args ds ps hval hA hlt hsz
  rw [Try.params4] at hA hval hsz
  obtain ⟨v0, vs0, d0, ds0, p0, q0, hargs, rfl, rfl, h0, r0⟩ := trodAll_cons hA
  obtain ⟨rfl, rfl, rfl⟩ := trodAll_nil r0
  obtain rfl : args = #[v0] := by cases args; simp_all
  obtain ⟨A0, n0, c0, R0, rfl, k0, l0, g0⟩ := open_opsC (hval 0 22 v0 rfl rfl) h0 (fun x hx => hlt x (by simp [hx]))
  exact boxindexLen_walk A0 n0 c0 R0 W k0 l0 g0

theorem boxindexLen_over : Rows.boxindexLenRow.holds Try.pinned (OpenSpec.ofChange Rows.boxindexLenSpec) :=
  OpenClaim.holds_of_wide 4 Try.f4 rfl rfl rfl rfl rfl rfl rfl ⟨rfl, rfl, rfl, rfl, rfl⟩ rfl rfl rfl rfl rfl (by kernel_rfl) Try.func4 (by kernel_rfl)
    (of_decide_eq_true (by kernel_rfl)) (by unfold Func.isWrapper; first | (rw [if_pos (by decide +kernel)]; kernel_rfl) | (rw [if_neg (by decide +kernel)]; exact ⟨rfl, rfl⟩))
    (fun os started H enc _ => boxindexLen_lifted os started H enc)

theorem boxindexLen_proved : Rows.BoxindexLenSaid := boxindexLen_over
end Go.Proofs.Ytgenpldldgplhaa
