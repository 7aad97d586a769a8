/- Law IntervalHull: for every input the call returns true, and its arguments read afterwards as before. -/
import Derived.Test.YtnoddkbpdfimmaaIva
import Derived.Test.YtnoddkbpdfimmaaIvx
import Derived.Test.YtnoddkbpdfimmaaOpn
import Derived.Test.YtnoddkbpdfimmaaIvd
namespace Go.Proofs.Ytnoddkbpdfimmaa
open Go.ChangeShapes Go.WideShapes Go.ChangeAt Go.RowKit Go.ChangeMaps

set_option maxRecDepth 100000 in
set_option maxHeartbeats 2000000 in
theorem intervalHull_walk (A : Option Addr) (n c : Nat) (R : List Iv) (w : World) (k0 : At w A n 2 (R.flatMap Iv.cells)) (l0 : n ≤ 9223372036854775807) (g0 : ∀ x ∈ R, x.in) : Calls Try.prog 7 #[.slice A n c] w fun e w' => e = .returned (.bool true) ∧ Below w.heap.size w w' := by
  have HK := Lib.hid (show Ivs w A n R from k0)
  have HOK := Lib.hid (show ∀ x ∈ R, x.ok from fun x hx => g0 x hx)
  clear k0 g0
  obtain rfl := HK.out.len
  go_enter Try.func7, Try.ntmps7
  go_wp2_with fail
  refine (awake_any w).mono ?_
  rintro e w1 ⟨rfl, hb⟩
  replace HK := Lib.hid (HK.out.below hb)
  have HB := Lib.hid hb
  clear hb
  go_wp2_with fail
  refine (few_any A R.length c w1).mono ?_
  rintro e w2 ⟨rfl, rfl⟩
  by_cases hn : (R.length : Int) ≤ 30
  · have hd : decide ((R.length : Int) ≤ 30) = true := by simpa using hn
    rw [hd]
    have hn2 : R.length ≤ 100000 := by omega
    clear hn hd
    have CC := Lib.hid (ROf_any A R.length c R w2 HK.out hn2 HOK.out)
    go_wp2_with fail
    refine CC.out.mono ?_
    rintro e w3 ⟨v, rfl, Ss, hu, hok, hls, ho, hb⟩
    clear CC
    obtain ⟨As, cs, ev, Is, -, -⟩ := ho.ivs
    subst ev
    clear ho
    replace Is := Lib.hid Is
    have Us := Lib.hid hu
    have Os := Lib.hid hok
    clear hu hok
    replace HK := Lib.hid (HK.out.below hb)
    replace HB := Lib.hid (HB.out.trans (hb.mono HB.out.size))
    clear hb
    have CC := Lib.hid (to_any As Ss.length cs Ss w3 Is.out (by omega))
    go_wp2_with fail
    refine CC.out.mono ?_
    rintro e w4 ⟨v, rfl, ho, hb⟩
    clear CC
    obtain ⟨Aa, ca, ev, Ia, -, -⟩ := ho.ivs
    subst ev
    clear ho
    replace Ia := Lib.hid Ia
    replace HB := HB
    replace HK := Lib.hid (HK.out.below hb)
    replace Is := Lib.hid (Is.out.below hb)
    replace HB := Lib.hid (HB.out.trans (hb.mono HB.out.size))
    clear hb
    rcases hp : Ss.length with _ | p
    · have HE := Lib.hid (show hullA Ss = .tuple #[.agg #[.int .i64 0, .int .i64 0], .bool false] by unfold hullA; rw [if_pos hp]; rfl)
      have CC := Lib.hid (Hull_any Aa Ss.length ca Ss w4 Ia.out (by omega))
      rw [HE.out] at CC
      rw [hp] at CC Is
      clear HE
      go_wp2_with fail
      refine CC.out.mono ?_
      rintro e w5 ⟨rfl, hb⟩
      replace HB := Lib.hid (HB.out.trans (hb.mono HB.out.size))
      clear hb CC
      go_wp2
      go_ret
      exact ⟨rfl, HB.out.alloc HB.out.size _⟩
    · have HE := Lib.hid (show hullA Ss = .tuple #[.agg #[.int .i64 (Ss[0]'(by omega)).lo, .int .i64 (Ss[p]'(by omega)).hi], .bool true] by
        unfold hullA
        rw [if_neg (by omega), show Ss.length - 1 = p by omega]
        simp [List.getD, List.getElem?_eq_getElem (show 0 < Ss.length by omega), List.getElem?_eq_getElem (show p < Ss.length by omega), Iv.agg])
      have CC := Lib.hid (Hull_any Aa Ss.length ca Ss w4 Ia.out (by omega))
      rw [HE.out] at CC
      obtain ⟨bs, offs, rfl, hbl, hc⟩ := Is.out.at (by omega)
      have HC := Lib.hid (fun W hW => And.intro (hc W hW 0 (by omega)).1 (hc W hW p (by omega)).2)
      have hpN : p ≤ 100000 := by omega
      clear HE hc hls
      generalize (Ss[0]'(by omega)).lo = l0 at *
      generalize (Ss[p]'(by omega)).hi = l1 at *
      rw [hp] at CC
      go_wp2_with fail
      refine CC.out.mono ?_
      rintro e w5 ⟨rfl, hb⟩
      replace HB := Lib.hid (HB.out.trans (hb.mono HB.out.size))
      obtain ⟨X, hX⟩ : ∃ W, W = w5.alloc (.cells #[.int .i64 l0, .int .i64 l1] 39) := ⟨_, rfl⟩
      have X7 := Lib.hid (show Blk X w5.heap.size 39 #[.int .i64 l0, .int .i64 l1] by rw [hX]; exact Blk.new _ _ _)
      have XB := Lib.hid (show Below w.heap.size w X by rw [hX]; exact HB.out.alloc HB.out.size _)
      obtain ⟨d0, d1⟩ := HC.out X (by rw [hX]; exact hb.alloc hb.size _)
      simp only [Nat.zero_mul, Nat.add_zero] at d0
      have g0 : X.cell? ⟨w5.heap.size, 0, none⟩ = some (.int .i64 l0) := X7.out.cell 0
      have g1 : X.cell? ⟨w5.heap.size, 1, none⟩ = some (.int .i64 l1) := X7.out.cell 1
      have hp0 : (0 : Int) ≤ (p : Int) := by omega
      have hp1 : (0 : Int) < (p : Int) + 1 := by omega
      have hpz : ((p : Int) + 1 == 0) = false := by simp; omega
      have hpl : (p : Int) < (p : Int) + 1 := by omega
      have hpb : (p : Int) ≤ 100000 := by omega
      clear hb CC
      go_upto_region 7 with fail
      rw [← hX]
      clear hX
      go_upto_region 9 with fail
      go_quiet (fail)
      go_wp2
      go_ret
      exact ⟨by simp, by first | exact XB.out | exact below_drew XB.out | exact XB.out.drewN _ | exact below_drewN XB.out⟩
  · have hd : decide ((R.length : Int) ≤ 30) = false := by simpa using hn
    rw [hd]
    go_wp2
    go_ret
    exact ⟨rfl, HB.out⟩

set_option maxRecDepth 100000 in
theorem intervalHull_lifted (os : Os) (started : os.Started) (H : Type) (enc : TypeId × Value → H) :
    ReturnsInHanded {} Try.checked os 7 .any (Rows.intervalHullSpec.pre6 enc Try.prog Try.f7 Rows.intervalHullRow.domain false) (Rows.intervalHullSpec.post enc Try.prog Try.f7 false true false false) := by
  refine law_lifted (C := Try.checked) (B := 4) Try.own started (by kernel_rfl) Try.func7
    (ChangeSpec.witness6 (enc := enc) (C := Try.checked) false ⟨#[], #[.slice none 0 0], []⟩ 8 (by kernel_rfl) (by kernel_rfl) (by kernel_rfl) (by kernel_rfl))
    Try.laidOut (by kernel_rfl) rfl rfl rfl Try.underlying4 (fun ds h => match ds, h with | [_], _ => rfl) ?_
  intro W base args ds ps hval hA hlt hsz
  rw [Try.params7] at hA hval hsz
  obtain ⟨v0, vs0, d0, ds0, p0, q0, hargs, rfl, rfl, h0, r0⟩ := trodAll_cons hA
  obtain ⟨rfl, rfl, rfl⟩ := trodAll_nil r0
  obtain rfl : args = #[v0] := by cases args; simp_all
  obtain ⟨A0, n0, c0, R0, rfl, k0, l0, g0⟩ := open_row (hval 0 22 v0 rfl rfl) h0 (fun x hx => hlt x (by simp [hx])) hsz (j := 0) rfl rfl
  exact intervalHull_walk A0 n0 c0 R0 W k0 l0 g0

theorem intervalHull_over : Rows.intervalHullRow.holds Try.pinned (OpenSpec.ofChange Rows.intervalHullSpec) :=
  OpenClaim.holds_of_wide 7 Try.f7 rfl rfl rfl rfl rfl rfl rfl ⟨rfl, rfl, rfl, rfl, rfl⟩ rfl rfl rfl rfl rfl (by kernel_rfl) Try.func7 (by kernel_rfl)
    (of_decide_eq_true (by kernel_rfl)) (by unfold Func.isWrapper; first | (rw [if_pos (by decide +kernel)]; kernel_rfl) | (rw [if_neg (by decide +kernel)]; exact ⟨rfl, rfl⟩))
    (fun os started H enc _ => intervalHull_lifted os started H enc)

theorem intervalHull_proved : Rows.IntervalHullSaid := intervalHull_over
end Go.Proofs.Ytnoddkbpdfimmaa
