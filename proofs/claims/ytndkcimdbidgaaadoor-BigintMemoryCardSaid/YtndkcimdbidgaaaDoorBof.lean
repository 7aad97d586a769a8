/- The integer of a number. -/
import Derived.Test.YtndkcimdbidgaaaDoorBsg
namespace Go.Proofs.YtndkcimdbidgaaaDoor
open Go.ChangeShapes Go.WideShapes Go.ChangeAt Go.RowKit Go.ChangeMaps

set_option maxRecDepth 100000 in
set_option maxHeartbeats 4000000 in
theorem Of_any (a : Int) (w : World) (h0 : -9223372036854775808 ≤ a) (h1 : a ≤ 9223372036854775807) : Calls Tryd.prog 25 #[.int .i64 a] w fun e w' => ∃ v, e = .returned v ∧ NB w' w.heap.size v a 2 ∧ Below w.heap.size w w' := by
  obtain ⟨m, hm⟩ : ∃ m : Nat, m = a.natAbs := ⟨_, rfl⟩
  have hmB : m ≤ 9223372036854775808 := by omega
  obtain ⟨lo, hlo⟩ : ∃ lo, lo = m % 4294967296 := ⟨_, rfl⟩
  obtain ⟨hi, hhi⟩ : ∃ hi, hi = m / 4294967296 := ⟨_, rfl⟩
  have hloB : (lo : Int) < 4294967296 := by omega
  have hhiB : (hi : Int) < 4294967296 := by omega
  obtain ⟨W1, hW1⟩ : ∃ W, W = (w.alloc (.cells #[.bool false, .slice none 0 0] 24)).alloc (.cells #[.int .u32 (lo : Int), .int .u32 (hi : Int)] 47) := ⟨_, rfl⟩
  have HB := Lib.hid (show Below w.heap.size w W1 by rw [hW1]; exact ((Below.refl _ w).alloc (Nat.le_refl _) _).alloc (by simp) _)
  have HK := Lib.hid (show Blk W1 w.heap.size 24 #[.bool false, .slice none 0 0] by rw [hW1]; exact (Blk.new _ _ _).alloc _)
  have HO := Lib.hid (show Own W1 w.heap.size (some ⟨w.heap.size + 1, 0, none⟩) 2 [lo, hi] by
    rw [hW1]
    exact Own.of_blk (D := [lo, hi]) (show Blk _ _ 47 (dc [lo, hi]) from Blk.new_ (by simp) rfl) (Nat.le_succ _) (by intro d hd; simp at hd; omega))
  have HD := Lib.hid (show dv 4294967296 [lo, hi] = m by simp only [dv]; omega)
  have HM := Lib.hid hm
  by_cases hn : a < 0
  · have CS := Lib.hid (signed_any true (some ⟨w.heap.size + 1, 0, none⟩) 2 2 _ w.heap.size W1 HO.out (Sl.own (Nat.le_refl _) (by decide)))
    have HZ := Lib.hid (show sgn true (dv 4294967296 [lo, hi]) = a by rw [HD.out]; simp only [sgn, if_true]; omega)
    rw [HZ.out] at CS
    have q1 : IntKind.u64.wrap a = a + 18446744073709551616 := by rw [IntKind.wrap_u64]; omega
    have q2 : IntKind.u64.wrap (-(a + 18446744073709551616)) = (m : Int) := by rw [IntKind.wrap_u64]; omega
    have e1 : (m : Int) % 4294967296 = (lo : Int) := by omega
    have e2 : (m : Int) / 4294967296 = (hi : Int) := by omega
    clear hm hlo hhi
    go_enter Tryd.func25, Tryd.ntmps25
    go_wp2_with fail
    try clear q1 q2
    clear e1 e2
    rw [← hW1]
    refine CS.out.mono ?_
    rintro e w2 ⟨v, rfl, hv, hb⟩
    have HV := Lib.hid hv
    have HB2 := Lib.hid (HB.out.trans (hb.mono HB.out.size))
    have HK2 := Lib.hid (HK.out.below hb)
    clear hb hv hW1
    obtain ⟨Ar, nr, cr, Dr, hevr, hor, hsr, hnr, hvr, hNr⟩ := HV.out
    obtain ⟨sbr, hsbr⟩ : ∃ b, b = decide (a < 0) := ⟨_, rfl⟩
    rw [← hsbr] at hevr
    subst hevr
    have HSBr := Lib.hid hsbr
    clear hsbr
    go_wp2_with ((refine wpList_store_row (o := ⟨none, _, _, _, _, _⟩) rfl 24 _ _ rfl (w.heap.size) #[.bool sbr, .slice Ar nr cr] rfl rfl 24 _ HK2.out (by kernel_rfl) rfl (by simp [Value.oneCell']) ?_))
    refine bodyPost_ret (results_c1 rfl _ _ _ (w.heap.size) _ rfl (load24 (HK2.out.setRow (ds := #[.bool sbr, .slice Ar nr cr])) rfl)) rfl ?_
    exact ⟨_, rfl, NB.row ⟨Ar, nr, cr, Dr, by rw [HSBr.out], hor, hsr, hnr, hvr, hNr⟩ HK2.out _, HB2.out.grown (grown_row w2 (w.heap.size) _) HB2.out.size (fun j hj => by first | (injection hj with hj; omega) | omega | (cases hj; exact Nat.le_refl _))⟩
  · have CS := Lib.hid (signed_any false (some ⟨w.heap.size + 1, 0, none⟩) 2 2 _ w.heap.size W1 HO.out (Sl.own (Nat.le_refl _) (by decide)))
    have HZ := Lib.hid (show sgn false (dv 4294967296 [lo, hi]) = a by rw [HD.out]; simp only [sgn, if_neg (by decide : ¬ false = true)]; omega)
    rw [HZ.out] at CS
    obtain rfl : a = (m : Int) := by omega
    have e1 : (m : Int) % 4294967296 = (lo : Int) := by omega
    have e2 : (m : Int) / 4294967296 = (hi : Int) := by omega
    clear hm hlo hhi
    go_enter Tryd.func25, Tryd.ntmps25
    go_wp2_with fail
    try clear q1 q2
    clear e1 e2
    rw [← hW1]
    refine CS.out.mono ?_
    rintro e w2 ⟨v, rfl, hv, hb⟩
    have HV := Lib.hid hv
    have HB2 := Lib.hid (HB.out.trans (hb.mono HB.out.size))
    have HK2 := Lib.hid (HK.out.below hb)
    clear hb hv hW1
    obtain ⟨Ar, nr, cr, Dr, hevr, hor, hsr, hnr, hvr, hNr⟩ := HV.out
    obtain ⟨sbr, hsbr⟩ : ∃ b, b = decide ((m : Int) < 0) := ⟨_, rfl⟩
    rw [← hsbr] at hevr
    subst hevr
    have HSBr := Lib.hid hsbr
    clear hsbr
    go_wp2_with ((refine wpList_store_row (o := ⟨none, _, _, _, _, _⟩) rfl 24 _ _ rfl (w.heap.size) #[.bool sbr, .slice Ar nr cr] rfl rfl 24 _ HK2.out (by kernel_rfl) rfl (by simp [Value.oneCell']) ?_))
    refine bodyPost_ret (results_c1 rfl _ _ _ (w.heap.size) _ rfl (load24 (HK2.out.setRow (ds := #[.bool sbr, .slice Ar nr cr])) rfl)) rfl ?_
    exact ⟨_, rfl, NB.row ⟨Ar, nr, cr, Dr, by rw [HSBr.out], hor, hsr, hnr, hvr, hNr⟩ HK2.out _, HB2.out.grown (grown_row w2 (w.heap.size) _) HB2.out.size (fun j hj => by first | (injection hj with hj; omega) | omega | (cases hj; exact Nat.le_refl _))⟩
end Go.Proofs.YtndkcimdbidgaaaDoor
