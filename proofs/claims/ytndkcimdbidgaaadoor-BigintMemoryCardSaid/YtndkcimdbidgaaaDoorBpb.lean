/- A text that is no decimal number. -/
import Derived.Test.YtndkcimdbidgaaaDoorBpa
namespace Go.Proofs.YtndkcimdbidgaaaDoor
open Go.ChangeShapes Go.WideShapes Go.ChangeAt Go.RowKit Go.ChangeMaps

set_option maxRecDepth 100000 in
set_option maxHeartbeats 4000000 in
theorem Parse_bad (s t : ByteArray) (neg : Bool) (w : World) (ht : Lib.trimPrefix s.data.toList [45] = t.data.toList) (hn : Lib.hasPrefix s.data.toList [45] = neg) (hbad : ¬ decT t.data.toList ∨ (neg = true ∧ t.data.toList = [48])) (hts : t.size ≤ 1000) :
    Calls Tryd.prog 40 #[.string s] w fun e w' => e = .returned (.tuple #[.agg #[.bool false, .slice none 0 0], .int .i64 2]) ∧ Below w.heap.size w w' := by
  obtain ⟨W0, hW0⟩ : ∃ W, W = w.alloc (.cells #[.bool false, .slice none 0 0] 24) := ⟨_, rfl⟩
  have HB := Lib.hid (show Below w.heap.size w W0 by rw [hW0]; exact (Below.refl _ w).alloc (Nat.le_refl _) _)
  have HK := Lib.hid (show Blk W0 w.heap.size 24 #[.bool false, .slice none 0 0] by rw [hW0]; exact Blk.new _ _ _)
  have CC := Lib.hid (Tryd.strings_CutPrefix s ⟨#[45]⟩ W0)
  have CD := Lib.hid (decimal_any t W0 (by omega))
  rw [show (⟨#[45]⟩ : ByteArray).data.toList = [45] from rfl, ht, hn] at CC
  rw [show (⟨t.data.toList.toArray⟩ : ByteArray) = t from by cases t; simp] at CC
  have HZ := Lib.hid hbad
  clear ht hn hbad
  go_enter Tryd.func40, Tryd.ntmps40
  go_wp2_with fail
  rw [← hW0]
  clear hW0
  refine CC.out.mono ?_
  rintro e w1 ⟨rfl, hy⟩
  replace hy := hy.symm
  subst hy
  go_wp2_with fail
  refine CD.out.mono ?_
  rintro e w1 ⟨b, rfl, hb, hy⟩
  replace hy := hy.symm
  subst hy
  have hcase : b = false ∨ (b = true ∧ neg = true ∧ (t.toList == (⟨#[48]⟩ : ByteArray).toList) = true ∧ t = ⟨#[48]⟩) := by
    cases b with
    | false => exact .inl rfl
    | true =>
      rcases HZ.out with h | ⟨h, h2⟩
      · exact absurd (hb.1 rfl) h
      · have e : t = ⟨#[48]⟩ := WideShapes.bytes_inj h2
        exact .inr ⟨rfl, h, by rw [e]; simp, e⟩
  clear hb CC CD HZ
  rcases hcase with hb | ⟨hb, hneg, q1, q2⟩
  · subst hb
    go_wp2_with ((refine wpList_store_row (o := ⟨none, _, _, _, _, _⟩) rfl 24 _ _ rfl (w.heap.size) #[.bool false, .slice none 0 0] rfl rfl 24 _ HK.out (by kernel_rfl) rfl (by simp [Value.oneCell']) ?_))
    refine bodyPost_ret (results_ct rfl _ _ _ (w.heap.size) _ rfl (load24 (HK.out.setRow (ds := #[.bool false, .slice none 0 0])) rfl)) rfl ?_
    exact ⟨rfl, HB.out.grown (grown_row W0 (w.heap.size) _) HB.out.size (fun j hj => by first | (injection hj with hj; omega) | omega | (cases hj; exact Nat.le_refl _))⟩
  · subst hb
    subst hneg
    subst q2
    clear q1
    go_wp2_with ((refine wpList_store_row (o := ⟨none, _, _, _, _, _⟩) rfl 24 _ _ rfl (w.heap.size) #[.bool false, .slice none 0 0] rfl rfl 24 _ HK.out (by kernel_rfl) rfl (by simp [Value.oneCell']) ?_))
    refine bodyPost_ret (results_ct rfl _ _ _ (w.heap.size) _ rfl (load24 (HK.out.setRow (ds := #[.bool false, .slice none 0 0])) rfl)) rfl ?_
    exact ⟨rfl, HB.out.grown (grown_row W0 (w.heap.size) _) HB.out.size (fun j hj => by first | (injection hj with hj; omega) | omega | (cases hj; exact Nat.le_refl _))⟩
end Go.Proofs.YtndkcimdbidgaaaDoor
