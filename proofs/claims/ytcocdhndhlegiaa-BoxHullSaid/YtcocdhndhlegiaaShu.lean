/- The least box that contains two: one of them empty. -/
import Derived.Test.YtcocdhndhlegiaaScl
import Derived.Handy
namespace Go.Proofs.Ytcocdhndhlegiaa
open Go.ChangeShapes Go.WideShapes Go.ChangeAt Go.RowKit Go.ChangeMaps

set_option maxRecDepth 100000 in
set_option maxHeartbeats 2000000 in
theorem Hull_left (t u : Int) (A : Option Addr) (n c : Nat) (R : List Sd) (A2 : Option Addr) (m c2 : Nat) (S : List Sd) (w : World) (h : Sds w A n R) (h2 : Sds w A2 m S) (hn : n ≤ 1000) (hm : m ≤ 1000) (hz : n = 0) :
    Calls Try.prog 17 #[.agg #[.int .i64 t, .slice A n c], .agg #[.int .i64 u, .slice A2 m c2]] w fun e w' => ∃ A' c', e = .returned (.agg #[.int .i64 t, .slice A' m c']) ∧ Sds w' A' m S ∧ Below w.heap.size w w' := by
  have HK := Lib.hid h2
  clear h h2
  subst hz
  go_enter Try.func17, Try.ntmps17
  go_wp2_with fail
  have HB := Lib.hid (show Below w.heap.size w ((((w.alloc (.cells #[.int .i64 t, .slice A 0 c] 33)).alloc (.cells #[.int .i64 u, .slice A2 m c2] 33)).alloc (.cells #[.int .i64 0, .slice none 0 0] 33)).alloc (.cells #[.int .i64 t, .slice none 0 0] 33)) from ((((Below.refl _ w).alloc (Nat.le_refl _) _).alloc (by simp) _).alloc (by simp; omega) _).alloc (by simp; omega) _)
  obtain ⟨W0, hW0⟩ : ∃ W0, W0 = ((((w.alloc (.cells #[.int .i64 t, .slice A 0 c] 33)).alloc (.cells #[.int .i64 u, .slice A2 m c2] 33)).alloc (.cells #[.int .i64 0, .slice none 0 0] 33)).alloc (.cells #[.int .i64 t, .slice none 0 0] 33)) := ⟨_, rfl⟩
  have HZ1 := Lib.hid (show Blk W0 (w.heap.size + 2) 33 #[.int .i64 0, .slice none 0 0] by rw [hW0]; exact (Blk.new_ (by simp) rfl : Blk ((((w.alloc _).alloc _)).alloc _) _ _ _).alloc _)
  have HZ2 := Lib.hid (show Blk W0 (w.heap.size + 3) 33 #[.int .i64 t, .slice none 0 0] by rw [hW0]; exact Blk.new_ (by simp) rfl)
  rw [← hW0] at HB ⊢
  clear hW0
  refine (Clone_any A2 m c2 S W0 (HK.out.below HB.out) (by omega)).mono ?_
  rintro e w1 ⟨A', c', rfl, hS, hb⟩
  have z1 := Lib.hid (HZ1.out.below hb)
  have z2 := Lib.hid (HZ2.out.below hb)
  have HB1 := Lib.hid (HB.out.trans (hb.mono HB.out.size))
  have HS := Lib.hid hS
  clear hb hS
  have gs := grown_set w1 (w.heap.size + 3) 1 (.slice A' m c')
  have hsz := z2.out.lt
  have z3 := Lib.hid (show Blk (w1.setCell ⟨w.heap.size + 3, 1, none⟩ (.slice A' m c')) (w.heap.size + 3) 33 #[.int .i64 t, .slice A' m c'] from Joins.block_setCell z2.out _)
  have HO2 := Lib.hid (HS.out.kept gs (.inr (own_blk_ne HS.out z2.out (by decide))))
  have z4 := Lib.hid (show Blk (w1.setCell ⟨w.heap.size + 3, 1, none⟩ (.slice A' m c')) (w.heap.size + 2) 33 #[.int .i64 0, .slice none 0 0] from (gs.block _ z1.out.lt (by simp)).trans z1.out)
  have HB2 := Lib.hid (HB1.out.grown gs HB1.out.size (fun j hj => by injection hj with hj; omega))
  have hc : w1.cell? ⟨w.heap.size + 1 + 1 + 1, 1, none⟩ = some (.slice none 0 0) := z2.out.cell 1
  have hf : w1.frozen? ⟨w.heap.size + 1 + 1 + 1, 1, none⟩ = false := Joins.unfrozen_of_block z2.out 1
  have e0 : (w1.setCell ⟨w.heap.size + 1 + 1 + 1, 1, none⟩ (.slice A' m c')).cell? ⟨w.heap.size + 1 + 1 + 1, 0, none⟩ = some (.int .i64 t) := z3.out.cell 0
  have e1 : (w1.setCell ⟨w.heap.size + 1 + 1 + 1, 1, none⟩ (.slice A' m c')).cell? ⟨w.heap.size + 1 + 1 + 1, 1, none⟩ = some (.slice A' m c') := z3.out.cell 1
  clear gs
  go_wp2_with ((refine wpList_store_row (o := ⟨none, _, _, _, _, _⟩) rfl 33 _ _ rfl (w.heap.size + 2) #[.int .i64 t, .slice A' m c'] rfl rfl 33 _ z4.out (by kernel_rfl) rfl (by simp [Value.oneCell']) ?_))
  have gr := grown_row (w1.setCell ⟨w.heap.size + 1 + 1 + 1, 1, none⟩ (.slice A' m c')) (w.heap.size + 2) #[.int .i64 t, .slice A' m c']
  refine bodyPost_ret (results_c1 rfl _ _ _ (w.heap.size + 2) _ rfl (load33 (z4.out.setRow (ds := #[.int .i64 t, .slice A' m c'])) rfl)) rfl ?_
  exact ⟨A', c', rfl, Sds.own (HO2.out.kept gr (.inr (own_blk_ne HO2.out z4.out (by decide)))), HB2.out.grown gr HB2.out.size (fun j hj => by injection hj with hj; omega)⟩
set_option maxRecDepth 100000 in
set_option maxHeartbeats 2000000 in
theorem Hull_right (t u : Int) (A : Option Addr) (n c : Nat) (R : List Sd) (A2 : Option Addr) (m c2 : Nat) (S : List Sd) (w : World) (h : Sds w A n R) (h2 : Sds w A2 m S) (hn : n ≤ 1000) (hm : m ≤ 1000) (hz : ¬ n = 0) (hz2 : m = 0) :
    Calls Try.prog 17 #[.agg #[.int .i64 t, .slice A n c], .agg #[.int .i64 u, .slice A2 m c2]] w fun e w' => ∃ A' c', e = .returned (.agg #[.int .i64 t, .slice A' n c']) ∧ Sds w' A' n R ∧ Below w.heap.size w w' := by
  have HK := Lib.hid h
  clear h h2
  subst hz2
  have hz0 : ((n : Int) == 0) = false := by simp; omega
  go_enter Try.func17, Try.ntmps17
  go_wp2_with fail
  have HB := Lib.hid (show Below w.heap.size w ((((w.alloc (.cells #[.int .i64 t, .slice A n c] 33)).alloc (.cells #[.int .i64 u, .slice A2 0 c2] 33)).alloc (.cells #[.int .i64 0, .slice none 0 0] 33)).alloc (.cells #[.int .i64 t, .slice none 0 0] 33)) from ((((Below.refl _ w).alloc (Nat.le_refl _) _).alloc (by simp) _).alloc (by simp; omega) _).alloc (by simp; omega) _)
  obtain ⟨W0, hW0⟩ : ∃ W0, W0 = ((((w.alloc (.cells #[.int .i64 t, .slice A n c] 33)).alloc (.cells #[.int .i64 u, .slice A2 0 c2] 33)).alloc (.cells #[.int .i64 0, .slice none 0 0] 33)).alloc (.cells #[.int .i64 t, .slice none 0 0] 33)) := ⟨_, rfl⟩
  have HZ1 := Lib.hid (show Blk W0 (w.heap.size + 2) 33 #[.int .i64 0, .slice none 0 0] by rw [hW0]; exact (Blk.new_ (by simp) rfl : Blk ((((w.alloc _).alloc _)).alloc _) _ _ _).alloc _)
  have HZ2 := Lib.hid (show Blk W0 (w.heap.size + 3) 33 #[.int .i64 t, .slice none 0 0] by rw [hW0]; exact Blk.new_ (by simp) rfl)
  rw [← hW0] at HB ⊢
  clear hW0
  refine (Clone_any A n c R W0 (HK.out.below HB.out) (by omega)).mono ?_
  rintro e w1 ⟨A', c', rfl, hS, hb⟩
  have z1 := Lib.hid (HZ1.out.below hb)
  have z2 := Lib.hid (HZ2.out.below hb)
  have HB1 := Lib.hid (HB.out.trans (hb.mono HB.out.size))
  have HS := Lib.hid hS
  clear hb hS
  have gs := grown_set w1 (w.heap.size + 3) 1 (.slice A' n c')
  have hsz := z2.out.lt
  have z3 := Lib.hid (show Blk (w1.setCell ⟨w.heap.size + 3, 1, none⟩ (.slice A' n c')) (w.heap.size + 3) 33 #[.int .i64 t, .slice A' n c'] from Joins.block_setCell z2.out _)
  have HO2 := Lib.hid (HS.out.kept gs (.inr (own_blk_ne HS.out z2.out (by decide))))
  have z4 := Lib.hid (show Blk (w1.setCell ⟨w.heap.size + 3, 1, none⟩ (.slice A' n c')) (w.heap.size + 2) 33 #[.int .i64 0, .slice none 0 0] from (gs.block _ z1.out.lt (by simp)).trans z1.out)
  have HB2 := Lib.hid (HB1.out.grown gs HB1.out.size (fun j hj => by injection hj with hj; omega))
  have hc : w1.cell? ⟨w.heap.size + 1 + 1 + 1, 1, none⟩ = some (.slice none 0 0) := z2.out.cell 1
  have hf : w1.frozen? ⟨w.heap.size + 1 + 1 + 1, 1, none⟩ = false := Joins.unfrozen_of_block z2.out 1
  have e0 : (w1.setCell ⟨w.heap.size + 1 + 1 + 1, 1, none⟩ (.slice A' n c')).cell? ⟨w.heap.size + 1 + 1 + 1, 0, none⟩ = some (.int .i64 t) := z3.out.cell 0
  have e1 : (w1.setCell ⟨w.heap.size + 1 + 1 + 1, 1, none⟩ (.slice A' n c')).cell? ⟨w.heap.size + 1 + 1 + 1, 1, none⟩ = some (.slice A' n c') := z3.out.cell 1
  clear gs
  go_wp2_with ((refine wpList_store_row (o := ⟨none, _, _, _, _, _⟩) rfl 33 _ _ rfl (w.heap.size + 2) #[.int .i64 t, .slice A' n c'] rfl rfl 33 _ z4.out (by kernel_rfl) rfl (by simp [Value.oneCell']) ?_))
  have gr := grown_row (w1.setCell ⟨w.heap.size + 1 + 1 + 1, 1, none⟩ (.slice A' n c')) (w.heap.size + 2) #[.int .i64 t, .slice A' n c']
  refine bodyPost_ret (results_c1 rfl _ _ _ (w.heap.size + 2) _ rfl (load33 (z4.out.setRow (ds := #[.int .i64 t, .slice A' n c'])) rfl)) rfl ?_
  exact ⟨A', c', rfl, Sds.own (HO2.out.kept gr (.inr (own_blk_ne HO2.out z4.out (by decide)))), HB2.out.grown gr HB2.out.size (fun j hj => by injection hj with hj; omega)⟩
end Go.Proofs.Ytcocdhndhlegiaa
