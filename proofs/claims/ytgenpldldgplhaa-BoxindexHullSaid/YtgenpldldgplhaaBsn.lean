/- A box of one side of numbers. -/
import Derived.Test.YtgenpldldgplhaaSow
namespace Go.Proofs.Ytgenpldldgplhaa
open Go.ChangeShapes Go.WideShapes Go.ChangeAt Go.RowKit Go.ChangeMaps

def numS (lo hi : Int) : Sd := ⟨false, true, lo, hi, ⟨#[]⟩, ⟨#[]⟩⟩
set_option maxRecDepth 100000 in
set_option maxHeartbeats 2000000 in
theorem Span_any (lo hi : Int) (w : World) : Calls Try.prog 23 #[.int .i64 lo, .int .i64 hi] w fun e w' => ∃ A c, e = .returned (.agg #[.int .i64 0, .slice A 1 c]) ∧ Sds w' A 1 [numS lo hi] ∧ Below w.heap.size w w' := by
  obtain ⟨W2, hW2⟩ : ∃ W2, W2 = (w.alloc (.cells #[.int .i64 0, .slice none 0 0] 40)).alloc (.cells #[.bool false, .bool true, .int .i64 lo, .int .i64 hi, .string ⟨#[]⟩, .string ⟨#[]⟩] 56) := ⟨_, rfl⟩
  have HR := Lib.hid (show Blk W2 w.heap.size 40 #[.int .i64 0, .slice none 0 0] by rw [hW2]; exact (Blk.new_ rfl rfl).alloc _)
  have HN := Lib.hid (show Blk W2 (w.heap.size + 1) 56 #[.bool false, .bool true, .int .i64 lo, .int .i64 hi, .string ⟨#[]⟩, .string ⟨#[]⟩] by rw [hW2]; exact Blk.new_ (by simp) rfl)
  have HB := Lib.hid (show Below w.heap.size w W2 by rw [hW2]; exact ((Below.refl _ w).alloc (Nat.le_refl _) _).alloc (by simp) _)
  subst hW2
  go_enter Try.func23, Try.ntmps23
  go_wp2_with ((refine wpList_store_row (o := ⟨none, _, _, _, _, _⟩) rfl 40 _ _ rfl w.heap.size #[.int .i64 0, .slice (some ⟨w.heap.size + 1, 0, none⟩) 1 1] rfl rfl 40 _ HR.out (by kernel_rfl) rfl (by simp [Value.oneCell']) ?_))
  have gr := grown_row ((w.alloc (.cells #[.int .i64 0, .slice none 0 0] 40)).alloc (.cells #[.bool false, .bool true, .int .i64 lo, .int .i64 hi, .string ⟨#[]⟩, .string ⟨#[]⟩] 56)) w.heap.size #[.int .i64 0, .slice (some ⟨w.heap.size + 1, 0, none⟩) 1 1]
  refine bodyPost_ret (results_c1 rfl _ _ _ w.heap.size _ rfl (load33 (HR.out.setRow (ds := #[.int .i64 0, .slice (some ⟨w.heap.size + 1, 0, none⟩) 1 1])) rfl)) rfl ?_
  refine ⟨_, _, rfl, ?_, HB.out.grown gr HB.out.size (fun j hj => by injection hj with hj; omega)⟩
  have hk := (gr.block _ HN.out.lt (fun e => by injection e with e; omega)).trans HN.out
  refine ⟨rfl, fun _ => ⟨w.heap.size + 1, 0, rfl, Nat.lt_of_lt_of_le HN.out.lt gr.size, fun j u hu => ?_⟩⟩
  rw [Nat.zero_add]
  exact (Blk.cell hk j).trans (by simpa [numS, Sd.cells] using hu)
end Go.Proofs.Ytgenpldldgplhaa
