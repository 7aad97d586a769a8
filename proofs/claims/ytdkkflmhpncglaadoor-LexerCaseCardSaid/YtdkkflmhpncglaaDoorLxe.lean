/- The examples of the document. -/
import Derived.Test.YtdkkflmhpncglaaDoorLxq
import Derived.Test.YtdkkflmhpncglaaDoorLxv
namespace Go.Proofs.YtdkkflmhpncglaaDoor
open Go.ChangeShapes Go.WideShapes Go.ChangeAt Go.RowKit Go.ChangeMaps

def WANT : List Tk := [⟨2, [83, 69, 76, 69, 67, 84], 0⟩, ⟨1, [97], 7⟩, ⟨5, [46], 8⟩, ⟨1, [98], 9⟩, ⟨5, [60, 61], 10⟩, ⟨5, [45], 12⟩, ⟨3, [55], 13⟩, ⟨0, [], 19⟩]
theorem want_tok : tokL [83, 69, 76, 69, 67, 84, 32, 97, 46, 66, 60, 61, 45, 55, 32, 45, 45, 32, 120] = ⟨WANT, 0, 0⟩ := by kernel_rfl
theorem want_same : decide (WANT = WANT.map (shf 0)) = true := by kernel_rfl
theorem want_cells : (WANT.flatMap Tk.cells).toArray = #[.int .i64 2, .string ⟨#[83, 69, 76, 69, 67, 84]⟩, .int .i64 0, .int .i64 1, .string ⟨#[97]⟩, .int .i64 7, .int .i64 5, .string ⟨#[46]⟩, .int .i64 8, .int .i64 1, .string ⟨#[98]⟩, .int .i64 9, .int .i64 5, .string ⟨#[60, 61]⟩, .int .i64 10, .int .i64 5, .string ⟨#[45]⟩, .int .i64 12, .int .i64 3, .string ⟨#[55]⟩, .int .i64 13, .int .i64 0, .string ⟨#[]⟩, .int .i64 19] := by kernel_rfl
theorem want_quote : QuoteL [105, 116, 39, 115] = [39, 105, 116, 39, 39, 115, 39] := by kernel_rfl
theorem Tks.of_blk {w : World} {g : Nat} {L : TypeId} {R : List Tk} (h : Blk w g L (R.flatMap Tk.cells).toArray) : Tks w (some ⟨g, 0, none⟩) R.length R := by
  refine ⟨by rw [flat_len Tk.cells 3 (fun _ => rfl)], fun _ => ⟨g, 0, rfl, h.lt, fun j u hj => ?_⟩⟩
  rw [Nat.zero_add, h.cell, List.getElem?_toArray]
  exact hj
set_option maxRecDepth 100000 in
set_option maxHeartbeats 2000000 in
theorem awake_any (w : World) (hE : LEnv w) : Calls Tryd.prog 10 #[] w fun e w' => e = .returned (.bool true) ∧ Below w.heap.size w w' := by
  have CT := Lib.hid (show ∀ W, LEnv W → Calls Tryd.prog 11 #[.string ⟨#[83, 69, 76, 69, 67, 84, 32, 97, 46, 66, 60, 61, 45, 55, 32, 45, 45, 32, 120]⟩] W fun e w' => ∃ v, e = .returned (.tuple #[v, .int .i64 0, .int .i64 0]) ∧ OT 37 w' W.heap.size v WANT ∧ Below W.heap.size W w' by
    intro W hW
    have h := Tokens_any ⟨#[83, 69, 76, 69, 67, 84, 32, 97, 46, 66, 60, 61, 45, 55, 32, 45, 45, 32, 120]⟩ W (by decide) hW
    rw [show lst ⟨#[83, 69, 76, 69, 67, 84, 32, 97, 46, 66, 60, 61, 45, 55, 32, 45, 45, 32, 120]⟩ = [83, 69, 76, 69, 67, 84, 32, 97, 46, 66, 60, 61, 45, 55, 32, 45, 45, 32, 120] from rfl, want_tok] at h
    exact h)
  have CQ := Lib.hid (show ∀ W, LEnv W → Calls Tryd.prog 18 #[.string ⟨#[105, 116, 39, 115]⟩] W fun e w' => e = .returned (.string ⟨#[39, 105, 116, 39, 39, 115, 39]⟩) ∧ Below W.heap.size W w' by
    intro W hW
    have h := Quote_any ⟨#[105, 116, 39, 115]⟩ W (by decide) hW
    rw [show lst ⟨#[105, 116, 39, 115]⟩ = [105, 116, 39, 115] from rfl, want_quote] at h
    exact h)
  have HE := Lib.hid hE
  clear hE
  go_enter Tryd.func10, Tryd.ntmps10
  go_wp2_with fail
  refine (CT.out _ HE.out).mono ?_
  rintro e w1 ⟨v, rfl, hO, hb⟩
  obtain ⟨A, c, rfl, hT, -⟩ := OT.tks hO
  have HT := Lib.hid hT
  have HB1 := Lib.hid hb
  clear hb hO hT
  obtain ⟨W2, hW2⟩ : ∃ W, W = w1.alloc (.cells #[.int .i64 2, .string ⟨#[83, 69, 76, 69, 67, 84]⟩, .int .i64 0, .int .i64 1, .string ⟨#[97]⟩, .int .i64 7, .int .i64 5, .string ⟨#[46]⟩, .int .i64 8, .int .i64 1, .string ⟨#[98]⟩, .int .i64 9, .int .i64 5, .string ⟨#[60, 61]⟩, .int .i64 10, .int .i64 5, .string ⟨#[45]⟩, .int .i64 12, .int .i64 3, .string ⟨#[55]⟩, .int .i64 13, .int .i64 0, .string ⟨#[]⟩, .int .i64 19] 43) := ⟨_, rfl⟩
  have HB2 := Lib.hid (show Below w.heap.size w W2 by rw [hW2]; exact HB1.out.alloc HB1.out.size _)
  have HT2 := Lib.hid (show Tks W2 A WANT.length WANT by rw [hW2]; exact HT.out.alloc _)
  have HX2 := Lib.hid (show Tks W2 (some ⟨w1.heap.size, 0, none⟩) WANT.length WANT from Tks.of_blk (L := 43) (by rw [want_cells, hW2]; exact Blk.new _ _ _))
  have CS := Lib.hid (show Calls Tryd.prog 13 #[.slice A 8 c, .slice (some ⟨w1.heap.size, 0, none⟩) 8 8, .int .i64 0] W2 fun e w' => e = .returned (.bool true) ∧ Below W2.heap.size W2 w' by
    have h := same_any A (some ⟨w1.heap.size, 0, none⟩) WANT.length WANT.length c 8 0 WANT WANT W2 HT2.out HX2.out (by decide) (by decide) (by decide)
    rw [want_same] at h
    exact h)
  clear HT HT2 HX2
  go_upto_region 3 with fail
  rw [← hW2]
  clear hW2
  have hlen : WANT.length = 8 := rfl
  rw [hlen]
  go_wp2_with fail
  refine CS.out.mono ?_
  rintro e w3 ⟨rfl, hb⟩
  have HB3 := Lib.hid (HB2.out.trans (hb.mono HB2.out.size))
  clear hb CS
  go_wp2_with fail
  refine (CQ.out _ (HE.out.below (HB3.out.mono (Nat.le_refl _)))).mono ?_
  rintro e w4 ⟨rfl, hb⟩
  have HB4 := Lib.hid (HB3.out.trans (hb.mono HB3.out.size))
  clear hb
  go_wp2
  go_ret
  exact ⟨rfl, HB4.out⟩
end Go.Proofs.YtdkkflmhpncglaaDoor
