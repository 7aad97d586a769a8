/- The examples of the document. -/
import Derived.Test.YtkigdglipoeaaaaDoorFrw
namespace Go.Proofs.YtkigdglipoeaaaaDoor
open Go.ChangeShapes Go.WideShapes Go.ChangeAt Go.RowKit Go.ChangeMaps

theorem more_below {w W W' : World} (h : Below w.heap.size w W) (hb : Below W.heap.size W W') : Below w.heap.size w W' := h.trans (hb.mono h.size)
def exR : List V3 := [⟨1, 7, ⟨#[]⟩⟩, ⟨0, 0, ⟨#[]⟩⟩]
theorem exR_at (w : World) : RowAt (w.alloc (.cells #[.int .i64 1, .int .i64 7, .string ⟨#[]⟩, .int .i64 0, .int .i64 0, .string ⟨#[]⟩] 23)) (some ⟨w.heap.size, 0, none⟩) 2 exR := by
  refine ⟨rfl, fun _ => ⟨w.heap.size, 0, rfl, by simp, fun i h => ?_⟩⟩
  match i, h with
  | 0, _ => exact ⟨newcell 0 _ rfl rfl, newcell 1 _ rfl rfl, newcell 2 _ rfl rfl⟩
  | 1, _ => exact ⟨newcell 3 _ rfl rfl, newcell 4 _ rfl rfl, newcell 5 _ rfl rfl⟩
theorem exR_ok : ∀ x ∈ exR, x.ok := by
  intro x hx
  simp only [exR, List.mem_cons, List.not_mem_nil, or_false] at hx
  rcases hx with rfl | rfl <;> exact ⟨by simp, by simp, by simp, by simp, Nat.zero_le _⟩
theorem fmt_seven : fmtV ⟨1, 7, ⟨#[]⟩⟩ = [55] := by
  rw [fmtV_eq]
  show Lib.itoa 7 = _
  unfold Lib.itoa
  rw [if_neg (by decide)]
  unfold Lib.decDigits
  rfl
theorem fmt_its : fmtV ⟨2, 0, ⟨#[105, 116, 39, 115]⟩⟩ = [39, 105, 116, 39, 39, 115, 39] := by
  rw [fmtV_eq]; rfl
theorem row_ex : rowT exR = [40, 55, 44, 32, 78, 85, 76, 76, 41] := by
  have e : exR.map fmtV = [[55], [78, 85, 76, 76]] := by
    show [fmtV ⟨1, 7, ⟨#[]⟩⟩, fmtV ⟨0, 0, ⟨#[]⟩⟩] = _
    rw [fmt_seven, fmtV_eq]; rfl
  unfold rowT
  rw [e]; rfl
set_option maxRecDepth 100000 in
theorem awake_any (w : World) (hE : Env w) : Calls Tryd.prog 11 #[] w fun e w' => e = .returned (.bool true) ∧ Below w.heap.size w w' := by
  have C1 : ∀ w, Calls Tryd.prog 15 #[.agg #[.int .i64 0, .int .i64 0, .string ⟨#[]⟩], .agg #[.int .i64 1, .int .i64 (-5), .string ⟨#[]⟩]] w fun e w' => e = .returned (.int .i64 (-1)) ∧ Below w.heap.size w w' := fun w => VCmp_any _ _ _ _ _ _ w
  have C2 : ∀ w, Calls Tryd.prog 15 #[.agg #[.int .i64 1, .int .i64 3, .string ⟨#[]⟩], .agg #[.int .i64 2, .int .i64 0, .string ⟨#[97]⟩]] w fun e w' => e = .returned (.int .i64 (-1)) ∧ Below w.heap.size w w' := fun w => VCmp_any _ _ _ _ _ _ w
  have C3 : ∀ w, Calls Tryd.prog 20 #[.agg #[.int .i64 0, .int .i64 0, .string ⟨#[]⟩], .agg #[.int .i64 0, .int .i64 0, .string ⟨#[]⟩]] w fun e w' => e = .returned (.int .i64 2) ∧ Below w.heap.size w w' := fun w => VEqual_any _ _ _ _ _ _ w
  have C4 : ∀ w, Env w → Calls Tryd.prog 26 #[.agg #[.int .i64 2, .int .i64 0, .string ⟨#[105, 116, 39, 115]⟩]] w fun e w' => e = .returned (.string ⟨#[39, 105, 116, 39, 39, 115, 39]⟩) ∧ Below w.heap.size w w' := fun w h => by
    have := VFormat_any 2 0 ⟨#[105, 116, 39, 115]⟩ w h (by decide) (by decide) (by decide)
    rw [fmt_its] at this; exact this
  have C5 : ∀ w, Env w → Calls Tryd.prog 29 #[.slice (some ⟨w.heap.size, 0, none⟩) 2 2] (w.alloc (.cells #[.int .i64 1, .int .i64 7, .string ⟨#[]⟩, .int .i64 0, .int .i64 0, .string ⟨#[]⟩] 23)) fun e w' => e = .returned (.string ⟨#[40, 55, 44, 32, 78, 85, 76, 76, 41]⟩) ∧ Below (w.alloc (.cells #[.int .i64 1, .int .i64 7, .string ⟨#[]⟩, .int .i64 0, .int .i64 0, .string ⟨#[]⟩] 23)).heap.size (w.alloc (.cells #[.int .i64 1, .int .i64 7, .string ⟨#[]⟩, .int .i64 0, .int .i64 0, .string ⟨#[]⟩] 23)) w' := fun w h => by
    have := VFormatRow_any _ 2 2 exR _ (h.below ((Below.refl _ w).alloc (Nat.le_refl _) _)) (exR_at w) (by decide) exR_ok
    rw [row_ex] at this; exact this
  have C1 := Lib.hid C1
  have C2 := Lib.hid C2
  have C3 := Lib.hid C3
  have C4 := Lib.hid C4
  have C5 := Lib.hid C5
  have HE := Lib.hid hE
  clear hE
  have B1 := Below.refl w.heap.size w
  go_enter Tryd.func11, Tryd.ntmps11
  go_wp2_with fail
  refine (Int_any _ _).mono ?_
  rintro e w1 ⟨rfl, hb⟩
  have B1 := more_below B1 hb
  clear hb
  go_wp2_with fail
  refine (C1.out _).mono ?_
  rintro e w2 ⟨rfl, hb⟩
  have B1 := more_below B1 hb
  clear hb
  go_wp2_with fail
  refine (Int_any _ _).mono ?_
  rintro e w3 ⟨rfl, hb⟩
  have B1 := more_below B1 hb
  clear hb
  go_wp2_with fail
  refine (Text_any _ _).mono ?_
  rintro e w4 ⟨rfl, hb⟩
  have B1 := more_below B1 hb
  clear hb
  go_wp2_with fail
  refine (C2.out _).mono ?_
  rintro e w5 ⟨rfl, hb⟩
  have B1 := more_below B1 hb
  clear hb
  go_wp2_with fail
  refine (C3.out _).mono ?_
  rintro e w6 ⟨rfl, hb⟩
  have B1 := more_below B1 hb
  clear hb
  go_wp2_with fail
  refine (Text_any _ _).mono ?_
  rintro e w7 ⟨rfl, hb⟩
  have B1 := more_below B1 hb
  clear hb
  go_wp2_with fail
  refine (C4.out _ (HE.out.below B1)).mono ?_
  rintro e w8 ⟨rfl, hb⟩
  have B1 := more_below B1 hb
  clear hb
  go_wp2_with fail
  refine (Int_any _ _).mono ?_
  rintro e w9 ⟨rfl, hb⟩
  have B1 := more_below B1 hb
  clear hb
  go_wp2_with fail
  refine (C5.out _ (HE.out.below B1)).mono ?_
  rintro e w10 ⟨rfl, hb⟩
  have B1 := more_below (B1.alloc B1.size _) hb
  clear hb
  go_wp2
  go_ret
  exact ⟨rfl, B1⟩
end Go.Proofs.YtkigdglipoeaaaaDoor
