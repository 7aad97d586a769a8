/- Law ValueTotalOrder: the walk. -/
import Derived.Test.YtkigdglipoeaaaaDoorAwk
import Derived.Test.YtkigdglipoeaaaaDoorOrd
namespace Go.Proofs.YtkigdglipoeaaaaDoor
open Go.ChangeShapes Go.WideShapes Go.ChangeAt Go.RowKit Go.ChangeMaps

set_option maxRecDepth 100000 in
theorem valueTotalOrder_long0 (a0 a1 : Int) (a2 : ByteArray) (b0 b1 : Int) (b2 : ByteArray) (c0 c1 : Int) (c2 : ByteArray) (w : World) (ha0 : -9223372036854775808 ≤ a0) (ga0 : a0 ≤ 9223372036854775807) (ha1 : -9223372036854775808 ≤ a1) (ga1 : a1 ≤ 9223372036854775807) (ha2 : a2.size ≤ 9223372036854775807) (hb0 : -9223372036854775808 ≤ b0) (gb0 : b0 ≤ 9223372036854775807) (hb1 : -9223372036854775808 ≤ b1) (gb1 : b1 ≤ 9223372036854775807) (hb2 : b2.size ≤ 9223372036854775807) (hc0 : -9223372036854775808 ≤ c0) (gc0 : c0 ≤ 9223372036854775807) (hc1 : -9223372036854775808 ≤ c1) (gc1 : c1 ≤ 9223372036854775807) (hc2 : c2.size ≤ 9223372036854775807) (hE : Env w) (l0 : decide (100 < a2.size) = true) :
    Calls Tryd.prog 5 #[.agg #[.int .i64 a0, .int .i64 a1, .string a2], .agg #[.int .i64 b0, .int .i64 b1, .string b2], .agg #[.int .i64 c0, .int .i64 c1, .string c2]] w fun e w' => e = .returned (.bool true) ∧ Below w.heap.size w w' := by
  have L0 := fun w => long_any a0 a1 a2 w
  rw [l0] at L0
  have L0 := Lib.hid L0
  go_enter Tryd.func5, Tryd.ntmps5
  go_wp2_with fail
  obtain ⟨B, hB⟩ : ∃ B, w.heap.size = B := ⟨_, rfl⟩
  have B1 : Below w.heap.size w (((w.alloc (.cells #[.int .i64 a0, .int .i64 a1, .string a2] 23)).alloc (.cells #[.int .i64 b0, .int .i64 b1, .string b2] 23)).alloc (.cells #[.int .i64 c0, .int .i64 c1, .string c2] 23)) := (((Below.refl _ w).alloc (Nat.le_refl _) _).alloc (by simp; try omega) _).alloc (by simp; try omega) _
  have y00 : (((w.alloc (.cells #[.int .i64 a0, .int .i64 a1, .string a2] 23)).alloc (.cells #[.int .i64 b0, .int .i64 b1, .string b2] 23)).alloc (.cells #[.int .i64 c0, .int .i64 c1, .string c2] 23)).cell? ⟨B, 0, none⟩ = some (.int .i64 a0) := pastcell (pastcell (newcell 0 _ hB.symm rfl))
  have y01 : (((w.alloc (.cells #[.int .i64 a0, .int .i64 a1, .string a2] 23)).alloc (.cells #[.int .i64 b0, .int .i64 b1, .string b2] 23)).alloc (.cells #[.int .i64 c0, .int .i64 c1, .string c2] 23)).cell? ⟨B, 1, none⟩ = some (.int .i64 a1) := pastcell (pastcell (newcell 1 _ hB.symm rfl))
  have y02 : (((w.alloc (.cells #[.int .i64 a0, .int .i64 a1, .string a2] 23)).alloc (.cells #[.int .i64 b0, .int .i64 b1, .string b2] 23)).alloc (.cells #[.int .i64 c0, .int .i64 c1, .string c2] 23)).cell? ⟨B, 2, none⟩ = some (.string a2) := pastcell (pastcell (newcell 2 _ hB.symm rfl))
  have y10 : (((w.alloc (.cells #[.int .i64 a0, .int .i64 a1, .string a2] 23)).alloc (.cells #[.int .i64 b0, .int .i64 b1, .string b2] 23)).alloc (.cells #[.int .i64 c0, .int .i64 c1, .string c2] 23)).cell? ⟨B + 1, 0, none⟩ = some (.int .i64 b0) := pastcell (newcell 0 _ (by simp [hB]) rfl)
  have y11 : (((w.alloc (.cells #[.int .i64 a0, .int .i64 a1, .string a2] 23)).alloc (.cells #[.int .i64 b0, .int .i64 b1, .string b2] 23)).alloc (.cells #[.int .i64 c0, .int .i64 c1, .string c2] 23)).cell? ⟨B + 1, 1, none⟩ = some (.int .i64 b1) := pastcell (newcell 1 _ (by simp [hB]) rfl)
  have y12 : (((w.alloc (.cells #[.int .i64 a0, .int .i64 a1, .string a2] 23)).alloc (.cells #[.int .i64 b0, .int .i64 b1, .string b2] 23)).alloc (.cells #[.int .i64 c0, .int .i64 c1, .string c2] 23)).cell? ⟨B + 1, 2, none⟩ = some (.string b2) := pastcell (newcell 2 _ (by simp [hB]) rfl)
  have y20 : (((w.alloc (.cells #[.int .i64 a0, .int .i64 a1, .string a2] 23)).alloc (.cells #[.int .i64 b0, .int .i64 b1, .string b2] 23)).alloc (.cells #[.int .i64 c0, .int .i64 c1, .string c2] 23)).cell? ⟨B + 2, 0, none⟩ = some (.int .i64 c0) := newcell 0 _ (by simp [hB]) rfl
  have y21 : (((w.alloc (.cells #[.int .i64 a0, .int .i64 a1, .string a2] 23)).alloc (.cells #[.int .i64 b0, .int .i64 b1, .string b2] 23)).alloc (.cells #[.int .i64 c0, .int .i64 c1, .string c2] 23)).cell? ⟨B + 2, 1, none⟩ = some (.int .i64 c1) := newcell 1 _ (by simp [hB]) rfl
  have y22 : (((w.alloc (.cells #[.int .i64 a0, .int .i64 a1, .string a2] 23)).alloc (.cells #[.int .i64 b0, .int .i64 b1, .string b2] 23)).alloc (.cells #[.int .i64 c0, .int .i64 c1, .string c2] 23)).cell? ⟨B + 2, 2, none⟩ = some (.string c2) := newcell 2 _ (by simp [hB]) rfl
  rw [hB]
  have HE := Lib.hid hE
  clear hE
  generalize (((w.alloc (.cells #[.int .i64 a0, .int .i64 a1, .string a2] 23)).alloc (.cells #[.int .i64 b0, .int .i64 b1, .string b2] 23)).alloc (.cells #[.int .i64 c0, .int .i64 c1, .string c2] 23)) = W at *
  clear hB
  go_wp2_with fail
  refine (awake_any _ (HE.out.below B1)).mono ?_
  rintro e w0 ⟨rfl, hb⟩
  have B1 := more_below B1 hb
  have y00 := keepcell hb y00
  have y01 := keepcell hb y01
  have y02 := keepcell hb y02
  have y10 := keepcell hb y10
  have y11 := keepcell hb y11
  have y12 := keepcell hb y12
  have y20 := keepcell hb y20
  have y21 := keepcell hb y21
  have y22 := keepcell hb y22
  clear hb
  go_wp2_with fail
  refine (L0.out _).mono ?_
  rintro e w1 ⟨rfl, hb⟩
  have B1 := more_below B1 hb
  have y00 := keepcell hb y00
  have y01 := keepcell hb y01
  have y02 := keepcell hb y02
  have y10 := keepcell hb y10
  have y11 := keepcell hb y11
  have y12 := keepcell hb y12
  have y20 := keepcell hb y20
  have y21 := keepcell hb y21
  have y22 := keepcell hb y22
  clear hb
  go_wp2_with fail
  refine (awake_any _ (HE.out.below B1)).mono ?_
  rintro e w9 ⟨rfl, hb⟩
  have B1 := more_below B1 hb
  clear hb
  go_wp2
  go_ret
  exact ⟨rfl, B1⟩
set_option maxRecDepth 100000 in
theorem valueTotalOrder_long1 (a0 a1 : Int) (a2 : ByteArray) (b0 b1 : Int) (b2 : ByteArray) (c0 c1 : Int) (c2 : ByteArray) (w : World) (ha0 : -9223372036854775808 ≤ a0) (ga0 : a0 ≤ 9223372036854775807) (ha1 : -9223372036854775808 ≤ a1) (ga1 : a1 ≤ 9223372036854775807) (ha2 : a2.size ≤ 9223372036854775807) (hb0 : -9223372036854775808 ≤ b0) (gb0 : b0 ≤ 9223372036854775807) (hb1 : -9223372036854775808 ≤ b1) (gb1 : b1 ≤ 9223372036854775807) (hb2 : b2.size ≤ 9223372036854775807) (hc0 : -9223372036854775808 ≤ c0) (gc0 : c0 ≤ 9223372036854775807) (hc1 : -9223372036854775808 ≤ c1) (gc1 : c1 ≤ 9223372036854775807) (hc2 : c2.size ≤ 9223372036854775807) (hE : Env w) (l0 : decide (100 < a2.size) = false) (l1 : decide (100 < b2.size) = true) :
    Calls Tryd.prog 5 #[.agg #[.int .i64 a0, .int .i64 a1, .string a2], .agg #[.int .i64 b0, .int .i64 b1, .string b2], .agg #[.int .i64 c0, .int .i64 c1, .string c2]] w fun e w' => e = .returned (.bool true) ∧ Below w.heap.size w w' := by
  have L0 := fun w => long_any a0 a1 a2 w
  rw [l0] at L0
  have L0 := Lib.hid L0
  have L1 := fun w => long_any b0 b1 b2 w
  rw [l1] at L1
  have L1 := Lib.hid L1
  go_enter Tryd.func5, Tryd.ntmps5
  go_wp2_with fail
  obtain ⟨B, hB⟩ : ∃ B, w.heap.size = B := ⟨_, rfl⟩
  have B1 : Below w.heap.size w (((w.alloc (.cells #[.int .i64 a0, .int .i64 a1, .string a2] 23)).alloc (.cells #[.int .i64 b0, .int .i64 b1, .string b2] 23)).alloc (.cells #[.int .i64 c0, .int .i64 c1, .string c2] 23)) := (((Below.refl _ w).alloc (Nat.le_refl _) _).alloc (by simp; try omega) _).alloc (by simp; try omega) _
  have y00 : (((w.alloc (.cells #[.int .i64 a0, .int .i64 a1, .string a2] 23)).alloc (.cells #[.int .i64 b0, .int .i64 b1, .string b2] 23)).alloc (.cells #[.int .i64 c0, .int .i64 c1, .string c2] 23)).cell? ⟨B, 0, none⟩ = some (.int .i64 a0) := pastcell (pastcell (newcell 0 _ hB.symm rfl))
  have y01 : (((w.alloc (.cells #[.int .i64 a0, .int .i64 a1, .string a2] 23)).alloc (.cells #[.int .i64 b0, .int .i64 b1, .string b2] 23)).alloc (.cells #[.int .i64 c0, .int .i64 c1, .string c2] 23)).cell? ⟨B, 1, none⟩ = some (.int .i64 a1) := pastcell (pastcell (newcell 1 _ hB.symm rfl))
  have y02 : (((w.alloc (.cells #[.int .i64 a0, .int .i64 a1, .string a2] 23)).alloc (.cells #[.int .i64 b0, .int .i64 b1, .string b2] 23)).alloc (.cells #[.int .i64 c0, .int .i64 c1, .string c2] 23)).cell? ⟨B, 2, none⟩ = some (.string a2) := pastcell (pastcell (newcell 2 _ hB.symm rfl))
  have y10 : (((w.alloc (.cells #[.int .i64 a0, .int .i64 a1, .string a2] 23)).alloc (.cells #[.int .i64 b0, .int .i64 b1, .string b2] 23)).alloc (.cells #[.int .i64 c0, .int .i64 c1, .string c2] 23)).cell? ⟨B + 1, 0, none⟩ = some (.int .i64 b0) := pastcell (newcell 0 _ (by simp [hB]) rfl)
  have y11 : (((w.alloc (.cells #[.int .i64 a0, .int .i64 a1, .string a2] 23)).alloc (.cells #[.int .i64 b0, .int .i64 b1, .string b2] 23)).alloc (.cells #[.int .i64 c0, .int .i64 c1, .string c2] 23)).cell? ⟨B + 1, 1, none⟩ = some (.int .i64 b1) := pastcell (newcell 1 _ (by simp [hB]) rfl)
  have y12 : (((w.alloc (.cells #[.int .i64 a0, .int .i64 a1, .string a2] 23)).alloc (.cells #[.int .i64 b0, .int .i64 b1, .string b2] 23)).alloc (.cells #[.int .i64 c0, .int .i64 c1, .string c2] 23)).cell? ⟨B + 1, 2, none⟩ = some (.string b2) := pastcell (newcell 2 _ (by simp [hB]) rfl)
  have y20 : (((w.alloc (.cells #[.int .i64 a0, .int .i64 a1, .string a2] 23)).alloc (.cells #[.int .i64 b0, .int .i64 b1, .string b2] 23)).alloc (.cells #[.int .i64 c0, .int .i64 c1, .string c2] 23)).cell? ⟨B + 2, 0, none⟩ = some (.int .i64 c0) := newcell 0 _ (by simp [hB]) rfl
  have y21 : (((w.alloc (.cells #[.int .i64 a0, .int .i64 a1, .string a2] 23)).alloc (.cells #[.int .i64 b0, .int .i64 b1, .string b2] 23)).alloc (.cells #[.int .i64 c0, .int .i64 c1, .string c2] 23)).cell? ⟨B + 2, 1, none⟩ = some (.int .i64 c1) := newcell 1 _ (by simp [hB]) rfl
  have y22 : (((w.alloc (.cells #[.int .i64 a0, .int .i64 a1, .string a2] 23)).alloc (.cells #[.int .i64 b0, .int .i64 b1, .string b2] 23)).alloc (.cells #[.int .i64 c0, .int .i64 c1, .string c2] 23)).cell? ⟨B + 2, 2, none⟩ = some (.string c2) := newcell 2 _ (by simp [hB]) rfl
  rw [hB]
  have HE := Lib.hid hE
  clear hE
  generalize (((w.alloc (.cells #[.int .i64 a0, .int .i64 a1, .string a2] 23)).alloc (.cells #[.int .i64 b0, .int .i64 b1, .string b2] 23)).alloc (.cells #[.int .i64 c0, .int .i64 c1, .string c2] 23)) = W at *
  clear hB
  go_wp2_with fail
  refine (awake_any _ (HE.out.below B1)).mono ?_
  rintro e w0 ⟨rfl, hb⟩
  have B1 := more_below B1 hb
  have y00 := keepcell hb y00
  have y01 := keepcell hb y01
  have y02 := keepcell hb y02
  have y10 := keepcell hb y10
  have y11 := keepcell hb y11
  have y12 := keepcell hb y12
  have y20 := keepcell hb y20
  have y21 := keepcell hb y21
  have y22 := keepcell hb y22
  clear hb
  go_wp2_with fail
  refine (L0.out _).mono ?_
  rintro e w1 ⟨rfl, hb⟩
  have B1 := more_below B1 hb
  have y00 := keepcell hb y00
  have y01 := keepcell hb y01
  have y02 := keepcell hb y02
  have y10 := keepcell hb y10
  have y11 := keepcell hb y11
  have y12 := keepcell hb y12
  have y20 := keepcell hb y20
  have y21 := keepcell hb y21
  have y22 := keepcell hb y22
  clear hb
  go_wp2_with fail
  refine (L1.out _).mono ?_
  rintro e w2 ⟨rfl, hb⟩
  have B1 := more_below B1 hb
  have y00 := keepcell hb y00
  have y01 := keepcell hb y01
  have y02 := keepcell hb y02
  have y10 := keepcell hb y10
  have y11 := keepcell hb y11
  have y12 := keepcell hb y12
  have y20 := keepcell hb y20
  have y21 := keepcell hb y21
  have y22 := keepcell hb y22
  clear hb
  go_wp2_with fail
  refine (awake_any _ (HE.out.below B1)).mono ?_
  rintro e w9 ⟨rfl, hb⟩
  have B1 := more_below B1 hb
  clear hb
  go_wp2
  go_ret
  exact ⟨rfl, B1⟩
set_option maxRecDepth 100000 in
theorem valueTotalOrder_long2 (a0 a1 : Int) (a2 : ByteArray) (b0 b1 : Int) (b2 : ByteArray) (c0 c1 : Int) (c2 : ByteArray) (w : World) (ha0 : -9223372036854775808 ≤ a0) (ga0 : a0 ≤ 9223372036854775807) (ha1 : -9223372036854775808 ≤ a1) (ga1 : a1 ≤ 9223372036854775807) (ha2 : a2.size ≤ 9223372036854775807) (hb0 : -9223372036854775808 ≤ b0) (gb0 : b0 ≤ 9223372036854775807) (hb1 : -9223372036854775808 ≤ b1) (gb1 : b1 ≤ 9223372036854775807) (hb2 : b2.size ≤ 9223372036854775807) (hc0 : -9223372036854775808 ≤ c0) (gc0 : c0 ≤ 9223372036854775807) (hc1 : -9223372036854775808 ≤ c1) (gc1 : c1 ≤ 9223372036854775807) (hc2 : c2.size ≤ 9223372036854775807) (hE : Env w) (l0 : decide (100 < a2.size) = false) (l1 : decide (100 < b2.size) = false) (l2 : decide (100 < c2.size) = true) :
    Calls Tryd.prog 5 #[.agg #[.int .i64 a0, .int .i64 a1, .string a2], .agg #[.int .i64 b0, .int .i64 b1, .string b2], .agg #[.int .i64 c0, .int .i64 c1, .string c2]] w fun e w' => e = .returned (.bool true) ∧ Below w.heap.size w w' := by
  have L0 := fun w => long_any a0 a1 a2 w
  rw [l0] at L0
  have L0 := Lib.hid L0
  have L1 := fun w => long_any b0 b1 b2 w
  rw [l1] at L1
  have L1 := Lib.hid L1
  have L2 := fun w => long_any c0 c1 c2 w
  rw [l2] at L2
  have L2 := Lib.hid L2
  go_enter Tryd.func5, Tryd.ntmps5
  go_wp2_with fail
  obtain ⟨B, hB⟩ : ∃ B, w.heap.size = B := ⟨_, rfl⟩
  have B1 : Below w.heap.size w (((w.alloc (.cells #[.int .i64 a0, .int .i64 a1, .string a2] 23)).alloc (.cells #[.int .i64 b0, .int .i64 b1, .string b2] 23)).alloc (.cells #[.int .i64 c0, .int .i64 c1, .string c2] 23)) := (((Below.refl _ w).alloc (Nat.le_refl _) _).alloc (by simp; try omega) _).alloc (by simp; try omega) _
  have y00 : (((w.alloc (.cells #[.int .i64 a0, .int .i64 a1, .string a2] 23)).alloc (.cells #[.int .i64 b0, .int .i64 b1, .string b2] 23)).alloc (.cells #[.int .i64 c0, .int .i64 c1, .string c2] 23)).cell? ⟨B, 0, none⟩ = some (.int .i64 a0) := pastcell (pastcell (newcell 0 _ hB.symm rfl))
  have y01 : (((w.alloc (.cells #[.int .i64 a0, .int .i64 a1, .string a2] 23)).alloc (.cells #[.int .i64 b0, .int .i64 b1, .string b2] 23)).alloc (.cells #[.int .i64 c0, .int .i64 c1, .string c2] 23)).cell? ⟨B, 1, none⟩ = some (.int .i64 a1) := pastcell (pastcell (newcell 1 _ hB.symm rfl))
  have y02 : (((w.alloc (.cells #[.int .i64 a0, .int .i64 a1, .string a2] 23)).alloc (.cells #[.int .i64 b0, .int .i64 b1, .string b2] 23)).alloc (.cells #[.int .i64 c0, .int .i64 c1, .string c2] 23)).cell? ⟨B, 2, none⟩ = some (.string a2) := pastcell (pastcell (newcell 2 _ hB.symm rfl))
  have y10 : (((w.alloc (.cells #[.int .i64 a0, .int .i64 a1, .string a2] 23)).alloc (.cells #[.int .i64 b0, .int .i64 b1, .string b2] 23)).alloc (.cells #[.int .i64 c0, .int .i64 c1, .string c2] 23)).cell? ⟨B + 1, 0, none⟩ = some (.int .i64 b0) := pastcell (newcell 0 _ (by simp [hB]) rfl)
  have y11 : (((w.alloc (.cells #[.int .i64 a0, .int .i64 a1, .string a2] 23)).alloc (.cells #[.int .i64 b0, .int .i64 b1, .string b2] 23)).alloc (.cells #[.int .i64 c0, .int .i64 c1, .string c2] 23)).cell? ⟨B + 1, 1, none⟩ = some (.int .i64 b1) := pastcell (newcell 1 _ (by simp [hB]) rfl)
  have y12 : (((w.alloc (.cells #[.int .i64 a0, .int .i64 a1, .string a2] 23)).alloc (.cells #[.int .i64 b0, .int .i64 b1, .string b2] 23)).alloc (.cells #[.int .i64 c0, .int .i64 c1, .string c2] 23)).cell? ⟨B + 1, 2, none⟩ = some (.string b2) := pastcell (newcell 2 _ (by simp [hB]) rfl)
  have y20 : (((w.alloc (.cells #[.int .i64 a0, .int .i64 a1, .string a2] 23)).alloc (.cells #[.int .i64 b0, .int .i64 b1, .string b2] 23)).alloc (.cells #[.int .i64 c0, .int .i64 c1, .string c2] 23)).cell? ⟨B + 2, 0, none⟩ = some (.int .i64 c0) := newcell 0 _ (by simp [hB]) rfl
  have y21 : (((w.alloc (.cells #[.int .i64 a0, .int .i64 a1, .string a2] 23)).alloc (.cells #[.int .i64 b0, .int .i64 b1, .string b2] 23)).alloc (.cells #[.int .i64 c0, .int .i64 c1, .string c2] 23)).cell? ⟨B + 2, 1, none⟩ = some (.int .i64 c1) := newcell 1 _ (by simp [hB]) rfl
  have y22 : (((w.alloc (.cells #[.int .i64 a0, .int .i64 a1, .string a2] 23)).alloc (.cells #[.int .i64 b0, .int .i64 b1, .string b2] 23)).alloc (.cells #[.int .i64 c0, .int .i64 c1, .string c2] 23)).cell? ⟨B + 2, 2, none⟩ = some (.string c2) := newcell 2 _ (by simp [hB]) rfl
  rw [hB]
  have HE := Lib.hid hE
  clear hE
  generalize (((w.alloc (.cells #[.int .i64 a0, .int .i64 a1, .string a2] 23)).alloc (.cells #[.int .i64 b0, .int .i64 b1, .string b2] 23)).alloc (.cells #[.int .i64 c0, .int .i64 c1, .string c2] 23)) = W at *
  clear hB
  go_wp2_with fail
  refine (awake_any _ (HE.out.below B1)).mono ?_
  rintro e w0 ⟨rfl, hb⟩
  have B1 := more_below B1 hb
  have y00 := keepcell hb y00
  have y01 := keepcell hb y01
  have y02 := keepcell hb y02
  have y10 := keepcell hb y10
  have y11 := keepcell hb y11
  have y12 := keepcell hb y12
  have y20 := keepcell hb y20
  have y21 := keepcell hb y21
  have y22 := keepcell hb y22
  clear hb
  go_wp2_with fail
  refine (L0.out _).mono ?_
  rintro e w1 ⟨rfl, hb⟩
  have B1 := more_below B1 hb
  have y00 := keepcell hb y00
  have y01 := keepcell hb y01
  have y02 := keepcell hb y02
  have y10 := keepcell hb y10
  have y11 := keepcell hb y11
  have y12 := keepcell hb y12
  have y20 := keepcell hb y20
  have y21 := keepcell hb y21
  have y22 := keepcell hb y22
  clear hb
  go_wp2_with fail
  refine (L1.out _).mono ?_
  rintro e w2 ⟨rfl, hb⟩
  have B1 := more_below B1 hb
  have y00 := keepcell hb y00
  have y01 := keepcell hb y01
  have y02 := keepcell hb y02
  have y10 := keepcell hb y10
  have y11 := keepcell hb y11
  have y12 := keepcell hb y12
  have y20 := keepcell hb y20
  have y21 := keepcell hb y21
  have y22 := keepcell hb y22
  clear hb
  go_wp2_with fail
  refine (L2.out _).mono ?_
  rintro e w3 ⟨rfl, hb⟩
  have B1 := more_below B1 hb
  have y00 := keepcell hb y00
  have y01 := keepcell hb y01
  have y02 := keepcell hb y02
  have y10 := keepcell hb y10
  have y11 := keepcell hb y11
  have y12 := keepcell hb y12
  have y20 := keepcell hb y20
  have y21 := keepcell hb y21
  have y22 := keepcell hb y22
  clear hb
  go_wp2_with fail
  refine (awake_any _ (HE.out.below B1)).mono ?_
  rintro e w9 ⟨rfl, hb⟩
  have B1 := more_below B1 hb
  clear hb
  go_wp2
  go_ret
  exact ⟨rfl, B1⟩
set_option maxRecDepth 100000 in
set_option maxHeartbeats 2000000 in
theorem valueTotalOrder_in (a0 a1 : Int) (a2 : ByteArray) (b0 b1 : Int) (b2 : ByteArray) (c0 c1 : Int) (c2 : ByteArray) (w : World) (ha0 : -9223372036854775808 ≤ a0) (ga0 : a0 ≤ 9223372036854775807) (ha1 : -9223372036854775808 ≤ a1) (ga1 : a1 ≤ 9223372036854775807) (ha2 : a2.size ≤ 9223372036854775807) (hb0 : -9223372036854775808 ≤ b0) (gb0 : b0 ≤ 9223372036854775807) (hb1 : -9223372036854775808 ≤ b1) (gb1 : b1 ≤ 9223372036854775807) (hb2 : b2.size ≤ 9223372036854775807) (hc0 : -9223372036854775808 ≤ c0) (gc0 : c0 ≤ 9223372036854775807) (hc1 : -9223372036854775808 ≤ c1) (gc1 : c1 ≤ 9223372036854775807) (hc2 : c2.size ≤ 9223372036854775807) (hE : Env w) (l0 : decide (100 < a2.size) = false) (l1 : decide (100 < b2.size) = false) (l2 : decide (100 < c2.size) = false) :
    Calls Tryd.prog 5 #[.agg #[.int .i64 a0, .int .i64 a1, .string a2], .agg #[.int .i64 b0, .int .i64 b1, .string b2], .agg #[.int .i64 c0, .int .i64 c1, .string c2]] w fun e w' => e = .returned (.bool true) ∧ Below w.heap.size w w' := by
  have L0 := fun w => long_any a0 a1 a2 w
  rw [l0] at L0
  have L0 := Lib.hid L0
  have L1 := fun w => long_any b0 b1 b2 w
  rw [l1] at L1
  have L1 := Lib.hid L1
  have L2 := fun w => long_any c0 c1 c2 w
  rw [l2] at L2
  have L2 := Lib.hid L2
  have P1 := Lib.hid (fun w => VCmp_any a0 a1 a2 b0 b1 b2 w)
  have P2 := Lib.hid (fun w => VCmp_any b0 b1 b2 c0 c1 c2 w)
  have P3 := Lib.hid (fun w => VCmp_any a0 a1 a2 c0 c1 c2 w)
  have P4 : ∀ w, _ := fun w => VCmp_any b0 b1 b2 a0 a1 a2 w
  rw [vcmp_neg ⟨a0, a1, a2⟩ ⟨b0, b1, b2⟩] at P4
  have P4 := Lib.hid P4
  have HT := Lib.hid (vcmp_tri ⟨a0, a1, a2⟩ ⟨b0, b1, b2⟩ ⟨c0, c1, c2⟩)
  have X0 := vcmp_zero ⟨a0, a1, a2⟩ ⟨b0, b1, b2⟩
  simp only at X0
  rw [← show a2.toList = a2.data.toList from ByteArray.toList_eq .., ← show b2.toList = b2.data.toList from ByteArray.toList_eq ..] at X0
  have HX := Lib.hid X0
  clear X0
  have xb := vcmp_bd ⟨a0, a1, a2⟩ ⟨b0, b1, b2⟩
  generalize vcmp ⟨a0, a1, a2⟩ ⟨b0, b1, b2⟩ = x at *
  generalize vcmp ⟨b0, b1, b2⟩ ⟨c0, c1, c2⟩ = y at *
  generalize vcmp ⟨a0, a1, a2⟩ ⟨c0, c1, c2⟩ = z at *
  go_enter Tryd.func5, Tryd.ntmps5
  go_wp2_with fail
  obtain ⟨B, hB⟩ : ∃ B, w.heap.size = B := ⟨_, rfl⟩
  have B1 : Below w.heap.size w (((w.alloc (.cells #[.int .i64 a0, .int .i64 a1, .string a2] 23)).alloc (.cells #[.int .i64 b0, .int .i64 b1, .string b2] 23)).alloc (.cells #[.int .i64 c0, .int .i64 c1, .string c2] 23)) := (((Below.refl _ w).alloc (Nat.le_refl _) _).alloc (by simp; try omega) _).alloc (by simp; try omega) _
  have y00 : (((w.alloc (.cells #[.int .i64 a0, .int .i64 a1, .string a2] 23)).alloc (.cells #[.int .i64 b0, .int .i64 b1, .string b2] 23)).alloc (.cells #[.int .i64 c0, .int .i64 c1, .string c2] 23)).cell? ⟨B, 0, none⟩ = some (.int .i64 a0) := pastcell (pastcell (newcell 0 _ hB.symm rfl))
  have y01 : (((w.alloc (.cells #[.int .i64 a0, .int .i64 a1, .string a2] 23)).alloc (.cells #[.int .i64 b0, .int .i64 b1, .string b2] 23)).alloc (.cells #[.int .i64 c0, .int .i64 c1, .string c2] 23)).cell? ⟨B, 1, none⟩ = some (.int .i64 a1) := pastcell (pastcell (newcell 1 _ hB.symm rfl))
  have y02 : (((w.alloc (.cells #[.int .i64 a0, .int .i64 a1, .string a2] 23)).alloc (.cells #[.int .i64 b0, .int .i64 b1, .string b2] 23)).alloc (.cells #[.int .i64 c0, .int .i64 c1, .string c2] 23)).cell? ⟨B, 2, none⟩ = some (.string a2) := pastcell (pastcell (newcell 2 _ hB.symm rfl))
  have y10 : (((w.alloc (.cells #[.int .i64 a0, .int .i64 a1, .string a2] 23)).alloc (.cells #[.int .i64 b0, .int .i64 b1, .string b2] 23)).alloc (.cells #[.int .i64 c0, .int .i64 c1, .string c2] 23)).cell? ⟨B + 1, 0, none⟩ = some (.int .i64 b0) := pastcell (newcell 0 _ (by simp [hB]) rfl)
  have y11 : (((w.alloc (.cells #[.int .i64 a0, .int .i64 a1, .string a2] 23)).alloc (.cells #[.int .i64 b0, .int .i64 b1, .string b2] 23)).alloc (.cells #[.int .i64 c0, .int .i64 c1, .string c2] 23)).cell? ⟨B + 1, 1, none⟩ = some (.int .i64 b1) := pastcell (newcell 1 _ (by simp [hB]) rfl)
  have y12 : (((w.alloc (.cells #[.int .i64 a0, .int .i64 a1, .string a2] 23)).alloc (.cells #[.int .i64 b0, .int .i64 b1, .string b2] 23)).alloc (.cells #[.int .i64 c0, .int .i64 c1, .string c2] 23)).cell? ⟨B + 1, 2, none⟩ = some (.string b2) := pastcell (newcell 2 _ (by simp [hB]) rfl)
  have y20 : (((w.alloc (.cells #[.int .i64 a0, .int .i64 a1, .string a2] 23)).alloc (.cells #[.int .i64 b0, .int .i64 b1, .string b2] 23)).alloc (.cells #[.int .i64 c0, .int .i64 c1, .string c2] 23)).cell? ⟨B + 2, 0, none⟩ = some (.int .i64 c0) := newcell 0 _ (by simp [hB]) rfl
  have y21 : (((w.alloc (.cells #[.int .i64 a0, .int .i64 a1, .string a2] 23)).alloc (.cells #[.int .i64 b0, .int .i64 b1, .string b2] 23)).alloc (.cells #[.int .i64 c0, .int .i64 c1, .string c2] 23)).cell? ⟨B + 2, 1, none⟩ = some (.int .i64 c1) := newcell 1 _ (by simp [hB]) rfl
  have y22 : (((w.alloc (.cells #[.int .i64 a0, .int .i64 a1, .string a2] 23)).alloc (.cells #[.int .i64 b0, .int .i64 b1, .string b2] 23)).alloc (.cells #[.int .i64 c0, .int .i64 c1, .string c2] 23)).cell? ⟨B + 2, 2, none⟩ = some (.string c2) := newcell 2 _ (by simp [hB]) rfl
  rw [hB]
  have HE := Lib.hid hE
  clear hE
  generalize (((w.alloc (.cells #[.int .i64 a0, .int .i64 a1, .string a2] 23)).alloc (.cells #[.int .i64 b0, .int .i64 b1, .string b2] 23)).alloc (.cells #[.int .i64 c0, .int .i64 c1, .string c2] 23)) = W at *
  clear hB
  go_wp2_with fail
  refine (awake_any _ (HE.out.below B1)).mono ?_
  rintro e w0 ⟨rfl, hb⟩
  have B1 := more_below B1 hb
  have y00 := keepcell hb y00
  have y01 := keepcell hb y01
  have y02 := keepcell hb y02
  have y10 := keepcell hb y10
  have y11 := keepcell hb y11
  have y12 := keepcell hb y12
  have y20 := keepcell hb y20
  have y21 := keepcell hb y21
  have y22 := keepcell hb y22
  clear hb
  go_wp2_with fail
  refine (L0.out _).mono ?_
  rintro e w1 ⟨rfl, hb⟩
  have B1 := more_below B1 hb
  have y00 := keepcell hb y00
  have y01 := keepcell hb y01
  have y02 := keepcell hb y02
  have y10 := keepcell hb y10
  have y11 := keepcell hb y11
  have y12 := keepcell hb y12
  have y20 := keepcell hb y20
  have y21 := keepcell hb y21
  have y22 := keepcell hb y22
  clear hb
  go_wp2_with fail
  refine (L1.out _).mono ?_
  rintro e w2 ⟨rfl, hb⟩
  have B1 := more_below B1 hb
  have y00 := keepcell hb y00
  have y01 := keepcell hb y01
  have y02 := keepcell hb y02
  have y10 := keepcell hb y10
  have y11 := keepcell hb y11
  have y12 := keepcell hb y12
  have y20 := keepcell hb y20
  have y21 := keepcell hb y21
  have y22 := keepcell hb y22
  clear hb
  go_wp2_with fail
  refine (L2.out _).mono ?_
  rintro e w3 ⟨rfl, hb⟩
  have B1 := more_below B1 hb
  have y00 := keepcell hb y00
  have y01 := keepcell hb y01
  have y02 := keepcell hb y02
  have y10 := keepcell hb y10
  have y11 := keepcell hb y11
  have y12 := keepcell hb y12
  have y20 := keepcell hb y20
  have y21 := keepcell hb y21
  have y22 := keepcell hb y22
  clear hb
  have y00 := fun d os => cell_regrown y00 d os
  have y01 := fun d os => cell_regrown y01 d os
  have y02 := fun d os => cell_regrown y02 d os
  have y10 := fun d os => cell_regrown y10 d os
  have y11 := fun d os => cell_regrown y11 d os
  have y12 := fun d os => cell_regrown y12 d os
  have y20 := fun d os => cell_regrown y20 d os
  have y21 := fun d os => cell_regrown y21 d os
  have y22 := fun d os => cell_regrown y22 d os
  go_wp2_with fail
  refine wp_region_quiet_below (by kernel_rfl) (by kernel_rfl) ?_
  repeat (first | go_big_quiet_step ((first | (go_at_call 15; with_reducible exact Calls.regrown_of (P1.out _)) | (go_at_call 15; with_reducible exact Calls.regrown_of (P2.out _)) | (go_at_call 15; with_reducible exact Calls.regrown_of (P3.out _)))) | quiet_step ((first | (go_at_call 15; with_reducible exact Calls.regrown_of (P1.out _)) | (go_at_call 15; with_reducible exact Calls.regrown_of (P2.out _)) | (go_at_call 15; with_reducible exact Calls.regrown_of (P3.out _)))))
  refine wpQuiet_nil ?_
  intro _ hw'
  obtain ⟨⟨dq, osq⟩, hw''⟩ := hw'
  subst hw''
  have B1 := more_below B1 (below_regrown w3 dq osq)
  go_wp2_with fail
  refine (P4.out _).mono ?_
  rintro e w5 ⟨rfl, hb⟩
  have y00 := keepcell hb (y00 dq osq)
  have y01 := keepcell hb (y01 dq osq)
  have y02 := keepcell hb (y02 dq osq)
  have y10 := keepcell hb (y10 dq osq)
  have y11 := keepcell hb (y11 dq osq)
  have y12 := keepcell hb (y12 dq osq)
  have y20 := keepcell hb (y20 dq osq)
  have y21 := keepcell hb (y21 dq osq)
  have y22 := keepcell hb (y22 dq osq)
  have B1 := more_below B1 hb
  clear hb
  by_cases h1 : a0 = b0
  · subst h1
    by_cases h2 : a1 = b1
    · subst h2
      by_cases h3 : a2.toList = b2.toList
      · have q3 : (a2.toList == b2.toList) = true := by simpa using h3
        have x0 : x = 0 := HX.out.2 ⟨rfl, rfl, h3⟩
        have u : (x == 0) = true := by simpa using x0
        rcases (show 0 < x ∨ (x ≤ 0 ∧ 0 < y) ∨ (x ≤ 0 ∧ y ≤ 0 ∧ z < 0) ∨ (x = 0 ∧ y = 0 ∧ z = 0) by have := HT.out; unfold Tri at this; omega) with s1 | ⟨s1, s2⟩ | ⟨s1, s2, s3⟩ | ⟨s1, s2, s3⟩
        · have t1 : decide (x > 0) = true := decide_eq_true s1
          first | omega | (go_wp2; go_ret; exact ⟨rfl, B1⟩)
        · have t1 : decide (x > 0) = false := decide_eq_false (by omega)
          have t2 : decide (y > 0) = true := decide_eq_true s2
          first | omega | (go_wp2; go_ret; exact ⟨rfl, B1⟩)
        · have t1 : decide (x > 0) = false := decide_eq_false (by omega)
          have t2 : decide (y > 0) = false := decide_eq_false (by omega)
          have t3 : decide (z ≤ 0) = true := decide_eq_true (by omega)
          have t4 : decide (z < 0) = true := decide_eq_true s3
          first | omega | (go_wp2; go_ret; exact ⟨rfl, B1⟩)
        · first
          | omega
          | (subst s1; subst s2; subst s3; go_wp2; go_ret; exact ⟨rfl, B1⟩)
      · have q3 : (a2.toList == b2.toList) = false := by simpa using h3
        have x0 : x ≠ 0 := fun e => by have p := HX.out.1 e; exact h3 p.2.2
        have u : (x == 0) = false := by simpa using x0
        rcases (show 0 < x ∨ (x ≤ 0 ∧ 0 < y) ∨ (x ≤ 0 ∧ y ≤ 0 ∧ z < 0) ∨ (x = 0 ∧ y = 0 ∧ z = 0) by have := HT.out; unfold Tri at this; omega) with s1 | ⟨s1, s2⟩ | ⟨s1, s2, s3⟩ | ⟨s1, s2, s3⟩
        · have t1 : decide (x > 0) = true := decide_eq_true s1
          first | omega | (go_wp2; go_ret; exact ⟨rfl, B1⟩)
        · have t1 : decide (x > 0) = false := decide_eq_false (by omega)
          have t2 : decide (y > 0) = true := decide_eq_true s2
          first | omega | (go_wp2; go_ret; exact ⟨rfl, B1⟩)
        · have t1 : decide (x > 0) = false := decide_eq_false (by omega)
          have t2 : decide (y > 0) = false := decide_eq_false (by omega)
          have t3 : decide (z ≤ 0) = true := decide_eq_true (by omega)
          have t4 : decide (z < 0) = true := decide_eq_true s3
          first | omega | (go_wp2; go_ret; exact ⟨rfl, B1⟩)
        · first
          | omega
          | (subst s1; subst s2; subst s3; go_wp2; go_ret; exact ⟨rfl, B1⟩)
    · have q2 : (a1 == b1) = false := by simpa using h2
      have x0 : x ≠ 0 := fun e => by have p := HX.out.1 e; exact h2 p.2.1
      have u : (x == 0) = false := by simpa using x0
      rcases (show 0 < x ∨ (x ≤ 0 ∧ 0 < y) ∨ (x ≤ 0 ∧ y ≤ 0 ∧ z < 0) ∨ (x = 0 ∧ y = 0 ∧ z = 0) by have := HT.out; unfold Tri at this; omega) with s1 | ⟨s1, s2⟩ | ⟨s1, s2, s3⟩ | ⟨s1, s2, s3⟩
      · have t1 : decide (x > 0) = true := decide_eq_true s1
        first | omega | (go_wp2; go_ret; exact ⟨rfl, B1⟩)
      · have t1 : decide (x > 0) = false := decide_eq_false (by omega)
        have t2 : decide (y > 0) = true := decide_eq_true s2
        first | omega | (go_wp2; go_ret; exact ⟨rfl, B1⟩)
      · have t1 : decide (x > 0) = false := decide_eq_false (by omega)
        have t2 : decide (y > 0) = false := decide_eq_false (by omega)
        have t3 : decide (z ≤ 0) = true := decide_eq_true (by omega)
        have t4 : decide (z < 0) = true := decide_eq_true s3
        first | omega | (go_wp2; go_ret; exact ⟨rfl, B1⟩)
      · first
        | omega
        | (subst s1; subst s2; subst s3; go_wp2; go_ret; exact ⟨rfl, B1⟩)
  · have q1 : (a0 == b0) = false := by simpa using h1
    have x0 : x ≠ 0 := fun e => by have p := HX.out.1 e; exact h1 p.1
    have u : (x == 0) = false := by simpa using x0
    rcases (show 0 < x ∨ (x ≤ 0 ∧ 0 < y) ∨ (x ≤ 0 ∧ y ≤ 0 ∧ z < 0) ∨ (x = 0 ∧ y = 0 ∧ z = 0) by have := HT.out; unfold Tri at this; omega) with s1 | ⟨s1, s2⟩ | ⟨s1, s2, s3⟩ | ⟨s1, s2, s3⟩
    · have t1 : decide (x > 0) = true := decide_eq_true s1
      first | omega | (go_wp2; go_ret; exact ⟨rfl, B1⟩)
    · have t1 : decide (x > 0) = false := decide_eq_false (by omega)
      have t2 : decide (y > 0) = true := decide_eq_true s2
      first | omega | (go_wp2; go_ret; exact ⟨rfl, B1⟩)
    · have t1 : decide (x > 0) = false := decide_eq_false (by omega)
      have t2 : decide (y > 0) = false := decide_eq_false (by omega)
      have t3 : decide (z ≤ 0) = true := decide_eq_true (by omega)
      have t4 : decide (z < 0) = true := decide_eq_true s3
      first | omega | (go_wp2; go_ret; exact ⟨rfl, B1⟩)
    · first
      | omega
      | (subst s1; subst s2; subst s3; go_wp2; go_ret; exact ⟨rfl, B1⟩)
theorem valueTotalOrder_walk (a0 a1 : Int) (a2 : ByteArray) (b0 b1 : Int) (b2 : ByteArray) (c0 c1 : Int) (c2 : ByteArray) (w : World) (ha0 : -9223372036854775808 ≤ a0) (ga0 : a0 ≤ 9223372036854775807) (ha1 : -9223372036854775808 ≤ a1) (ga1 : a1 ≤ 9223372036854775807) (ha2 : a2.size ≤ 9223372036854775807) (hb0 : -9223372036854775808 ≤ b0) (gb0 : b0 ≤ 9223372036854775807) (hb1 : -9223372036854775808 ≤ b1) (gb1 : b1 ≤ 9223372036854775807) (hb2 : b2.size ≤ 9223372036854775807) (hc0 : -9223372036854775808 ≤ c0) (gc0 : c0 ≤ 9223372036854775807) (hc1 : -9223372036854775808 ≤ c1) (gc1 : c1 ≤ 9223372036854775807) (hc2 : c2.size ≤ 9223372036854775807) (hE : Env w) :
    Calls Tryd.prog 5 #[.agg #[.int .i64 a0, .int .i64 a1, .string a2], .agg #[.int .i64 b0, .int .i64 b1, .string b2], .agg #[.int .i64 c0, .int .i64 c1, .string c2]] w fun e w' => e = .returned (.bool true) ∧ Below w.heap.size w w' := by
  rcases l0 : decide (100 < a2.size) with _ | _
  · skip
    rcases l1 : decide (100 < b2.size) with _ | _
    · skip
      rcases l2 : decide (100 < c2.size) with _ | _
      · skip
        exact valueTotalOrder_in a0 a1 a2 b0 b1 b2 c0 c1 c2 w ha0 ga0 ha1 ga1 ha2 hb0 gb0 hb1 gb1 hb2 hc0 gc0 hc1 gc1 hc2 hE l0 l1 l2
      · exact valueTotalOrder_long2 a0 a1 a2 b0 b1 b2 c0 c1 c2 w ha0 ga0 ha1 ga1 ha2 hb0 gb0 hb1 gb1 hb2 hc0 gc0 hc1 gc1 hc2 hE l0 l1 l2
    · exact valueTotalOrder_long1 a0 a1 a2 b0 b1 b2 c0 c1 c2 w ha0 ga0 ha1 ga1 ha2 hb0 gb0 hb1 gb1 hb2 hc0 gc0 hc1 gc1 hc2 hE l0 l1
  · exact valueTotalOrder_long0 a0 a1 a2 b0 b1 b2 c0 c1 c2 w ha0 ga0 ha1 ga1 ha2 hb0 gb0 hb1 gb1 hb2 hc0 gc0 hc1 gc1 hc2 hE l0
end Go.Proofs.YtkigdglipoeaaaaDoor
