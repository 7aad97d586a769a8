/- Law ValueTruth: the walk. -/
import Derived.Test.YtkigdglipoeaaaaDoorAwk
namespace Go.Proofs.YtkigdglipoeaaaaDoor
open Go.ChangeShapes Go.WideShapes Go.ChangeAt Go.RowKit Go.ChangeMaps

set_option maxRecDepth 100000 in
theorem valueTruth_long0 (a0 a1 : Int) (a2 : ByteArray) (b0 b1 : Int) (b2 : ByteArray) (w : World) (ha0 : -9223372036854775808 ≤ a0) (ga0 : a0 ≤ 9223372036854775807) (ha1 : -9223372036854775808 ≤ a1) (ga1 : a1 ≤ 9223372036854775807) (ha2 : a2.size ≤ 9223372036854775807) (hb0 : -9223372036854775808 ≤ b0) (gb0 : b0 ≤ 9223372036854775807) (hb1 : -9223372036854775808 ≤ b1) (gb1 : b1 ≤ 9223372036854775807) (hb2 : b2.size ≤ 9223372036854775807) (hE : Env w) (l0 : decide (100 < a2.size) = true) :
    Calls Tryd.prog 6 #[.agg #[.int .i64 a0, .int .i64 a1, .string a2], .agg #[.int .i64 b0, .int .i64 b1, .string b2]] w fun e w' => e = .returned (.bool true) ∧ Below w.heap.size w w' := by
  have L0 := fun w => long_any a0 a1 a2 w
  rw [l0] at L0
  have L0 := Lib.hid L0
  go_enter Tryd.func6, Tryd.ntmps6
  go_wp2_with fail
  obtain ⟨B, hB⟩ : ∃ B, w.heap.size = B := ⟨_, rfl⟩
  have B1 : Below w.heap.size w ((w.alloc (.cells #[.int .i64 a0, .int .i64 a1, .string a2] 23)).alloc (.cells #[.int .i64 b0, .int .i64 b1, .string b2] 23)) := ((Below.refl _ w).alloc (Nat.le_refl _) _).alloc (by simp; try omega) _
  have y00 : ((w.alloc (.cells #[.int .i64 a0, .int .i64 a1, .string a2] 23)).alloc (.cells #[.int .i64 b0, .int .i64 b1, .string b2] 23)).cell? ⟨B, 0, none⟩ = some (.int .i64 a0) := pastcell (newcell 0 _ hB.symm rfl)
  have y01 : ((w.alloc (.cells #[.int .i64 a0, .int .i64 a1, .string a2] 23)).alloc (.cells #[.int .i64 b0, .int .i64 b1, .string b2] 23)).cell? ⟨B, 1, none⟩ = some (.int .i64 a1) := pastcell (newcell 1 _ hB.symm rfl)
  have y02 : ((w.alloc (.cells #[.int .i64 a0, .int .i64 a1, .string a2] 23)).alloc (.cells #[.int .i64 b0, .int .i64 b1, .string b2] 23)).cell? ⟨B, 2, none⟩ = some (.string a2) := pastcell (newcell 2 _ hB.symm rfl)
  have y10 : ((w.alloc (.cells #[.int .i64 a0, .int .i64 a1, .string a2] 23)).alloc (.cells #[.int .i64 b0, .int .i64 b1, .string b2] 23)).cell? ⟨B + 1, 0, none⟩ = some (.int .i64 b0) := newcell 0 _ (by simp [hB]) rfl
  have y11 : ((w.alloc (.cells #[.int .i64 a0, .int .i64 a1, .string a2] 23)).alloc (.cells #[.int .i64 b0, .int .i64 b1, .string b2] 23)).cell? ⟨B + 1, 1, none⟩ = some (.int .i64 b1) := newcell 1 _ (by simp [hB]) rfl
  have y12 : ((w.alloc (.cells #[.int .i64 a0, .int .i64 a1, .string a2] 23)).alloc (.cells #[.int .i64 b0, .int .i64 b1, .string b2] 23)).cell? ⟨B + 1, 2, none⟩ = some (.string b2) := newcell 2 _ (by simp [hB]) rfl
  rw [hB]
  have HE := Lib.hid hE
  clear hE
  generalize ((w.alloc (.cells #[.int .i64 a0, .int .i64 a1, .string a2] 23)).alloc (.cells #[.int .i64 b0, .int .i64 b1, .string b2] 23)) = W at *
  clear hB
  go_wp2_with fail
  refine (awake_any _ (HE.out.below B1)).mono ?_
  rintro e w0 ⟨rfl, hb⟩
  have B1 := more_below B1 hb
  have y00 := keepcell hb y00
  have y01 := keepcell hb y01
  have y02 := keepcell hb y02
  have y10 := keepcell hb y10
  have y11 := keepcell hb y11
  have y12 := keepcell hb y12
  clear hb
  go_wp2_with fail
  refine (L0.out _).mono ?_
  rintro e w1 ⟨rfl, hb⟩
  have B1 := more_below B1 hb
  have y00 := keepcell hb y00
  have y01 := keepcell hb y01
  have y02 := keepcell hb y02
  have y10 := keepcell hb y10
  have y11 := keepcell hb y11
  have y12 := keepcell hb y12
  clear hb
  go_wp2_with fail
  refine (awake_any _ (HE.out.below B1)).mono ?_
  rintro e w9 ⟨rfl, hb⟩
  have B1 := more_below B1 hb
  clear hb
  go_wp2
  go_ret
  exact ⟨rfl, B1⟩
set_option maxRecDepth 100000 in
theorem valueTruth_long1 (a0 a1 : Int) (a2 : ByteArray) (b0 b1 : Int) (b2 : ByteArray) (w : World) (ha0 : -9223372036854775808 ≤ a0) (ga0 : a0 ≤ 9223372036854775807) (ha1 : -9223372036854775808 ≤ a1) (ga1 : a1 ≤ 9223372036854775807) (ha2 : a2.size ≤ 9223372036854775807) (hb0 : -9223372036854775808 ≤ b0) (gb0 : b0 ≤ 9223372036854775807) (hb1 : -9223372036854775808 ≤ b1) (gb1 : b1 ≤ 9223372036854775807) (hb2 : b2.size ≤ 9223372036854775807) (hE : Env w) (l0 : decide (100 < a2.size) = false) (l1 : decide (100 < b2.size) = true) :
    Calls Tryd.prog 6 #[.agg #[.int .i64 a0, .int .i64 a1, .string a2], .agg #[.int .i64 b0, .int .i64 b1, .string b2]] w fun e w' => e = .returned (.bool true) ∧ Below w.heap.size w w' := by
  have L0 := fun w => long_any a0 a1 a2 w
  rw [l0] at L0
  have L0 := Lib.hid L0
  have L1 := fun w => long_any b0 b1 b2 w
  rw [l1] at L1
  have L1 := Lib.hid L1
  go_enter Tryd.func6, Tryd.ntmps6
  go_wp2_with fail
  obtain ⟨B, hB⟩ : ∃ B, w.heap.size = B := ⟨_, rfl⟩
  have B1 : Below w.heap.size w ((w.alloc (.cells #[.int .i64 a0, .int .i64 a1, .string a2] 23)).alloc (.cells #[.int .i64 b0, .int .i64 b1, .string b2] 23)) := ((Below.refl _ w).alloc (Nat.le_refl _) _).alloc (by simp; try omega) _
  have y00 : ((w.alloc (.cells #[.int .i64 a0, .int .i64 a1, .string a2] 23)).alloc (.cells #[.int .i64 b0, .int .i64 b1, .string b2] 23)).cell? ⟨B, 0, none⟩ = some (.int .i64 a0) := pastcell (newcell 0 _ hB.symm rfl)
  have y01 : ((w.alloc (.cells #[.int .i64 a0, .int .i64 a1, .string a2] 23)).alloc (.cells #[.int .i64 b0, .int .i64 b1, .string b2] 23)).cell? ⟨B, 1, none⟩ = some (.int .i64 a1) := pastcell (newcell 1 _ hB.symm rfl)
  have y02 : ((w.alloc (.cells #[.int .i64 a0, .int .i64 a1, .string a2] 23)).alloc (.cells #[.int .i64 b0, .int .i64 b1, .string b2] 23)).cell? ⟨B, 2, none⟩ = some (.string a2) := pastcell (newcell 2 _ hB.symm rfl)
  have y10 : ((w.alloc (.cells #[.int .i64 a0, .int .i64 a1, .string a2] 23)).alloc (.cells #[.int .i64 b0, .int .i64 b1, .string b2] 23)).cell? ⟨B + 1, 0, none⟩ = some (.int .i64 b0) := newcell 0 _ (by simp [hB]) rfl
  have y11 : ((w.alloc (.cells #[.int .i64 a0, .int .i64 a1, .string a2] 23)).alloc (.cells #[.int .i64 b0, .int .i64 b1, .string b2] 23)).cell? ⟨B + 1, 1, none⟩ = some (.int .i64 b1) := newcell 1 _ (by simp [hB]) rfl
  have y12 : ((w.alloc (.cells #[.int .i64 a0, .int .i64 a1, .string a2] 23)).alloc (.cells #[.int .i64 b0, .int .i64 b1, .string b2] 23)).cell? ⟨B + 1, 2, none⟩ = some (.string b2) := newcell 2 _ (by simp [hB]) rfl
  rw [hB]
  have HE := Lib.hid hE
  clear hE
  generalize ((w.alloc (.cells #[.int .i64 a0, .int .i64 a1, .string a2] 23)).alloc (.cells #[.int .i64 b0, .int .i64 b1, .string b2] 23)) = W at *
  clear hB
  go_wp2_with fail
  refine (awake_any _ (HE.out.below B1)).mono ?_
  rintro e w0 ⟨rfl, hb⟩
  have B1 := more_below B1 hb
  have y00 := keepcell hb y00
  have y01 := keepcell hb y01
  have y02 := keepcell hb y02
  have y10 := keepcell hb y10
  have y11 := keepcell hb y11
  have y12 := keepcell hb y12
  clear hb
  go_wp2_with fail
  refine (L0.out _).mono ?_
  rintro e w1 ⟨rfl, hb⟩
  have B1 := more_below B1 hb
  have y00 := keepcell hb y00
  have y01 := keepcell hb y01
  have y02 := keepcell hb y02
  have y10 := keepcell hb y10
  have y11 := keepcell hb y11
  have y12 := keepcell hb y12
  clear hb
  go_wp2_with fail
  refine (L1.out _).mono ?_
  rintro e w2 ⟨rfl, hb⟩
  have B1 := more_below B1 hb
  have y00 := keepcell hb y00
  have y01 := keepcell hb y01
  have y02 := keepcell hb y02
  have y10 := keepcell hb y10
  have y11 := keepcell hb y11
  have y12 := keepcell hb y12
  clear hb
  go_wp2_with fail
  refine (awake_any _ (HE.out.below B1)).mono ?_
  rintro e w9 ⟨rfl, hb⟩
  have B1 := more_below B1 hb
  clear hb
  go_wp2
  go_ret
  exact ⟨rfl, B1⟩
set_option maxRecDepth 100000 in
set_option maxHeartbeats 2000000 in
theorem valueTruth_in (a0 a1 : Int) (a2 : ByteArray) (b0 b1 : Int) (b2 : ByteArray) (w : World) (ha0 : -9223372036854775808 ≤ a0) (ga0 : a0 ≤ 9223372036854775807) (ha1 : -9223372036854775808 ≤ a1) (ga1 : a1 ≤ 9223372036854775807) (ha2 : a2.size ≤ 9223372036854775807) (hb0 : -9223372036854775808 ≤ b0) (gb0 : b0 ≤ 9223372036854775807) (hb1 : -9223372036854775808 ≤ b1) (gb1 : b1 ≤ 9223372036854775807) (hb2 : b2.size ≤ 9223372036854775807) (hE : Env w) (l0 : decide (100 < a2.size) = false) (l1 : decide (100 < b2.size) = false) :
    Calls Tryd.prog 6 #[.agg #[.int .i64 a0, .int .i64 a1, .string a2], .agg #[.int .i64 b0, .int .i64 b1, .string b2]] w fun e w' => e = .returned (.bool true) ∧ Below w.heap.size w w' := by
  have L0 := fun w => long_any a0 a1 a2 w
  rw [l0] at L0
  have L0 := Lib.hid L0
  have L1 := fun w => long_any b0 b1 b2 w
  rw [l1] at L1
  have L1 := Lib.hid L1
  have P1 := Lib.hid (fun w => VEqual_any a0 a1 a2 b0 b1 b2 w)
  have P2 := Lib.hid (fun w => REqual_any a0 a1 a2 b0 b1 b2 w ha2 hb2)
  have P3 := Lib.hid (fun w => VLess_any a0 a1 a2 b0 b1 b2 w)
  have P4 := Lib.hid (fun w => RLess_any a0 a1 a2 b0 b1 b2 w ha2 hb2)
  generalize eqT ⟨a0, a1, a2⟩ ⟨b0, b1, b2⟩ = v at *
  generalize ltT ⟨a0, a1, a2⟩ ⟨b0, b1, b2⟩ = z at *
  go_enter Tryd.func6, Tryd.ntmps6
  go_wp2_with fail
  obtain ⟨B, hB⟩ : ∃ B, w.heap.size = B := ⟨_, rfl⟩
  have B1 : Below w.heap.size w ((w.alloc (.cells #[.int .i64 a0, .int .i64 a1, .string a2] 23)).alloc (.cells #[.int .i64 b0, .int .i64 b1, .string b2] 23)) := ((Below.refl _ w).alloc (Nat.le_refl _) _).alloc (by simp; try omega) _
  have y00 : ((w.alloc (.cells #[.int .i64 a0, .int .i64 a1, .string a2] 23)).alloc (.cells #[.int .i64 b0, .int .i64 b1, .string b2] 23)).cell? ⟨B, 0, none⟩ = some (.int .i64 a0) := pastcell (newcell 0 _ hB.symm rfl)
  have y01 : ((w.alloc (.cells #[.int .i64 a0, .int .i64 a1, .string a2] 23)).alloc (.cells #[.int .i64 b0, .int .i64 b1, .string b2] 23)).cell? ⟨B, 1, none⟩ = some (.int .i64 a1) := pastcell (newcell 1 _ hB.symm rfl)
  have y02 : ((w.alloc (.cells #[.int .i64 a0, .int .i64 a1, .string a2] 23)).alloc (.cells #[.int .i64 b0, .int .i64 b1, .string b2] 23)).cell? ⟨B, 2, none⟩ = some (.string a2) := pastcell (newcell 2 _ hB.symm rfl)
  have y10 : ((w.alloc (.cells #[.int .i64 a0, .int .i64 a1, .string a2] 23)).alloc (.cells #[.int .i64 b0, .int .i64 b1, .string b2] 23)).cell? ⟨B + 1, 0, none⟩ = some (.int .i64 b0) := newcell 0 _ (by simp [hB]) rfl
  have y11 : ((w.alloc (.cells #[.int .i64 a0, .int .i64 a1, .string a2] 23)).alloc (.cells #[.int .i64 b0, .int .i64 b1, .string b2] 23)).cell? ⟨B + 1, 1, none⟩ = some (.int .i64 b1) := newcell 1 _ (by simp [hB]) rfl
  have y12 : ((w.alloc (.cells #[.int .i64 a0, .int .i64 a1, .string a2] 23)).alloc (.cells #[.int .i64 b0, .int .i64 b1, .string b2] 23)).cell? ⟨B + 1, 2, none⟩ = some (.string b2) := newcell 2 _ (by simp [hB]) rfl
  rw [hB]
  have HE := Lib.hid hE
  clear hE
  generalize ((w.alloc (.cells #[.int .i64 a0, .int .i64 a1, .string a2] 23)).alloc (.cells #[.int .i64 b0, .int .i64 b1, .string b2] 23)) = W at *
  clear hB
  go_wp2_with fail
  refine (awake_any _ (HE.out.below B1)).mono ?_
  rintro e w0 ⟨rfl, hb⟩
  have B1 := more_below B1 hb
  have y00 := keepcell hb y00
  have y01 := keepcell hb y01
  have y02 := keepcell hb y02
  have y10 := keepcell hb y10
  have y11 := keepcell hb y11
  have y12 := keepcell hb y12
  clear hb
  go_wp2_with fail
  refine (L0.out _).mono ?_
  rintro e w1 ⟨rfl, hb⟩
  have B1 := more_below B1 hb
  have y00 := keepcell hb y00
  have y01 := keepcell hb y01
  have y02 := keepcell hb y02
  have y10 := keepcell hb y10
  have y11 := keepcell hb y11
  have y12 := keepcell hb y12
  clear hb
  go_wp2_with fail
  refine (L1.out _).mono ?_
  rintro e w2 ⟨rfl, hb⟩
  have B1 := more_below B1 hb
  have y00 := keepcell hb y00
  have y01 := keepcell hb y01
  have y02 := keepcell hb y02
  have y10 := keepcell hb y10
  have y11 := keepcell hb y11
  have y12 := keepcell hb y12
  clear hb
  have y00 := fun d os => cell_regrown y00 d os
  have y01 := fun d os => cell_regrown y01 d os
  have y02 := fun d os => cell_regrown y02 d os
  have y10 := fun d os => cell_regrown y10 d os
  have y11 := fun d os => cell_regrown y11 d os
  have y12 := fun d os => cell_regrown y12 d os
  go_wp2_with fail
  refine wp_region_quiet_below (by kernel_rfl) (by kernel_rfl) ?_
  repeat (first | go_big_quiet_step ((first | (go_at_call 20; exact Calls.regrown_of (P1.out _)) | (go_at_call 21; exact Calls.regrown_of (P2.out _)) | (go_at_call 22; exact Calls.regrown_of (P3.out _)) | (go_at_call 23; exact Calls.regrown_of (P4.out _)))) | quiet_step ((first | (go_at_call 20; exact Calls.regrown_of (P1.out _)) | (go_at_call 21; exact Calls.regrown_of (P2.out _)) | (go_at_call 22; exact Calls.regrown_of (P3.out _)) | (go_at_call 23; exact Calls.regrown_of (P4.out _)))))
  refine wpQuiet_nil ?_
  intro _ hw'
  obtain ⟨⟨dq, osq⟩, hw''⟩ := hw'
  subst hw''
  have B1 := more_below B1 (below_regrown w2 dq osq)
  go_wp2
  go_ret
  exact ⟨rfl, B1⟩
theorem valueTruth_walk (a0 a1 : Int) (a2 : ByteArray) (b0 b1 : Int) (b2 : ByteArray) (w : World) (ha0 : -9223372036854775808 ≤ a0) (ga0 : a0 ≤ 9223372036854775807) (ha1 : -9223372036854775808 ≤ a1) (ga1 : a1 ≤ 9223372036854775807) (ha2 : a2.size ≤ 9223372036854775807) (hb0 : -9223372036854775808 ≤ b0) (gb0 : b0 ≤ 9223372036854775807) (hb1 : -9223372036854775808 ≤ b1) (gb1 : b1 ≤ 9223372036854775807) (hb2 : b2.size ≤ 9223372036854775807) (hE : Env w) :
    Calls Tryd.prog 6 #[.agg #[.int .i64 a0, .int .i64 a1, .string a2], .agg #[.int .i64 b0, .int .i64 b1, .string b2]] w fun e w' => e = .returned (.bool true) ∧ Below w.heap.size w w' := by
  rcases l0 : decide (100 < a2.size) with _ | _
  · skip
    rcases l1 : decide (100 < b2.size) with _ | _
    · skip
      exact valueTruth_in a0 a1 a2 b0 b1 b2 w ha0 ga0 ha1 ga1 ha2 hb0 gb0 hb1 gb1 hb2 hE l0 l1
    · exact valueTruth_long1 a0 a1 a2 b0 b1 b2 w ha0 ga0 ha1 ga1 ha2 hb0 gb0 hb1 gb1 hb2 hE l0 l1
  · exact valueTruth_long0 a0 a1 a2 b0 b1 b2 w ha0 ga0 ha1 ga1 ha2 hb0 gb0 hb1 gb1 hb2 hE l0
end Go.Proofs.YtkigdglipoeaaaaDoor
