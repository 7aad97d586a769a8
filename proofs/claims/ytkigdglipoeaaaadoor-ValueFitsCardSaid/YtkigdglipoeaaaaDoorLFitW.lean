/- Law ValueFits: the walk. -/
import Derived.Test.YtkigdglipoeaaaaDoorAwk
import Derived.Test.YtkigdglipoeaaaaDoorFts
namespace Go.Proofs.YtkigdglipoeaaaaDoor
open Go.ChangeShapes Go.WideShapes Go.ChangeAt Go.RowKit Go.ChangeMaps

set_option maxRecDepth 100000 in
theorem valueFits_long0 (a0 a1 : Int) (a2 : ByteArray) (t lo hi mx : Int) (nl : Bool) (w : World) (ha0 : -9223372036854775808 ≤ a0) (ga0 : a0 ≤ 9223372036854775807) (ha1 : -9223372036854775808 ≤ a1) (ga1 : a1 ≤ 9223372036854775807) (ha2 : a2.size ≤ 9223372036854775807) (hE : Env w) (l0 : decide (100 < a2.size) = true) :
    Calls Tryd.prog 8 #[.agg #[.int .i64 a0, .int .i64 a1, .string a2], .agg #[.int .i64 t, .int .i64 lo, .int .i64 hi, .int .i64 mx, .bool nl]] w fun e w' => e = .returned (.bool true) ∧ Below w.heap.size w w' := by
  have L0 := fun w => long_any a0 a1 a2 w
  rw [l0] at L0
  have L0 := Lib.hid L0
  go_enter Tryd.func8, Tryd.ntmps8
  go_wp2_with fail
  obtain ⟨B, hB⟩ : ∃ B, w.heap.size = B := ⟨_, rfl⟩
  have B1 : Below w.heap.size w ((w.alloc (.cells #[.int .i64 a0, .int .i64 a1, .string a2] 23)).alloc (.cells #[.int .i64 t, .int .i64 lo, .int .i64 hi, .int .i64 mx, .bool nl] 37)) := ((Below.refl _ w).alloc (Nat.le_refl _) _).alloc (by simp; try omega) _
  have y00 : ((w.alloc (.cells #[.int .i64 a0, .int .i64 a1, .string a2] 23)).alloc (.cells #[.int .i64 t, .int .i64 lo, .int .i64 hi, .int .i64 mx, .bool nl] 37)).cell? ⟨B, 0, none⟩ = some (.int .i64 a0) := pastcell (newcell 0 _ hB.symm rfl)
  have y01 : ((w.alloc (.cells #[.int .i64 a0, .int .i64 a1, .string a2] 23)).alloc (.cells #[.int .i64 t, .int .i64 lo, .int .i64 hi, .int .i64 mx, .bool nl] 37)).cell? ⟨B, 1, none⟩ = some (.int .i64 a1) := pastcell (newcell 1 _ hB.symm rfl)
  have y02 : ((w.alloc (.cells #[.int .i64 a0, .int .i64 a1, .string a2] 23)).alloc (.cells #[.int .i64 t, .int .i64 lo, .int .i64 hi, .int .i64 mx, .bool nl] 37)).cell? ⟨B, 2, none⟩ = some (.string a2) := pastcell (newcell 2 _ hB.symm rfl)
  have y10 : ((w.alloc (.cells #[.int .i64 a0, .int .i64 a1, .string a2] 23)).alloc (.cells #[.int .i64 t, .int .i64 lo, .int .i64 hi, .int .i64 mx, .bool nl] 37)).cell? ⟨B + 1, 0, none⟩ = some (.int .i64 t) := newcell 0 _ (by simp [hB]) rfl
  have y11 : ((w.alloc (.cells #[.int .i64 a0, .int .i64 a1, .string a2] 23)).alloc (.cells #[.int .i64 t, .int .i64 lo, .int .i64 hi, .int .i64 mx, .bool nl] 37)).cell? ⟨B + 1, 1, none⟩ = some (.int .i64 lo) := newcell 1 _ (by simp [hB]) rfl
  have y12 : ((w.alloc (.cells #[.int .i64 a0, .int .i64 a1, .string a2] 23)).alloc (.cells #[.int .i64 t, .int .i64 lo, .int .i64 hi, .int .i64 mx, .bool nl] 37)).cell? ⟨B + 1, 2, none⟩ = some (.int .i64 hi) := newcell 2 _ (by simp [hB]) rfl
  have y13 : ((w.alloc (.cells #[.int .i64 a0, .int .i64 a1, .string a2] 23)).alloc (.cells #[.int .i64 t, .int .i64 lo, .int .i64 hi, .int .i64 mx, .bool nl] 37)).cell? ⟨B + 1, 3, none⟩ = some (.int .i64 mx) := newcell 3 _ (by simp [hB]) rfl
  have y14 : ((w.alloc (.cells #[.int .i64 a0, .int .i64 a1, .string a2] 23)).alloc (.cells #[.int .i64 t, .int .i64 lo, .int .i64 hi, .int .i64 mx, .bool nl] 37)).cell? ⟨B + 1, 4, none⟩ = some (.bool nl) := newcell 4 _ (by simp [hB]) rfl
  rw [hB]
  have HE := Lib.hid hE
  clear hE
  generalize ((w.alloc (.cells #[.int .i64 a0, .int .i64 a1, .string a2] 23)).alloc (.cells #[.int .i64 t, .int .i64 lo, .int .i64 hi, .int .i64 mx, .bool nl] 37)) = W at *
  clear hB
  go_wp2_with fail
  refine (awake_any _ (HE.out.below B1)).mono ?_
  rintro e w0 ⟨rfl, hb⟩
  have B1 := more_below B1 hb
  have y00 := keepcell hb y00
  have y01 := keepcell hb y01
  have y02 := keepcell hb y02
  have y10 := keepcell hb y10
  have y11 := keepcell hb y11
  have y12 := keepcell hb y12
  have y13 := keepcell hb y13
  have y14 := keepcell hb y14
  clear hb
  go_wp2_with fail
  refine (L0.out _).mono ?_
  rintro e w1 ⟨rfl, hb⟩
  have B1 := more_below B1 hb
  have y00 := keepcell hb y00
  have y01 := keepcell hb y01
  have y02 := keepcell hb y02
  have y10 := keepcell hb y10
  have y11 := keepcell hb y11
  have y12 := keepcell hb y12
  have y13 := keepcell hb y13
  have y14 := keepcell hb y14
  clear hb
  go_wp2_with fail
  refine (awake_any _ (HE.out.below B1)).mono ?_
  rintro e w9 ⟨rfl, hb⟩
  have B1 := more_below B1 hb
  clear hb
  go_wp2
  go_ret
  exact ⟨rfl, B1⟩
set_option maxRecDepth 100000 in
set_option maxHeartbeats 2000000 in
theorem valueFits_in (a0 a1 : Int) (a2 : ByteArray) (t lo hi mx : Int) (nl : Bool) (w : World) (ha0 : -9223372036854775808 ≤ a0) (ga0 : a0 ≤ 9223372036854775807) (ha1 : -9223372036854775808 ≤ a1) (ga1 : a1 ≤ 9223372036854775807) (ha2 : a2.size ≤ 9223372036854775807) (hE : Env w) (l0 : decide (100 < a2.size) = false) :
    Calls Tryd.prog 8 #[.agg #[.int .i64 a0, .int .i64 a1, .string a2], .agg #[.int .i64 t, .int .i64 lo, .int .i64 hi, .int .i64 mx, .bool nl]] w fun e w' => e = .returned (.bool true) ∧ Below w.heap.size w w' := by
  have L0 := fun w => long_any a0 a1 a2 w
  rw [l0] at L0
  have L0 := Lib.hid L0
  have P1 := Lib.hid (fun w => VFits_any a0 a1 a2 t lo hi mx nl w ha2)
  have P2 := Lib.hid (fun w => RFits_any a0 a1 a2 t lo hi mx nl w ha2)
  generalize fitsB ⟨a0, a1, a2⟩ t lo hi mx nl = v at *
  go_enter Tryd.func8, Tryd.ntmps8
  go_wp2_with fail
  obtain ⟨B, hB⟩ : ∃ B, w.heap.size = B := ⟨_, rfl⟩
  have B1 : Below w.heap.size w ((w.alloc (.cells #[.int .i64 a0, .int .i64 a1, .string a2] 23)).alloc (.cells #[.int .i64 t, .int .i64 lo, .int .i64 hi, .int .i64 mx, .bool nl] 37)) := ((Below.refl _ w).alloc (Nat.le_refl _) _).alloc (by simp; try omega) _
  have y00 : ((w.alloc (.cells #[.int .i64 a0, .int .i64 a1, .string a2] 23)).alloc (.cells #[.int .i64 t, .int .i64 lo, .int .i64 hi, .int .i64 mx, .bool nl] 37)).cell? ⟨B, 0, none⟩ = some (.int .i64 a0) := pastcell (newcell 0 _ hB.symm rfl)
  have y01 : ((w.alloc (.cells #[.int .i64 a0, .int .i64 a1, .string a2] 23)).alloc (.cells #[.int .i64 t, .int .i64 lo, .int .i64 hi, .int .i64 mx, .bool nl] 37)).cell? ⟨B, 1, none⟩ = some (.int .i64 a1) := pastcell (newcell 1 _ hB.symm rfl)
  have y02 : ((w.alloc (.cells #[.int .i64 a0, .int .i64 a1, .string a2] 23)).alloc (.cells #[.int .i64 t, .int .i64 lo, .int .i64 hi, .int .i64 mx, .bool nl] 37)).cell? ⟨B, 2, none⟩ = some (.string a2) := pastcell (newcell 2 _ hB.symm rfl)
  have y10 : ((w.alloc (.cells #[.int .i64 a0, .int .i64 a1, .string a2] 23)).alloc (.cells #[.int .i64 t, .int .i64 lo, .int .i64 hi, .int .i64 mx, .bool nl] 37)).cell? ⟨B + 1, 0, none⟩ = some (.int .i64 t) := newcell 0 _ (by simp [hB]) rfl
  have y11 : ((w.alloc (.cells #[.int .i64 a0, .int .i64 a1, .string a2] 23)).alloc (.cells #[.int .i64 t, .int .i64 lo, .int .i64 hi, .int .i64 mx, .bool nl] 37)).cell? ⟨B + 1, 1, none⟩ = some (.int .i64 lo) := newcell 1 _ (by simp [hB]) rfl
  have y12 : ((w.alloc (.cells #[.int .i64 a0, .int .i64 a1, .string a2] 23)).alloc (.cells #[.int .i64 t, .int .i64 lo, .int .i64 hi, .int .i64 mx, .bool nl] 37)).cell? ⟨B + 1, 2, none⟩ = some (.int .i64 hi) := newcell 2 _ (by simp [hB]) rfl
  have y13 : ((w.alloc (.cells #[.int .i64 a0, .int .i64 a1, .string a2] 23)).alloc (.cells #[.int .i64 t, .int .i64 lo, .int .i64 hi, .int .i64 mx, .bool nl] 37)).cell? ⟨B + 1, 3, none⟩ = some (.int .i64 mx) := newcell 3 _ (by simp [hB]) rfl
  have y14 : ((w.alloc (.cells #[.int .i64 a0, .int .i64 a1, .string a2] 23)).alloc (.cells #[.int .i64 t, .int .i64 lo, .int .i64 hi, .int .i64 mx, .bool nl] 37)).cell? ⟨B + 1, 4, none⟩ = some (.bool nl) := newcell 4 _ (by simp [hB]) rfl
  rw [hB]
  have HE := Lib.hid hE
  clear hE
  generalize ((w.alloc (.cells #[.int .i64 a0, .int .i64 a1, .string a2] 23)).alloc (.cells #[.int .i64 t, .int .i64 lo, .int .i64 hi, .int .i64 mx, .bool nl] 37)) = W at *
  clear hB
  go_wp2_with fail
  refine (awake_any _ (HE.out.below B1)).mono ?_
  rintro e w0 ⟨rfl, hb⟩
  have B1 := more_below B1 hb
  have y00 := keepcell hb y00
  have y01 := keepcell hb y01
  have y02 := keepcell hb y02
  have y10 := keepcell hb y10
  have y11 := keepcell hb y11
  have y12 := keepcell hb y12
  have y13 := keepcell hb y13
  have y14 := keepcell hb y14
  clear hb
  go_wp2_with fail
  refine (L0.out _).mono ?_
  rintro e w1 ⟨rfl, hb⟩
  have B1 := more_below B1 hb
  have y00 := keepcell hb y00
  have y01 := keepcell hb y01
  have y02 := keepcell hb y02
  have y10 := keepcell hb y10
  have y11 := keepcell hb y11
  have y12 := keepcell hb y12
  have y13 := keepcell hb y13
  have y14 := keepcell hb y14
  clear hb
  have y00 := fun d os => cell_regrown y00 d os
  have y01 := fun d os => cell_regrown y01 d os
  have y02 := fun d os => cell_regrown y02 d os
  have y10 := fun d os => cell_regrown y10 d os
  have y11 := fun d os => cell_regrown y11 d os
  have y12 := fun d os => cell_regrown y12 d os
  have y13 := fun d os => cell_regrown y13 d os
  have y14 := fun d os => cell_regrown y14 d os
  go_wp2_with fail
  refine wp_region_quiet_below (by kernel_rfl) (by kernel_rfl) ?_
  repeat (first | go_big_quiet_step ((first | (go_at_call 24; with_reducible exact Calls.regrown_of (P1.out _)) | (go_at_call 25; with_reducible exact Calls.regrown_of (P2.out _)))) | quiet_step ((first | (go_at_call 24; with_reducible exact Calls.regrown_of (P1.out _)) | (go_at_call 25; with_reducible exact Calls.regrown_of (P2.out _)))))
  refine wpQuiet_nil ?_
  intro _ hw'
  obtain ⟨⟨dq, osq⟩, hw''⟩ := hw'
  subst hw''
  have B1 := more_below B1 (below_regrown w1 dq osq)
  go_wp2
  go_ret
  exact ⟨rfl, B1⟩
theorem valueFits_walk (a0 a1 : Int) (a2 : ByteArray) (t lo hi mx : Int) (nl : Bool) (w : World) (ha0 : -9223372036854775808 ≤ a0) (ga0 : a0 ≤ 9223372036854775807) (ha1 : -9223372036854775808 ≤ a1) (ga1 : a1 ≤ 9223372036854775807) (ha2 : a2.size ≤ 9223372036854775807) (hE : Env w) :
    Calls Tryd.prog 8 #[.agg #[.int .i64 a0, .int .i64 a1, .string a2], .agg #[.int .i64 t, .int .i64 lo, .int .i64 hi, .int .i64 mx, .bool nl]] w fun e w' => e = .returned (.bool true) ∧ Below w.heap.size w w' := by
  rcases l0 : decide (100 < a2.size) with _ | _
  · skip
    exact valueFits_in a0 a1 a2 t lo hi mx nl w ha0 ga0 ha1 ga1 ha2 hE l0
  · exact valueFits_long0 a0 a1 a2 t lo hi mx nl w ha0 ga0 ha1 ga1 ha2 hE l0
end Go.Proofs.YtkigdglipoeaaaaDoor
