/- Law ValueTrichotomy: the walk. -/
import Derived.Test.YtkigdglipoeaaaaDoorAwk
import Derived.Test.YtkigdglipoeaaaaDoorOrd
namespace Go.Proofs.YtkigdglipoeaaaaDoor
open Go.ChangeShapes Go.WideShapes Go.ChangeAt Go.RowKit Go.ChangeMaps

set_option maxRecDepth 100000 in
theorem valueTrichotomy_long0 (a0 a1 : Int) (a2 : ByteArray) (b0 b1 : Int) (b2 : ByteArray) (w : World) (ha0 : -9223372036854775808 ≤ a0) (ga0 : a0 ≤ 9223372036854775807) (ha1 : -9223372036854775808 ≤ a1) (ga1 : a1 ≤ 9223372036854775807) (ha2 : a2.size ≤ 9223372036854775807) (hb0 : -9223372036854775808 ≤ b0) (gb0 : b0 ≤ 9223372036854775807) (hb1 : -9223372036854775808 ≤ b1) (gb1 : b1 ≤ 9223372036854775807) (hb2 : b2.size ≤ 9223372036854775807) (hE : Env w) (l0 : decide (100 < a2.size) = true) :
    Calls Tryd.prog 7 #[.agg #[.int .i64 a0, .int .i64 a1, .string a2], .agg #[.int .i64 b0, .int .i64 b1, .string b2]] w fun e w' => e = .returned (.bool true) ∧ Below w.heap.size w w' := by
  have L0 := fun w => long_any a0 a1 a2 w
  rw [l0] at L0
  have L0 := Lib.hid L0
  go_enter Tryd.func7, Tryd.ntmps7
  go_wp2_with fail
  obtain ⟨B, hB⟩ : ∃ B, w.heap.size = B := ⟨_, rfl⟩
  have B1 : Below w.heap.size w ((w.alloc (.cells #[.int .i64 a0, .int .i64 a1, .string a2] 23)).alloc (.cells #[.int .i64 b0, .int .i64 b1, .string b2] 23)) := ((Below.refl _ w).alloc (Nat.le_refl _) _).alloc (by simp; try omega) _
  have y00 : ((w.alloc (.cells #[.int .i64 a0, .int .i64 a1, .string a2] 23)).alloc (.cells #[.int .i64 b0, .int .i64 b1, .string b2] 23)).cell? ⟨B, 0, none⟩ = some (.int .i64 a0) := pastcell (newcell 0 _ hB.symm rfl)
  have y01 : ((w.alloc (.cells #[.int .i64 a0, .int .i64 a1, .string a2] 23)).alloc (.cells #[.int .i64 b0, .int .i64 b1, .string b2] 23)).cell? ⟨B, 1, none⟩ = some (.int .i64 a1) := pastcell (newcell 1 _ hB.symm rfl)
  have y02 : ((w.alloc (.cells #[.int .i64 a0, .int .i64 a1, .string a2] 23)).alloc (.cells #[.int .i64 b0, .int .i64 b1, .string b2] 23)).cell? ⟨B, 2, none⟩ = some (.string a2) := pastcell (newcell 2 _ hB.symm rfl)
  have y10 : ((w.alloc (.cells #[.int .i64 a0, .int .i64 a1, .string a2] 23)).alloc (.cells #[.int .i64 b0, .int .i64 b1, .string b2] 23)).cell? ⟨B + 1, 0, none⟩ = some (.int .i64 b0) := newcell 0 _ (by simp [hB]) rfl
  have y11 : ((w.alloc (.cells #[.int .i64 a0, .int .i64 a1, .string a2] 23)).alloc (.cells #[.int .i64 b0, .int .i64 b1, .string b2] 23)).cell? ⟨B + 1, 1, none⟩ = some (.int .i64 b1) := newcell 1 _ (by simp [hB]) rfl
  have y12 : ((w.alloc (.cells #[.int .i64 a0, .int .i64 a1, .string a2] 23)).alloc (.cells #[.int .i64 b0, .int .i64 b1, .string b2] 23)).cell? ⟨B + 1, 2, none⟩ = some (.string b2) := newcell 2 _ (by simp [hB]) rfl
  rw [hB]
  have HE := Lib.hid hE
  clear hE
  generalize ((w.alloc (.cells #[.int .i64 a0, .int .i64 a1, .string a2] 23)).alloc (.cells #[.int .i64 b0, .int .i64 b1, .string b2] 23)) = W at *
  clear hB
  go_wp2_with fail
  refine (awake_any _ (HE.out.below B1)).mono ?_
  rintro e w0 ⟨rfl, hb⟩
  have B1 := more_below B1 hb
  have y00 := keepcell hb y00
  have y01 := keepcell hb y01
  have y02 := keepcell hb y02
  have y10 := keepcell hb y10
  have y11 := keepcell hb y11
  have y12 := keepcell hb y12
  clear hb
  go_wp2_with fail
  refine (L0.out _).mono ?_
  rintro e w1 ⟨rfl, hb⟩
  have B1 := more_below B1 hb
  have y00 := keepcell hb y00
  have y01 := keepcell hb y01
  have y02 := keepcell hb y02
  have y10 := keepcell hb y10
  have y11 := keepcell hb y11
  have y12 := keepcell hb y12
  clear hb
  go_wp2_with fail
  refine (awake_any _ (HE.out.below B1)).mono ?_
  rintro e w9 ⟨rfl, hb⟩
  have B1 := more_below B1 hb
  clear hb
  go_wp2
  go_ret
  exact ⟨rfl, B1⟩
set_option maxRecDepth 100000 in
theorem valueTrichotomy_long1 (a0 a1 : Int) (a2 : ByteArray) (b0 b1 : Int) (b2 : ByteArray) (w : World) (ha0 : -9223372036854775808 ≤ a0) (ga0 : a0 ≤ 9223372036854775807) (ha1 : -9223372036854775808 ≤ a1) (ga1 : a1 ≤ 9223372036854775807) (ha2 : a2.size ≤ 9223372036854775807) (hb0 : -9223372036854775808 ≤ b0) (gb0 : b0 ≤ 9223372036854775807) (hb1 : -9223372036854775808 ≤ b1) (gb1 : b1 ≤ 9223372036854775807) (hb2 : b2.size ≤ 9223372036854775807) (hE : Env w) (l0 : decide (100 < a2.size) = false) (l1 : decide (100 < b2.size) = true) :
    Calls Tryd.prog 7 #[.agg #[.int .i64 a0, .int .i64 a1, .string a2], .agg #[.int .i64 b0, .int .i64 b1, .string b2]] w fun e w' => e = .returned (.bool true) ∧ Below w.heap.size w w' := by
  have L0 := fun w => long_any a0 a1 a2 w
  rw [l0] at L0
  have L0 := Lib.hid L0
  have L1 := fun w => long_any b0 b1 b2 w
  rw [l1] at L1
  have L1 := Lib.hid L1
  go_enter Tryd.func7, Tryd.ntmps7
  go_wp2_with fail
  obtain ⟨B, hB⟩ : ∃ B, w.heap.size = B := ⟨_, rfl⟩
  have B1 : Below w.heap.size w ((w.alloc (.cells #[.int .i64 a0, .int .i64 a1, .string a2] 23)).alloc (.cells #[.int .i64 b0, .int .i64 b1, .string b2] 23)) := ((Below.refl _ w).alloc (Nat.le_refl _) _).alloc (by simp; try omega) _
  have y00 : ((w.alloc (.cells #[.int .i64 a0, .int .i64 a1, .string a2] 23)).alloc (.cells #[.int .i64 b0, .int .i64 b1, .string b2] 23)).cell? ⟨B, 0, none⟩ = some (.int .i64 a0) := pastcell (newcell 0 _ hB.symm rfl)
  have y01 : ((w.alloc (.cells #[.int .i64 a0, .int .i64 a1, .string a2] 23)).alloc (.cells #[.int .i64 b0, .int .i64 b1, .string b2] 23)).cell? ⟨B, 1, none⟩ = some (.int .i64 a1) := pastcell (newcell 1 _ hB.symm rfl)
  have y02 : ((w.alloc (.cells #[.int .i64 a0, .int .i64 a1, .string a2] 23)).alloc (.cells #[.int .i64 b0, .int .i64 b1, .string b2] 23)).cell? ⟨B, 2, none⟩ = some (.string a2) := pastcell (newcell 2 _ hB.symm rfl)
  have y10 : ((w.alloc (.cells #[.int .i64 a0, .int .i64 a1, .string a2] 23)).alloc (.cells #[.int .i64 b0, .int .i64 b1, .string b2] 23)).cell? ⟨B + 1, 0, none⟩ = some (.int .i64 b0) := newcell 0 _ (by simp [hB]) rfl
  have y11 : ((w.alloc (.cells #[.int .i64 a0, .int .i64 a1, .string a2] 23)).alloc (.cells #[.int .i64 b0, .int .i64 b1, .string b2] 23)).cell? ⟨B + 1, 1, none⟩ = some (.int .i64 b1) := newcell 1 _ (by simp [hB]) rfl
  have y12 : ((w.alloc (.cells #[.int .i64 a0, .int .i64 a1, .string a2] 23)).alloc (.cells #[.int .i64 b0, .int .i64 b1, .string b2] 23)).cell? ⟨B + 1, 2, none⟩ = some (.string b2) := newcell 2 _ (by simp [hB]) rfl
  rw [hB]
  have HE := Lib.hid hE
  clear hE
  generalize ((w.alloc (.cells #[.int .i64 a0, .int .i64 a1, .string a2] 23)).alloc (.cells #[.int .i64 b0, .int .i64 b1, .string b2] 23)) = W at *
  clear hB
  go_wp2_with fail
  refine (awake_any _ (HE.out.below B1)).mono ?_
  rintro e w0 ⟨rfl, hb⟩
  have B1 := more_below B1 hb
  have y00 := keepcell hb y00
  have y01 := keepcell hb y01
  have y02 := keepcell hb y02
  have y10 := keepcell hb y10
  have y11 := keepcell hb y11
  have y12 := keepcell hb y12
  clear hb
  go_wp2_with fail
  refine (L0.out _).mono ?_
  rintro e w1 ⟨rfl, hb⟩
  have B1 := more_below B1 hb
  have y00 := keepcell hb y00
  have y01 := keepcell hb y01
  have y02 := keepcell hb y02
  have y10 := keepcell hb y10
  have y11 := keepcell hb y11
  have y12 := keepcell hb y12
  clear hb
  go_wp2_with fail
  refine (L1.out _).mono ?_
  rintro e w2 ⟨rfl, hb⟩
  have B1 := more_below B1 hb
  have y00 := keepcell hb y00
  have y01 := keepcell hb y01
  have y02 := keepcell hb y02
  have y10 := keepcell hb y10
  have y11 := keepcell hb y11
  have y12 := keepcell hb y12
  clear hb
  go_wp2_with fail
  refine (awake_any _ (HE.out.below B1)).mono ?_
  rintro e w9 ⟨rfl, hb⟩
  have B1 := more_below B1 hb
  clear hb
  go_wp2
  go_ret
  exact ⟨rfl, B1⟩
set_option maxRecDepth 100000 in
set_option maxHeartbeats 2000000 in
theorem valueTrichotomy_in (a0 a1 : Int) (a2 : ByteArray) (b0 b1 : Int) (b2 : ByteArray) (w : World) (ha0 : -9223372036854775808 ≤ a0) (ga0 : a0 ≤ 9223372036854775807) (ha1 : -9223372036854775808 ≤ a1) (ga1 : a1 ≤ 9223372036854775807) (ha2 : a2.size ≤ 9223372036854775807) (hb0 : -9223372036854775808 ≤ b0) (gb0 : b0 ≤ 9223372036854775807) (hb1 : -9223372036854775808 ≤ b1) (gb1 : b1 ≤ 9223372036854775807) (hb2 : b2.size ≤ 9223372036854775807) (hE : Env w) (l0 : decide (100 < a2.size) = false) (l1 : decide (100 < b2.size) = false) :
    Calls Tryd.prog 7 #[.agg #[.int .i64 a0, .int .i64 a1, .string a2], .agg #[.int .i64 b0, .int .i64 b1, .string b2]] w fun e w' => e = .returned (.bool true) ∧ Below w.heap.size w w' := by
  have L0 := fun w => long_any a0 a1 a2 w
  rw [l0] at L0
  have L0 := Lib.hid L0
  have L1 := fun w => long_any b0 b1 b2 w
  rw [l1] at L1
  have L1 := Lib.hid L1
  have P1 := Lib.hid (fun w => VLess_any a0 a1 a2 b0 b1 b2 w)
  have P2 := Lib.hid (fun w => VEqual_any a0 a1 a2 b0 b1 b2 w)
  have P3 := Lib.hid (fun w => VLess_any b0 b1 b2 a0 a1 a2 w)
  have P4 := Lib.hid (fun w => VCmp_any a0 a1 a2 b0 b1 b2 w)
  have nn := vcmp_neg ⟨a0, a1, a2⟩ ⟨b0, b1, b2⟩
  have hk := (vcmp_zero ⟨a0, a1, a2⟩ ⟨b0, b1, b2⟩).1
  have HX : Hid (a0 = 0 ∨ b0 = 0 → ltT ⟨a0, a1, a2⟩ ⟨b0, b1, b2⟩ = 2 ∧ eqT ⟨a0, a1, a2⟩ ⟨b0, b1, b2⟩ = 2 ∧ ltT ⟨b0, b1, b2⟩ ⟨a0, a1, a2⟩ = 2) := Lib.hid fun h => by
    unfold ltT eqT; rw [if_pos h, if_pos h, if_pos h.symm]; exact ⟨rfl, rfl, rfl⟩
  have HY : Hid (a0 ≠ 0 → b0 ≠ 0 → a0 ≠ b0 → ltT ⟨a0, a1, a2⟩ ⟨b0, b1, b2⟩ = 0 ∧ eqT ⟨a0, a1, a2⟩ ⟨b0, b1, b2⟩ = 0 ∧ ltT ⟨b0, b1, b2⟩ ⟨a0, a1, a2⟩ = 0) := Lib.hid fun h g f => by
    have e1 : ¬ (a0 = 0 ∨ b0 = 0) := fun p => p.elim h g
    have e2 : ¬ (b0 = 0 ∨ a0 = 0) := fun p => p.elim g h
    have e3 : ¬ vcmp ⟨a0, a1, a2⟩ ⟨b0, b1, b2⟩ = 0 := fun e => f (hk e).1
    show (if a0 = 0 ∨ b0 = 0 then (2 : Int) else if a0 = b0 ∧ vcmp ⟨a0, a1, a2⟩ ⟨b0, b1, b2⟩ < 0 then 1 else 0) = 0 ∧ (if a0 = 0 ∨ b0 = 0 then (2 : Int) else if vcmp ⟨a0, a1, a2⟩ ⟨b0, b1, b2⟩ = 0 then 1 else 0) = 0 ∧ (if b0 = 0 ∨ a0 = 0 then (2 : Int) else if b0 = a0 ∧ vcmp ⟨b0, b1, b2⟩ ⟨a0, a1, a2⟩ < 0 then 1 else 0) = 0
    rw [if_neg e1, if_neg e1, if_neg e2, if_neg (fun p => f p.1), if_neg e3, if_neg (fun p => f p.1.symm)]; exact ⟨rfl, rfl, rfl⟩
  have HZ : Hid (a0 ≠ 0 → b0 ≠ 0 → a0 = b0 → (vcmp ⟨a0, a1, a2⟩ ⟨b0, b1, b2⟩ < 0 ∧ ltT ⟨a0, a1, a2⟩ ⟨b0, b1, b2⟩ = 1 ∧ eqT ⟨a0, a1, a2⟩ ⟨b0, b1, b2⟩ = 0 ∧ ltT ⟨b0, b1, b2⟩ ⟨a0, a1, a2⟩ = 0) ∨ (vcmp ⟨a0, a1, a2⟩ ⟨b0, b1, b2⟩ = 0 ∧ ltT ⟨a0, a1, a2⟩ ⟨b0, b1, b2⟩ = 0 ∧ eqT ⟨a0, a1, a2⟩ ⟨b0, b1, b2⟩ = 1 ∧ ltT ⟨b0, b1, b2⟩ ⟨a0, a1, a2⟩ = 0) ∨ (0 < vcmp ⟨a0, a1, a2⟩ ⟨b0, b1, b2⟩ ∧ ltT ⟨a0, a1, a2⟩ ⟨b0, b1, b2⟩ = 0 ∧ eqT ⟨a0, a1, a2⟩ ⟨b0, b1, b2⟩ = 0 ∧ ltT ⟨b0, b1, b2⟩ ⟨a0, a1, a2⟩ = 1)) := Lib.hid fun h g f => by
    have e1 : ¬ (a0 = 0 ∨ b0 = 0) := fun p => p.elim h g
    have e2 : ¬ (b0 = 0 ∨ a0 = 0) := fun p => p.elim g h
    rcases Int.lt_trichotomy (vcmp ⟨a0, a1, a2⟩ ⟨b0, b1, b2⟩) 0 with s | s | s
    · left; refine ⟨s, ?_⟩
      show (if a0 = 0 ∨ b0 = 0 then (2 : Int) else if a0 = b0 ∧ vcmp ⟨a0, a1, a2⟩ ⟨b0, b1, b2⟩ < 0 then 1 else 0) = 1 ∧ (if a0 = 0 ∨ b0 = 0 then (2 : Int) else if vcmp ⟨a0, a1, a2⟩ ⟨b0, b1, b2⟩ = 0 then 1 else 0) = 0 ∧ (if b0 = 0 ∨ a0 = 0 then (2 : Int) else if b0 = a0 ∧ vcmp ⟨b0, b1, b2⟩ ⟨a0, a1, a2⟩ < 0 then 1 else 0) = 0
      rw [if_neg e1, if_neg e1, if_neg e2, if_pos ⟨f, s⟩, if_neg (by omega), if_neg (by omega)]; exact ⟨rfl, rfl, rfl⟩
    · right; left; refine ⟨s, ?_⟩
      show (if a0 = 0 ∨ b0 = 0 then (2 : Int) else if a0 = b0 ∧ vcmp ⟨a0, a1, a2⟩ ⟨b0, b1, b2⟩ < 0 then 1 else 0) = 0 ∧ (if a0 = 0 ∨ b0 = 0 then (2 : Int) else if vcmp ⟨a0, a1, a2⟩ ⟨b0, b1, b2⟩ = 0 then 1 else 0) = 1 ∧ (if b0 = 0 ∨ a0 = 0 then (2 : Int) else if b0 = a0 ∧ vcmp ⟨b0, b1, b2⟩ ⟨a0, a1, a2⟩ < 0 then 1 else 0) = 0
      rw [if_neg e1, if_neg e1, if_neg e2, if_neg (by omega), if_pos s, if_neg (by omega)]; exact ⟨rfl, rfl, rfl⟩
    · right; right; refine ⟨s, ?_⟩
      show (if a0 = 0 ∨ b0 = 0 then (2 : Int) else if a0 = b0 ∧ vcmp ⟨a0, a1, a2⟩ ⟨b0, b1, b2⟩ < 0 then 1 else 0) = 0 ∧ (if a0 = 0 ∨ b0 = 0 then (2 : Int) else if vcmp ⟨a0, a1, a2⟩ ⟨b0, b1, b2⟩ = 0 then 1 else 0) = 0 ∧ (if b0 = 0 ∨ a0 = 0 then (2 : Int) else if b0 = a0 ∧ vcmp ⟨b0, b1, b2⟩ ⟨a0, a1, a2⟩ < 0 then 1 else 0) = 1
      rw [if_neg e1, if_neg e1, if_neg e2, if_neg (by omega), if_neg (by omega), if_pos ⟨f.symm, by omega⟩]; exact ⟨rfl, rfl, rfl⟩
  clear nn hk
  generalize vcmp ⟨a0, a1, a2⟩ ⟨b0, b1, b2⟩ = c at *
  generalize ltT ⟨a0, a1, a2⟩ ⟨b0, b1, b2⟩ = x at *
  generalize eqT ⟨a0, a1, a2⟩ ⟨b0, b1, b2⟩ = y at *
  generalize ltT ⟨b0, b1, b2⟩ ⟨a0, a1, a2⟩ = z at *
  go_enter Tryd.func7, Tryd.ntmps7
  go_wp2_with fail
  obtain ⟨B, hB⟩ : ∃ B, w.heap.size = B := ⟨_, rfl⟩
  have B1 : Below w.heap.size w ((w.alloc (.cells #[.int .i64 a0, .int .i64 a1, .string a2] 23)).alloc (.cells #[.int .i64 b0, .int .i64 b1, .string b2] 23)) := ((Below.refl _ w).alloc (Nat.le_refl _) _).alloc (by simp; try omega) _
  have y00 : ((w.alloc (.cells #[.int .i64 a0, .int .i64 a1, .string a2] 23)).alloc (.cells #[.int .i64 b0, .int .i64 b1, .string b2] 23)).cell? ⟨B, 0, none⟩ = some (.int .i64 a0) := pastcell (newcell 0 _ hB.symm rfl)
  have y01 : ((w.alloc (.cells #[.int .i64 a0, .int .i64 a1, .string a2] 23)).alloc (.cells #[.int .i64 b0, .int .i64 b1, .string b2] 23)).cell? ⟨B, 1, none⟩ = some (.int .i64 a1) := pastcell (newcell 1 _ hB.symm rfl)
  have y02 : ((w.alloc (.cells #[.int .i64 a0, .int .i64 a1, .string a2] 23)).alloc (.cells #[.int .i64 b0, .int .i64 b1, .string b2] 23)).cell? ⟨B, 2, none⟩ = some (.string a2) := pastcell (newcell 2 _ hB.symm rfl)
  have y10 : ((w.alloc (.cells #[.int .i64 a0, .int .i64 a1, .string a2] 23)).alloc (.cells #[.int .i64 b0, .int .i64 b1, .string b2] 23)).cell? ⟨B + 1, 0, none⟩ = some (.int .i64 b0) := newcell 0 _ (by simp [hB]) rfl
  have y11 : ((w.alloc (.cells #[.int .i64 a0, .int .i64 a1, .string a2] 23)).alloc (.cells #[.int .i64 b0, .int .i64 b1, .string b2] 23)).cell? ⟨B + 1, 1, none⟩ = some (.int .i64 b1) := newcell 1 _ (by simp [hB]) rfl
  have y12 : ((w.alloc (.cells #[.int .i64 a0, .int .i64 a1, .string a2] 23)).alloc (.cells #[.int .i64 b0, .int .i64 b1, .string b2] 23)).cell? ⟨B + 1, 2, none⟩ = some (.string b2) := newcell 2 _ (by simp [hB]) rfl
  rw [hB]
  have HE := Lib.hid hE
  clear hE
  generalize ((w.alloc (.cells #[.int .i64 a0, .int .i64 a1, .string a2] 23)).alloc (.cells #[.int .i64 b0, .int .i64 b1, .string b2] 23)) = W at *
  clear hB
  go_wp2_with fail
  refine (awake_any _ (HE.out.below B1)).mono ?_
  rintro e w0 ⟨rfl, hb⟩
  have B1 := more_below B1 hb
  have y00 := keepcell hb y00
  have y01 := keepcell hb y01
  have y02 := keepcell hb y02
  have y10 := keepcell hb y10
  have y11 := keepcell hb y11
  have y12 := keepcell hb y12
  clear hb
  go_wp2_with fail
  refine (L0.out _).mono ?_
  rintro e w1 ⟨rfl, hb⟩
  have B1 := more_below B1 hb
  have y00 := keepcell hb y00
  have y01 := keepcell hb y01
  have y02 := keepcell hb y02
  have y10 := keepcell hb y10
  have y11 := keepcell hb y11
  have y12 := keepcell hb y12
  clear hb
  go_wp2_with fail
  refine (L1.out _).mono ?_
  rintro e w2 ⟨rfl, hb⟩
  have B1 := more_below B1 hb
  have y00 := keepcell hb y00
  have y01 := keepcell hb y01
  have y02 := keepcell hb y02
  have y10 := keepcell hb y10
  have y11 := keepcell hb y11
  have y12 := keepcell hb y12
  clear hb
  have y00 := fun d os => cell_regrown y00 d os
  have y01 := fun d os => cell_regrown y01 d os
  have y02 := fun d os => cell_regrown y02 d os
  have y10 := fun d os => cell_regrown y10 d os
  have y11 := fun d os => cell_regrown y11 d os
  have y12 := fun d os => cell_regrown y12 d os
  go_wp2_with fail
  refine wp_region_quiet_below (by kernel_rfl) (by kernel_rfl) ?_
  repeat (first | go_big_quiet_step ((first | (go_at_call 22; with_reducible exact Calls.regrown_of (P1.out _)) | (go_at_call 20; with_reducible exact Calls.regrown_of (P2.out _)) | (go_at_call 22; with_reducible exact Calls.regrown_of (P3.out _)))) | quiet_step ((first | (go_at_call 22; with_reducible exact Calls.regrown_of (P1.out _)) | (go_at_call 20; with_reducible exact Calls.regrown_of (P2.out _)) | (go_at_call 22; with_reducible exact Calls.regrown_of (P3.out _)))))
  refine wpQuiet_nil ?_
  intro _ hw'
  obtain ⟨⟨dq, osq⟩, hw''⟩ := hw'
  subst hw''
  have B1 := more_below B1 (below_regrown w2 dq osq)
  have y00 := y00 dq osq
  have y01 := y01 dq osq
  have y02 := y02 dq osq
  have y10 := y10 dq osq
  have y11 := y11 dq osq
  have y12 := y12 dq osq
  by_cases h0 : a0 = 0
  · obtain ⟨rfl, rfl, rfl⟩ := HX.out (.inl h0)
    subst h0
    go_wp2; go_ret; exact ⟨rfl, B1⟩
  have q0 : (a0 == 0) = false := by simpa using h0
  by_cases h1 : b0 = 0
  · obtain ⟨rfl, rfl, rfl⟩ := HX.out (.inr h1)
    subst h1
    go_wp2; go_ret; exact ⟨rfl, B1⟩
  have q1 : (b0 == 0) = false := by simpa using h1
  by_cases h2 : a0 = b0
  · rcases HZ.out h0 h1 h2 with ⟨s, rfl, rfl, rfl⟩ | ⟨s, rfl, rfl, rfl⟩ | ⟨s, rfl, rfl, rfl⟩
    · have t1 : decide (c < 0) = true := decide_eq_true s
      have t2 : (c == 0) = false := by simp; omega
      have t3 : decide (c > 0) = false := decide_eq_false (by omega)
      subst h2
      go_wp2_with fail
      refine (P4.out _).mono ?_
      rintro e w5 ⟨rfl, hb⟩
      have B1 := more_below B1 hb
      go_wp2; go_ret; exact ⟨rfl, B1⟩
    · subst s
      subst h2
      go_wp2_with fail
      refine (P4.out _).mono ?_
      rintro e w5 ⟨rfl, hb⟩
      have B1 := more_below B1 hb
      go_wp2; go_ret; exact ⟨rfl, B1⟩
    · have t1 : decide (c < 0) = false := decide_eq_false (by omega)
      have t2 : (c == 0) = false := by simp; omega
      have t3 : decide (c > 0) = true := decide_eq_true s
      subst h2
      go_wp2_with fail
      refine (P4.out _).mono ?_
      rintro e w5 ⟨rfl, hb⟩
      have B1 := more_below B1 hb
      go_wp2; go_ret; exact ⟨rfl, B1⟩
  · obtain ⟨rfl, rfl, rfl⟩ := HY.out h0 h1 h2
    have q2 : (a0 == b0) = false := by simpa using h2
    have q3 : (a0 != b0) = true := by simpa using h2
    go_wp2; go_ret; exact ⟨rfl, B1⟩
theorem valueTrichotomy_walk (a0 a1 : Int) (a2 : ByteArray) (b0 b1 : Int) (b2 : ByteArray) (w : World) (ha0 : -9223372036854775808 ≤ a0) (ga0 : a0 ≤ 9223372036854775807) (ha1 : -9223372036854775808 ≤ a1) (ga1 : a1 ≤ 9223372036854775807) (ha2 : a2.size ≤ 9223372036854775807) (hb0 : -9223372036854775808 ≤ b0) (gb0 : b0 ≤ 9223372036854775807) (hb1 : -9223372036854775808 ≤ b1) (gb1 : b1 ≤ 9223372036854775807) (hb2 : b2.size ≤ 9223372036854775807) (hE : Env w) :
    Calls Tryd.prog 7 #[.agg #[.int .i64 a0, .int .i64 a1, .string a2], .agg #[.int .i64 b0, .int .i64 b1, .string b2]] w fun e w' => e = .returned (.bool true) ∧ Below w.heap.size w w' := by
  rcases l0 : decide (100 < a2.size) with _ | _
  · skip
    rcases l1 : decide (100 < b2.size) with _ | _
    · skip
      exact valueTrichotomy_in a0 a1 a2 b0 b1 b2 w ha0 ga0 ha1 ga1 ha2 hb0 gb0 hb1 gb1 hb2 hE l0 l1
    · exact valueTrichotomy_long1 a0 a1 a2 b0 b1 b2 w ha0 ga0 ha1 ga1 ha2 hb0 gb0 hb1 gb1 hb2 hE l0 l1
  · exact valueTrichotomy_long0 a0 a1 a2 b0 b1 b2 w ha0 ga0 ha1 ga1 ha2 hb0 gb0 hb1 gb1 hb2 hE l0
end Go.Proofs.YtkigdglipoeaaaaDoor
