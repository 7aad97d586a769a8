/- The layout of a disk, in the program and in the reference. -/
import Derived.Test.YthhpilkhcomhbaaDoorSmx
import Derived.Test.YthhpilkhcomhbaaDoorAwk
import Derived.Handy
namespace Go.Proofs.YthhpilkhcomhbaaDoor
open Go.ChangeShapes Go.WideShapes Go.ChangeAt Go.RowKit Go.ChangeMaps

def layV (a n : Int) : Value := .agg #[.int .i64 0, .int .i64 1, .int .i64 2, .int .i64 3, .int .i64 (3 + a), .int .i64 a, .int .i64 (3 + 2 * a), .int .i64 (n - (3 + 2 * a))]
def lay0 : Value := .agg #[.int .i64 0, .int .i64 0, .int .i64 0, .int .i64 0, .int .i64 0, .int .i64 0, .int .i64 0, .int .i64 0]
theorem area_int {n : Nat} (h : 7 ≤ n) : (areaOf n : Int) = ((n : Int) - 3) / 4 := by unfold areaOf; omega
theorem lay_step {n : Nat} (h : 7 ≤ n) (h2 : n ≤ 65536) : ∃ a : Int, areaOf n = a ∧ IntKind.i64.wrap ((n : Int) - 3) = (n : Int) - 3 ∧ Int.tdiv ((n : Int) - 3) 4 = a ∧ 1 ≤ a ∧ a ≤ 16383 := by
  refine ⟨_, rfl, by rw [IntWalk.i64_in _ (by omega)], ?_, by unfold areaOf; omega, by unfold areaOf; omega⟩
  rw [area_int h, Int.tdiv_eq_ediv_of_nonneg (by omega)]
set_option maxRecDepth 100000 in
theorem Divide_ok (w : World) (n : Nat) (h1 : 7 ≤ n) (h2 : n ≤ 65536) : Calls Tryd.prog 10 #[.int .i64 (n : Int)] w fun e w' => e = .returned (.tuple #[layV (areaOf n) n, .int .i64 0]) ∧ Below w.heap.size w w' := by
  obtain ⟨a, ha, e1, e2, ha1, ha2⟩ := lay_step h1 h2
  rw [ha]
  clear ha
  have t1 : ¬ (n : Int) < 7 := by omega
  have t2 : ¬ (65536 : Int) < n := by omega
  go_enter Tryd.func10, Tryd.ntmps10
  go_wp2
  go_returns
  exact ⟨rfl, (Below.refl _ _).alloc (Nat.le_refl _) _⟩
theorem Divide_bad (w : World) (x : Int) (h : x < 7 ∨ 65536 < x) : Calls Tryd.prog 10 #[.int .i64 x] w fun e w' => e = .returned (.tuple #[lay0, .int .i64 1]) ∧ Below w.heap.size w w' := by
  by_cases h7 : x < 7
  · go_enter Tryd.func10, Tryd.ntmps10
    go_wp2
    go_returns
    exact ⟨rfl, (Below.refl _ _).alloc (Nat.le_refl _) _⟩
  · have t2 : (65536 : Int) < x := by omega
    go_enter Tryd.func10, Tryd.ntmps10
    go_wp2
    go_returns
    exact ⟨rfl, (Below.refl _ _).alloc (Nat.le_refl _) _⟩
set_option maxRecDepth 100000 in
theorem RDivide_ok (w : World) (n : Nat) (h1 : 7 ≤ n) (h2 : n ≤ 65536) : Calls Tryd.prog 11 #[.int .i64 (n : Int)] w fun e w' => e = .returned (.tuple #[layV (areaOf n) n, .int .i64 0]) ∧ Below w.heap.size w w' := by
  obtain ⟨a, ha, e1, e2, ha1, ha2⟩ := lay_step h1 h2
  rw [ha]
  clear ha
  have t1 : ¬ (n : Int) < 7 := by omega
  have t2 : ¬ (65536 : Int) < n := by omega
  have e3 : (n : Int) - 3 - 2 * a = n - (3 + 2 * a) := by omega
  go_enter Tryd.func11, Tryd.ntmps11
  go_wp2
  go_returns
  exact ⟨rfl, (Below.refl _ _).alloc (Nat.le_refl _) _⟩
theorem RDivide_bad (w : World) (x : Int) (h : x < 7 ∨ 65536 < x) : Calls Tryd.prog 11 #[.int .i64 x] w fun e w' => e = .returned (.tuple #[lay0, .int .i64 1]) ∧ Below w.heap.size w w' := by
  by_cases h7 : x < 7
  · go_enter Tryd.func11, Tryd.ntmps11
    go_wp2
    go_returns
    exact ⟨rfl, (Below.refl _ _).alloc (Nat.le_refl _) _⟩
  · have t2 : (65536 : Int) < x := by omega
    go_enter Tryd.func11, Tryd.ntmps11
    go_wp2
    go_returns
    exact ⟨rfl, (Below.refl _ _).alloc (Nat.le_refl _) _⟩
/-- The capacity. -/
def capM (x : Int) : Int := if 7 ≤ x ∧ x ≤ 65536 then 64 * (areaOf x.toNat : Int) else 0
set_option maxRecDepth 100000 in
theorem Capacity_any (w : World) (x : Int) : Calls Tryd.prog 13 #[.int .i64 x] w fun e w' => e = .returned (.int .i64 (capM x)) ∧ Below w.heap.size w w' := by
  by_cases hx : 7 ≤ x ∧ x ≤ 65536
  · obtain ⟨n, rfl⟩ : ∃ n : Nat, x = n := ⟨x.toNat, by omega⟩
    have CD := Lib.hid (Divide_ok w n (by omega) (by omega))
    have HC : Hid (capM (n : Int) = 64 * (areaOf n : Int)) := Lib.hid (by unfold capM; rw [if_pos hx, Int.toNat_natCast])
    have hb : areaOf n ≤ 16383 := by unfold areaOf; omega
    rw [HC.out]
    generalize areaOf n = a at *
    go_enter Tryd.func13, Tryd.ntmps13
    go_wp2_with fail
    refine CD.out.mono ?_
    rintro e w1 ⟨rfl, hb1⟩
    have HB := Lib.hid hb1
    clear hb1
    unfold layV
    go_wp2
    go_returns
    exact ⟨by rw [Int.mul_comm]; rfl, HB.out.alloc HB.out.size _⟩
  · have CD := Lib.hid (Divide_bad w x (by omega))
    have HC : Hid (capM x = 0) := Lib.hid (by unfold capM; rw [if_neg hx])
    rw [HC.out]
    clear hx
    go_enter Tryd.func13, Tryd.ntmps13
    go_wp2_with fail
    refine CD.out.mono ?_
    rintro e w1 ⟨rfl, hb1⟩
    have HB := Lib.hid hb1
    clear hb1
    unfold lay0
    go_wp2
    go_returns
    exact ⟨rfl, HB.out.alloc HB.out.size _⟩
set_option maxRecDepth 100000 in
theorem RCapacity_any (w : World) (x : Int) : Calls Tryd.prog 14 #[.int .i64 x] w fun e w' => e = .returned (.int .i64 (capM x)) ∧ Below w.heap.size w w' := by
  by_cases hx : 7 ≤ x ∧ x ≤ 65536
  · obtain ⟨n, rfl⟩ : ∃ n : Nat, x = n := ⟨x.toNat, by omega⟩
    have CD := Lib.hid (RDivide_ok w n (by omega) (by omega))
    have HC : Hid (capM (n : Int) = 64 * (areaOf n : Int)) := Lib.hid (by unfold capM; rw [if_pos hx, Int.toNat_natCast])
    have hb : areaOf n ≤ 16383 := by unfold areaOf; omega
    rw [HC.out]
    generalize areaOf n = a at *
    go_enter Tryd.func14, Tryd.ntmps14
    go_wp2_with fail
    refine CD.out.mono ?_
    rintro e w1 ⟨rfl, hb1⟩
    have HB := Lib.hid hb1
    clear hb1
    unfold layV
    go_wp2
    go_returns
    exact ⟨rfl, HB.out.alloc HB.out.size _⟩
  · have CD := Lib.hid (RDivide_bad w x (by omega))
    have HC : Hid (capM x = 0) := Lib.hid (by unfold capM; rw [if_neg hx])
    rw [HC.out]
    clear hx
    go_enter Tryd.func14, Tryd.ntmps14
    go_wp2_with fail
    refine CD.out.mono ?_
    rintro e w1 ⟨rfl, hb1⟩
    have HB := Lib.hid hb1
    clear hb1
    unfold lay0
    go_wp2
    go_returns
    exact ⟨rfl, HB.out.alloc HB.out.size _⟩
end Go.Proofs.YthhpilkhcomhbaaDoor
