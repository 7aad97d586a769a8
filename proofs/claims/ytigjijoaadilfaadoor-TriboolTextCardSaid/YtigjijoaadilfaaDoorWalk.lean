/- The functions of package tribool on the texts of truth values, in a world in which the table of names holds the three names. -/
import Derived.Test.YtigjijoaadilfaaDoorRows
import Derived.WalkKit
import Derived.ProofKit
import Derived.OpenShut
import Derived.Lib.Hide
namespace Go.Proofs.YtigjijoaadilfaaDoor
open Go.ChangeShapes Go.WideShapes Go.ChangeAt Go.RowKit

def kn (a : Int) : Int := if a = 0 then 0 else if a = 1 then 1 else 2
theorem kn_cases (a : Int) : kn a = 0 ∨ kn a = 1 ∨ kn a = 2 := by
  unfold kn; by_cases h0 : a = 0
  · simp [h0]
  · by_cases h1 : a = 1 <;> simp [h0, h1]
def wF : ByteArray := ⟨#[70, 65, 76, 83, 69]⟩
def wT : ByteArray := ⟨#[84, 82, 85, 69]⟩
def wU : ByteArray := ⟨#[85, 78, 75, 78, 79, 87, 78]⟩
def nm (a : Int) : ByteArray := if kn a = 0 then wF else if kn a = 1 then wT else wU

theorem ret_int {k : IntKind} {a b : Int} (h : a = b) : Ending.returned (.int k a) = .returned (.int k b) := by rw [h]

def Named (w : World) : Prop := w.cell? ⟨0, 0, none⟩ = some (.string wF) ∧ w.cell? ⟨0, 1, none⟩ = some (.string wT) ∧ w.cell? ⟨0, 2, none⟩ = some (.string wU)

theorem known_is (a v : Int) (w : World) (h : kn a = v) : Calls Tryd.prog 13 #[.int .i64 a] w fun e w' => e = .returned (.int .i64 v) ∧ w = w' := by
  subst h
  by_cases h0 : a = 0
  · subst h0
    go_enter Tryd.func13, Tryd.ntmps13
    go_wp2
    go_ret
    exact ⟨ret_int (by simp [kn]), rfl⟩
  · by_cases h1 : a = 1
    · subst h1
      go_enter Tryd.func13, Tryd.ntmps13
      go_wp2
      go_ret
      exact ⟨ret_int (by simp [kn]), rfl⟩
    · have e : kn a = 2 := by simp [kn, h0, h1]
      rw [e]
      have b0 : (a == 0) = false := by simpa using h0
      have b1 : (a == 1) = false := by simpa using h1
      clear h0 h1 e
      go_enter Tryd.func13, Tryd.ntmps13
      go_wp2
      go_ret
      exact ⟨rfl, rfl⟩

theorem value_is (a v : Int) (w : World) (h : kn a = v) : Calls Tryd.prog 8 #[.int .i64 a] w fun e w' => e = .returned (.int .i64 v) ∧ w = w' := by
  subst h
  by_cases h0 : a = 0
  · subst h0
    go_enter Tryd.func8, Tryd.ntmps8
    go_wp2
    go_ret
    exact ⟨ret_int (by simp [kn]), rfl⟩
  · by_cases h1 : a = 1
    · subst h1
      go_enter Tryd.func8, Tryd.ntmps8
      go_wp2
      go_ret
      exact ⟨ret_int (by simp [kn]), rfl⟩
    · have e : kn a = 2 := by simp [kn, h0, h1]
      rw [e]
      have b0 : (a == 0) = false := by simpa using h0
      have b1 : (a == 1) = false := by simpa using h1
      clear h0 h1 e
      go_enter Tryd.func8, Tryd.ntmps8
      go_wp2
      go_ret
      exact ⟨rfl, rfl⟩

theorem format_is (a : Int) (s : ByteArray) (w : World) (hN : Named w) (hs : nm a = s) : Calls Tryd.prog 5 #[.int .i64 a] w fun e w' => e = .returned (.string s) ∧ w = w' := by
  obtain ⟨n0, n1, n2⟩ := hN
  subst hs
  rcases kn_cases a with ha | ha | ha
  all_goals
    have e := show nm a = _ by unfold nm; rw [ha]
    simp only [if_true, if_false, Int.reduceEq] at e
    rw [e]; clear e
    have Ha := Lib.hid ha
    clear ha
    go_enter Tryd.func5, Tryd.ntmps5
    go_wp2_with (go_at_call 13; refine (known_is a _ _ Ha.out).mono ?_; rintro e w' ⟨rfl, rfl⟩)
    go_ret
    exact ⟨rfl, rfl⟩

theorem name_is (a : Int) (s : ByteArray) (w : World) (hs : nm a = s) : Calls Tryd.prog 6 #[.int .i64 a] w fun e w' => e = .returned (.string s) ∧ w = w' := by
  subst hs
  rcases kn_cases a with ha | ha | ha
  all_goals
    have e := show nm a = _ by unfold nm; rw [ha]
    simp only [if_true, if_false, Int.reduceEq] at e
    rw [e]; clear e
    have Ha := Lib.hid ha
    clear ha
    go_enter Tryd.func6, Tryd.ntmps6
    go_wp2_with (go_at_call 8; refine (value_is a _ _ Ha.out).mono ?_; rintro e w' ⟨rfl, rfl⟩)
    go_ret
    exact ⟨rfl, rfl⟩

theorem parse_none (s : ByteArray) (w : World) (hN : Named w) (h0 : (wF.toList == s.toList) = false) (h1 : (wT.toList == s.toList) = false) (h2 : (wU.toList == s.toList) = false) : Calls Tryd.prog 7 #[.string s] w fun e w' => e = .returned (.tuple #[.int .i64 0, .int .i64 2]) ∧ w = w' := by
  obtain ⟨n0, n1, n2⟩ := hN
  have i0 : ∀ w, (Instr.index 32 (.agg #[.string wF, .string wT, .string wU]) (.int .i64 0)).run Tryd.prog w = .ok (.string wF) w := fun _ => by kernel_rfl
  have i1 : ∀ w, (Instr.index 32 (.agg #[.string wF, .string wT, .string wU]) (.int .i64 1)).run Tryd.prog w = .ok (.string wT) w := fun _ => by kernel_rfl
  have i2 : ∀ w, (Instr.index 32 (.agg #[.string wF, .string wT, .string wU]) (.int .i64 2)).run Tryd.prog w = .ok (.string wU) w := fun _ => by kernel_rfl
  go_enter Tryd.func7, Tryd.ntmps7
  go_wp2
  go_loop [7] (fun i => i = .int .i64 0 ∨ i = .int .i64 1 ∨ i = .int .i64 2 ∨ i = .int .i64 3) (fun i => 3 - (intOf i).toNat)
  case atStart => exact .inl rfl
  case round =>
    rcases hrel with rfl | rfl | rfl | rfl
    · go_wp2
      go_round
      case rel => simp
      case measure => simp [intOf]
    · go_wp2
      go_round
      case rel => simp
      case measure => simp [intOf]
    · go_wp2
      go_round
      case rel => simp
      case measure => simp [intOf]
    · go_wp2
      go_ret2
      exact ⟨rfl, rfl⟩

theorem parse_F (s : ByteArray) (w : World) (hN : Named w) (h0 : (wF.toList == s.toList) = true) : Calls Tryd.prog 7 #[.string s] w fun e w' => e = .returned (.tuple #[.int .i64 0, .int .i64 0]) ∧ w = w' := by
  obtain ⟨n0, n1, n2⟩ := hN
  have i0 : ∀ w, (Instr.index 32 (.agg #[.string wF, .string wT, .string wU]) (.int .i64 0)).run Tryd.prog w = .ok (.string wF) w := fun _ => by kernel_rfl
  have i1 : ∀ w, (Instr.index 32 (.agg #[.string wF, .string wT, .string wU]) (.int .i64 1)).run Tryd.prog w = .ok (.string wT) w := fun _ => by kernel_rfl
  have i2 : ∀ w, (Instr.index 32 (.agg #[.string wF, .string wT, .string wU]) (.int .i64 2)).run Tryd.prog w = .ok (.string wU) w := fun _ => by kernel_rfl
  go_enter Tryd.func7, Tryd.ntmps7
  go_wp2
  go_loop [7] (fun i => i = .int .i64 0) (fun i => 3 - (intOf i).toNat)
  case atStart => exact rfl
  case round =>
    obtain rfl := hrel
    · go_wp2
      go_ret2
      exact ⟨rfl, rfl⟩

theorem parse_T (s : ByteArray) (w : World) (hN : Named w) (h0 : (wF.toList == s.toList) = false) (h1 : (wT.toList == s.toList) = true) : Calls Tryd.prog 7 #[.string s] w fun e w' => e = .returned (.tuple #[.int .i64 1, .int .i64 0]) ∧ w = w' := by
  obtain ⟨n0, n1, n2⟩ := hN
  have i0 : ∀ w, (Instr.index 32 (.agg #[.string wF, .string wT, .string wU]) (.int .i64 0)).run Tryd.prog w = .ok (.string wF) w := fun _ => by kernel_rfl
  have i1 : ∀ w, (Instr.index 32 (.agg #[.string wF, .string wT, .string wU]) (.int .i64 1)).run Tryd.prog w = .ok (.string wT) w := fun _ => by kernel_rfl
  have i2 : ∀ w, (Instr.index 32 (.agg #[.string wF, .string wT, .string wU]) (.int .i64 2)).run Tryd.prog w = .ok (.string wU) w := fun _ => by kernel_rfl
  go_enter Tryd.func7, Tryd.ntmps7
  go_wp2
  go_loop [7] (fun i => i = .int .i64 0 ∨ i = .int .i64 1) (fun i => 3 - (intOf i).toNat)
  case atStart => exact .inl rfl
  case round =>
    rcases hrel with rfl | rfl
    · go_wp2
      go_round
      case rel => simp
      case measure => simp [intOf]
    · go_wp2
      go_ret2
      exact ⟨rfl, rfl⟩

theorem parse_U (s : ByteArray) (w : World) (hN : Named w) (h0 : (wF.toList == s.toList) = false) (h1 : (wT.toList == s.toList) = false) (h2 : (wU.toList == s.toList) = true) : Calls Tryd.prog 7 #[.string s] w fun e w' => e = .returned (.tuple #[.int .i64 2, .int .i64 0]) ∧ w = w' := by
  obtain ⟨n0, n1, n2⟩ := hN
  have i0 : ∀ w, (Instr.index 32 (.agg #[.string wF, .string wT, .string wU]) (.int .i64 0)).run Tryd.prog w = .ok (.string wF) w := fun _ => by kernel_rfl
  have i1 : ∀ w, (Instr.index 32 (.agg #[.string wF, .string wT, .string wU]) (.int .i64 1)).run Tryd.prog w = .ok (.string wT) w := fun _ => by kernel_rfl
  have i2 : ∀ w, (Instr.index 32 (.agg #[.string wF, .string wT, .string wU]) (.int .i64 2)).run Tryd.prog w = .ok (.string wU) w := fun _ => by kernel_rfl
  go_enter Tryd.func7, Tryd.ntmps7
  go_wp2
  go_loop [7] (fun i => i = .int .i64 0 ∨ i = .int .i64 1 ∨ i = .int .i64 2) (fun i => 3 - (intOf i).toNat)
  case atStart => exact .inl rfl
  case round =>
    rcases hrel with rfl | rfl | rfl
    · go_wp2
      go_round
      case rel => simp
      case measure => simp [intOf]
    · go_wp2
      go_round
      case rel => simp
      case measure => simp [intOf]
    · go_wp2
      go_ret2
      exact ⟨rfl, rfl⟩

end Go.Proofs.YtigjijoaadilfaaDoor
