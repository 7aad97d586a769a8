/- Satisfiable, Model and Cycle where every round changes; Cycle where one does not. -/
import Derived.Test.YtbmofagaammgmaaDsu
namespace Go.Proofs.Ytbmofagaammgmaa
open Go.ChangeShapes Go.WideShapes Go.ChangeAt Go.RowKit Go.ChangeMaps

def Uns (s : St) (n : Nat) : Prop := ∀ r, r < n + 1 → ¬ ∀ v, v < n + 1 → (xsk s.c s.prs (n + 1) (r + 1)).getD v 0 = (xsk s.c s.prs (n + 1) r).getD v 0
def Sat (s : St) (n : Nat) : Prop := ∃ r, r < n + 1 ∧ ∀ v, v < n + 1 → (xsk s.c s.prs (n + 1) (r + 1)).getD v 0 = (xsk s.c s.prs (n + 1) r).getD v 0
theorem sat_or (s : St) (n : Nat) : Sat s n ∨ Uns s n := by
  by_cases h : Sat s n
  · exact .inl h
  · exact .inr fun r hr hall => h ⟨r, hr, hall⟩
theorem Sat_uns (w : World) (B g n : Nat) (s : St) (h : MX w B g n s) (hsat : Uns s n) : Calls Try.prog 15 #[.pointer (some ⟨g, 0, none⟩)] w fun e w' => e = .returned (.bool false) ∧ Below w.heap.size w w' := by
  have CS := Lib.hid (solve_uns w B g n s h hsat)
  have q := qs36
  clear h hsat
  go_enter Try.func15, Try.ntmps15
  go_wp2_with fail
  refine CS.out.mono ?_
  rintro e w1 ⟨nd, -, A, m, c, i, j, rfl, hA, -, -, -, -, -, -, hb⟩
  have HB := Lib.hid hb
  obtain ⟨ad, rfl⟩ := Option.ne_none_iff_exists'.1 hA
  clear hb CS hA
  go_wp2
  go_ret
  exact ⟨rfl, HB.out⟩
theorem Model_uns (w : World) (B g n : Nat) (s : St) (h : MX w B g n s) (hsat : Uns s n) : Calls Try.prog 18 #[.pointer (some ⟨g, 0, none⟩)] w fun e w' => e = .returned (.tuple #[.slice none 0 0, .bool false]) ∧ Below w.heap.size w w' := by
  have CS := Lib.hid (solve_uns w B g n s h hsat)
  have q := qn36
  clear h hsat
  go_enter Try.func18, Try.ntmps18
  go_wp2_with fail
  refine CS.out.mono ?_
  rintro e w1 ⟨nd, -, A, m, c, i, j, rfl, hA, -, -, -, -, -, -, hb⟩
  have HB := Lib.hid hb
  obtain ⟨ad, rfl⟩ := Option.ne_none_iff_exists'.1 hA
  clear hb CS hA
  go_wp2
  go_ret2
  exact ⟨rfl, HB.out⟩
def CcP (s : St) (N : Nat) (w : World) (e : Ending) (w' : World) : Prop := ∃ (nd : Nat → Nat) (A : Option Addr) (m c i j : Nat), e = .returned (.slice A m c) ∧ Nds s N nd ∧ j < i ∧ i ≤ N ∧ nd i = nd j ∧ (∀ a b, j < a → a < b → b ≤ N → nd a ≠ nd b) ∧ m = i - j ∧ At w' A m 1 (ic .i64 ((pthL s nd N (N - j)).drop (N - i))) ∧ Below w.heap.size w w'
theorem Cycle_uns (w : World) (B g n : Nat) (s : St) (h : MX w B g n s) (hsat : Uns s n) : Calls Try.prog 20 #[.pointer (some ⟨g, 0, none⟩)] w (CcP s (n + 1) w) := by
  have CS := Lib.hid (solve_uns w B g n s h hsat)
  clear h hsat
  go_enter Try.func20, Try.ntmps20
  go_wp2_with fail
  refine CS.out.mono ?_
  rintro e w1 ⟨nd, q0, A, m, c, i, j, rfl, q1, q2, q3, q4, q5, q6, q7, hb⟩
  have HF := Lib.hid (show CcP s (n + 1) w (.returned (.slice A m c)) w1 from ⟨nd, A, m, c, i, j, rfl, q0, q2, q3, q4, q5, q6, q7, hb⟩)
  clear q0 q1 q2 q3 q4 q5 q6 q7 hb CS
  go_wp2
  go_ret
  exact HF.out
theorem Cycle_sat (w : World) (B g n : Nat) (s : St) (h : MX w B g n s) (hsat : Sat s n) : Calls Try.prog 20 #[.pointer (some ⟨g, 0, none⟩)] w fun e w' => e = .returned (.slice none 0 0) ∧ Below w.heap.size w w' := by
  have CS := Lib.hid (solve_sat w B g n s h hsat)
  clear h hsat
  go_enter Try.func20, Try.ntmps20
  go_wp2_with fail
  refine CS.out.mono ?_
  rintro e w1 ⟨gy, cy, Y, rfl, -, -, -, -, -, -, hb⟩
  have HB := Lib.hid hb
  clear hb CS
  go_wp2
  go_ret
  exact ⟨rfl, HB.out⟩
end Go.Proofs.Ytbmofagaammgmaa
