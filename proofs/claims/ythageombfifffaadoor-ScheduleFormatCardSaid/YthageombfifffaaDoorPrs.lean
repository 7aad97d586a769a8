/- The schedule of a text: the arithmetic. -/
import Derived.Test.YthageombfifffaaDoorRan
namespace Go.Proofs.YthageombfifffaaDoor
open Go.ChangeShapes Go.WideShapes Go.ChangeAt Go.RowKit Go.ChangeMaps

def lineOf : List UInt8 → List UInt8
  | [] => []
  | c :: r => if c = 10 then [] else c :: lineOf r
def restOf : List UInt8 → List UInt8
  | [] => []
  | c :: r => if c = 10 then r else restOf r
theorem split10 (t : List UInt8) (h : (10 : UInt8) ∈ t) : t = lineOf t ++ 10 :: restOf t := by
  induction t with
  | nil => cases h
  | cons c r ih =>
    by_cases hc : c = 10
    · rw [lineOf, restOf, if_pos hc, if_pos hc, hc]; rfl
    · rw [lineOf, restOf, if_neg hc, if_neg hc, List.cons_append, ← ih (by rcases List.mem_cons.1 h with h | h; exact absurd h.symm hc; exact h)]
theorem line_no10 (t : List UInt8) : (10 : UInt8) ∉ lineOf t := by
  induction t with
  | nil => simp [lineOf]
  | cons c r ih =>
    rw [lineOf]
    split
    · simp
    · rename_i hc; rw [List.mem_cons, not_or]; exact ⟨fun h => hc h.symm, ih⟩
theorem lineOf_app (p r : List UInt8) (h : (10 : UInt8) ∉ p) : lineOf (p ++ 10 :: r) = p := by
  induction p with
  | nil => rfl
  | cons c p ih =>
    rw [List.mem_cons, not_or] at h
    rw [List.cons_append, lineOf, if_neg (fun e => h.1 e.symm), ih h.2]
theorem restOf_app (p r : List UInt8) (h : (10 : UInt8) ∉ p) : restOf (p ++ 10 :: r) = r := by
  induction p with
  | nil => rfl
  | cons c p ih =>
    rw [List.mem_cons, not_or] at h
    rw [List.cons_append, restOf, if_neg (fun e => h.1 e.symm), ih h.2]
theorem restOf_len (t : List UInt8) (h : (10 : UInt8) ∈ t) : (lineOf t).length + 1 + (restOf t).length = t.length := by
  have := congrArg List.length (split10 t h)
  rw [List.length_append, List.length_cons] at this
  omega
theorem index_no10 (t : List UInt8) (h : (10 : UInt8) ∉ t) : Lib.index t [10] = -1 := by
  induction t with
  | nil => rfl
  | cons b t ih =>
    simp only [List.mem_cons, not_or] at h
    have hp : ([10] : List UInt8).isPrefixOf (b :: t) = false := by simp [List.isPrefixOf, h.1]
    rw [Lib.index, hp, ih h.2]; simp
theorem index_at10 (p r : List UInt8) (h : (10 : UInt8) ∉ p) : Lib.index (p ++ 10 :: r) [10] = (p.length : Int) := by
  induction p with
  | nil => rw [List.nil_append, Lib.index]; simp [List.isPrefixOf]
  | cons b p ih =>
    simp only [List.mem_cons, not_or] at h
    have hp : ([10] : List UInt8).isPrefixOf (b :: (p ++ 10 :: r)) = false := by simp [List.isPrefixOf, h.1]
    rw [List.cons_append, Lib.index, hp, ih h.2]
    have hl : (b :: p).length = p.length + 1 := rfl
    rw [hl, if_neg (by decide), if_neg (by simp)]
    omega
theorem cut_no (t : List UInt8) (h : (10 : UInt8) ∉ t) : Lib.cut t [10] = (t, [], false) := by
  unfold Lib.cut
  rw [index_no10 t h, if_neg (by decide)]
theorem cut_yes (t : List UInt8) (h : (10 : UInt8) ∈ t) : Lib.cut t [10] = (lineOf t, restOf t, true) := by
  have e := split10 t h
  have n := line_no10 t
  generalize lineOf t = p at *
  generalize restOf t = r at *
  subst e
  unfold Lib.cut
  rw [index_at10 p r n, if_pos (by omega)]
  have e1 : ((p.length : Int)).toNat = p.length := by omega
  have e2 : (p ++ 10 :: r).drop (p.length + 1) = r := by rw [← List.drop_drop, List.drop_left]; rfl
  rw [e1, List.take_left]
  show (p, (p ++ 10 :: r).drop (p.length + 1), true) = _
  rw [e2]
/-- The schedule of a text, and the number of the first wrong line. -/
def prs : Nat → List UInt8 → List Act → List Act × Nat
  | 0, _, acc => (acc, 0)
  | f + 1, t, acc => if t = [] then (acc, 0) else if (10 : UInt8) ∈ t ∧ okL (lineOf t) = true then prs f (restOf t) (acc ++ [actS (lineOf t)]) else ([], acc.length + 1)
theorem prs_nil (f : Nat) (acc : List Act) : prs f [] acc = (acc, 0) := by
  cases f with
  | zero => rfl
  | succ f => rw [prs, if_pos rfl]
theorem prs_ok (f : Nat) (t : List UInt8) (acc : List Act) (h : (10 : UInt8) ∈ t) (ho : okL (lineOf t) = true) : prs (f + 1) t acc = prs f (restOf t) (acc ++ [actS (lineOf t)]) := by
  rw [prs, if_neg (fun e => by subst e; cases h), if_pos ⟨h, ho⟩]
theorem prs_bad (f : Nat) (t : List UInt8) (acc : List Act) (h0 : t ≠ []) (h : ¬ ((10 : UInt8) ∈ t ∧ okL (lineOf t) = true)) : prs (f + 1) t acc = ([], acc.length + 1) := by
  rw [prs, if_neg h0, if_neg h]
theorem prs_len : ∀ (f : Nat) (t : List UInt8) (acc : List Act), (prs f t acc).1.length ≤ acc.length + f ∧ (prs f t acc).2 ≤ acc.length + f
  | 0, t, acc => by rw [prs]; exact ⟨Nat.le_refl _, Nat.zero_le _⟩
  | f + 1, t, acc => by
    rw [prs]
    split
    · exact ⟨Nat.le_add_right _ _, Nat.zero_le _⟩
    · split
      · have := prs_len f (restOf t) (acc ++ [actS (lineOf t)])
        rw [List.length_append, List.length_singleton] at this
        omega
      · exact ⟨Nat.zero_le _, by show acc.length + 1 ≤ _; omega⟩
theorem line_ok (a : Act) (h : vA a 8 = true) : (10 : UInt8) ∉ lineS a := by
  rcases vA_cases a h with ⟨n, hn, rfl⟩ | rfl | rfl | rfl | ⟨n, m, h0, h1, h2, rfl⟩
  · rw [lineS_step]; have := dec_no10 n; simp [tStep, this]
  · show (10 : UInt8) ∉ ([99, 104, 101, 99, 107, 112, 111, 105, 110, 116] : List UInt8); decide
  · show (10 : UInt8) ∉ ([114, 101, 99, 111, 118, 101, 114] : List UInt8); decide
  · show (10 : UInt8) ∉ ([99, 114, 97, 115, 104] : List UInt8); decide
  · rw [lineS_crash n m h0]; have := dec_no10 n; have := dec_no10 m; simp [tCrash, *]
theorem okL_line (a : Act) (h : vA a 8 = true) : okL (lineS a) = true := by
  unfold okL; rw [actS_inv a h, h]; simp
theorem prs_fmt (R : List Act) : ∀ f acc, (fmtL R).length ≤ f → (R.all fun a => vA a 8) = true → prs f (fmtL R) acc = (acc ++ R, 0) := by
  induction R with
  | nil => intro f acc _ _; rw [show fmtL [] = [] from rfl, prs_nil, List.append_nil]
  | cons a R ih =>
    intro f acc hf hv
    rw [List.all_cons, Bool.and_eq_true] at hv
    have e : fmtL (a :: R) = lineS a ++ 10 :: fmtL R := by unfold fmtL; simp
    rw [e] at hf ⊢
    rw [List.length_append, List.length_cons] at hf
    obtain ⟨g, rfl⟩ : ∃ g, f = g + 1 := ⟨f - 1, by omega⟩
    have n := line_ok a hv.1
    rw [prs_ok g _ acc (by simp) (by rw [lineOf_app _ _ n]; exact okL_line a hv.1), lineOf_app _ _ n, restOf_app _ _ n, ih g _ (by omega) hv.2, actS_inv a hv.1]
    simp
theorem actS_ok (t : List UInt8) : (actS t).ok := by
  have h1 := numW_bd (words t) 1
  have h2 := numW_bd (words t) 2
  unfold actS
  split
  · exact ⟨by simp, by simp, h1.1, h1.2, by simp, by simp, by simp, by simp⟩
  split
  · simp [Act.ok]
  split
  · simp [Act.ok]
  split
  · exact ⟨by simp, by simp, by simp, by simp, h1.1, h1.2, h2.1, h2.2⟩
  · simp [Act.ok]
end Go.Proofs.YthageombfifffaaDoor
