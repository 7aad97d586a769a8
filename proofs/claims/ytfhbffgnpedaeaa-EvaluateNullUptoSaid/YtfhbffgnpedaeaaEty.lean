/- The types of expressions: what they say. -/
import Derived.Test.YtfhbffgnpedaeaaErb
import Derived.Test.YtfhbffgnpedaeaaErw
import Derived.Test.YtfhbffgnpedaeaaErl
namespace Go.Proofs.Ytfhbffgnpedaeaa
open Go.ChangeShapes Go.WideShapes Go.ChangeAt Go.RowKit Go.ChangeMaps

structure Va where
  ty : Int
  lo : Int
  hi : Int
  mx : Int
  nl : Bool
def Va.cells (x : Va) : List Value := [.int .i64 x.ty, .int .i64 x.lo, .int .i64 x.hi, .int .i64 x.mx, .bool x.nl]
def isC (s t : Int) : Bool := decide (s = 0) || decide (s = t)
def facM (op : Int) (a b : Ex) : Bool := if op = 6 then (!colM a || !colM b) else if op < 7 then true else if (colM b || decide (bdM b > 1152921504606846976)) = true then false else (decide ((evM [] b).k = 1) && (decide (1 ≤ (evM [] b).n) && decide ((evM [] b).n ≤ 1000)))
def unT (op s : Int) : Int := if (op = 3 ∧ isC s 1 = true) ∨ (op = 9 ∧ isC s 2 = true) then 1 else if (op = 17 ∧ (isC s 1 || isC s 2) = true) ∨ (op = 20 ∧ isC s 3 = true) then 3 else -1
def biT (op : Int) (a b : Ex) (s t : Int) : Int := if 4 ≤ op ∧ op ≤ 8 then (if (isC s 1 && (isC t 1 && facM op a b)) = true then 1 else -1) else if 10 ≤ op ∧ op ≤ 15 then (if ((isC s 1 && isC t 1) || (isC s 2 && isC t 2)) = true then 3 else -1) else if op = 16 then (if (isC s 2 && (decide (b.op = 1) && decide (t = 2))) = true then 3 else -1) else if op = 18 ∨ op = 19 then (if (isC s 3 && isC t 3) = true then 3 else -1) else -1
def colT (L : List Va) (n : Nat) (ix : Int) : Int := if 0 < n then -1 else if ix < 0 then -1 else match L[ix.toNat]? with
  | none => -1
  | some v => if v.ty < 1 then -1 else if v.ty > 2 then -1 else v.ty
def tyC (L : List Va) (op ix : Int) (v : V3) (args : List Ex) (ts : List Int) : Int :=
  if op = 1 then (if 0 < args.length then -1 else litM v) else if op = 2 then colT L args.length ix else if op = 3 ∨ op = 9 ∨ op = 17 ∨ op = 20 then (match ts with | [s] => unT op s | _ => -1)
  else match args, ts with
    | [a, b], [s, t] => biT op a b s t
    | _, _ => -1
mutual
def tyM (L : List Va) : Ex → Int
  | .mk op _ _ ix v _ _ args => tyC L op ix v args (tyL L args)
def tyL (L : List Va) : List Ex → List Int
  | [] => []
  | a :: l => tyM L a :: tyL L l
end
theorem tyM_eq (L : List Va) (x : Ex) : tyM L x = tyC L x.op x.ix x.v x.args (tyL L x.args) := by cases x; rw [tyM]; rfl
theorem tyL_map (L : List Va) : ∀ l, tyL L l = l.map (tyM L)
  | [] => by simp [tyL]
  | a :: l => by simp [tyL, tyL_map L l]
theorem lit_cases (v : V3) : litM v = 0 ∨ litM v = 1 ∨ litM v = 2 ∨ litM v = -1 := by
  unfold litM
  split
  · exact .inl rfl
  · split
    · exact .inr (.inl rfl)
    · split
      · split
        · exact .inr (.inr (.inl rfl))
        · exact .inr (.inr (.inr rfl))
      · exact .inr (.inr (.inr rfl))
theorem isC_iff (s t : Int) : isC s t = true ↔ s = 0 ∨ s = t := by unfold isC; simp
/-- The shapes of the expressions with a type. -/
theorem ty_shape (L : List Va) (x : Ex) (t : Int) (h : tyM L x = t) (ht : t = 0 ∨ t = 1 ∨ t = 2) :
    (x.op = 1 ∧ x.args = [] ∧ litM x.v = t) ∨ (x.op = 2 ∧ x.args = [] ∧ 0 ≤ x.ix ∧ x.ix < L.length) ∨
    (t = 1 ∧ ∃ a, x.args = [a] ∧ ((x.op = 3 ∧ (tyM L a = 0 ∨ tyM L a = 1)) ∨ (x.op = 9 ∧ (tyM L a = 0 ∨ tyM L a = 2)))) ∨
    (t = 1 ∧ ∃ a b, x.args = [a, b] ∧ 4 ≤ x.op ∧ x.op ≤ 8 ∧ (tyM L a = 0 ∨ tyM L a = 1) ∧ (tyM L b = 0 ∨ tyM L b = 1) ∧ facM x.op a b = true) := by
  rw [tyM_eq, tyL_map] at h
  unfold tyC at h
  by_cases h1 : x.op = 1
  · rw [if_pos h1] at h
    by_cases h2 : 0 < x.args.length
    · rw [if_pos h2] at h; omega
    · rw [if_neg h2] at h
      exact .inl ⟨h1, List.eq_nil_of_length_eq_zero (by omega), h⟩
  rw [if_neg h1] at h
  by_cases h2 : x.op = 2
  · rw [if_pos h2] at h
    unfold colT at h
    split at h
    · omega
    · split at h
      · omega
      · split at h
        · omega
        · rename_i v hv
          have := (List.getElem?_eq_some_iff.1 hv).1
          exact .inr (.inl ⟨h2, List.eq_nil_of_length_eq_zero (by omega), by omega, by omega⟩)
  rw [if_neg h2] at h
  by_cases h3 : x.op = 3 ∨ x.op = 9 ∨ x.op = 17 ∨ x.op = 20
  · rw [if_pos h3] at h
    match hx : x.args, h with
    | [], h => simp at h; omega
    | _ :: _ :: _, h => simp at h; omega
    | [a], h =>
      simp only [List.map_cons, List.map_nil, unT] at h
      split at h
      · rename_i g
        refine .inr (.inr (.inl ⟨h.symm, a, rfl, ?_⟩))
        rcases g with ⟨g1, g2⟩ | ⟨g1, g2⟩
        · exact .inl ⟨g1, (isC_iff _ _).1 g2⟩
        · exact .inr ⟨g1, (isC_iff _ _).1 g2⟩
      · split at h <;> omega
  rw [if_neg h3] at h
  match hx : x.args, h with
  | [], h => simp at h; omega
  | [_], h => simp at h; omega
  | _ :: _ :: _ :: _, h => simp at h; omega
  | [a, b], h =>
    simp only [List.map_cons, List.map_nil, biT] at h
    split at h
    · rename_i g
      split at h
      · rename_i g2
        simp only [Bool.and_eq_true] at g2
        exact .inr (.inr (.inr ⟨h.symm, a, b, rfl, g.1, g.2, (isC_iff _ _).1 g2.1, (isC_iff _ _).1 g2.2.1, g2.2.2⟩))
      · omega
    · repeat (first | omega | split at h)
theorem colL_false : ∀ (l : List Ex), colL l = false → ∀ y ∈ l, colM y = false
  | [], _, _, hy => by cases hy
  | a :: l, h, y, hy => by
    simp only [colL, Bool.or_eq_false_iff] at h
    rcases List.mem_cons.1 hy with rfl | hy
    · exact h.1
    · exact colL_false l h.2 y hy
theorem colM_args {x : Ex} (h : colM x = false) : x.op ≠ 2 ∧ ∀ y ∈ x.args, colM y = false := by
  rw [colM_eq, Bool.or_eq_false_iff] at h
  exact ⟨by simpa using h.1, colL_false _ h.2⟩
theorem ev_nocol (R : List V3) (x : Ex) : colM x = false → evM R x = evM [] x := by
  refine Ex.ind (p := fun x => colM x = false → evM R x = evM [] x) (fun x ih h => ?_) x
  obtain ⟨h2, ha⟩ := colM_args h
  rw [evM_eq, evM_eq, if_neg h2, if_neg h2, evL_map, evL_map]
  rw [List.map_congr_left fun y hy => ih y hy (ha y hy)]
theorem ty_bok (L : List Va) (x : Ex) : (tyM L x = 0 ∨ tyM L x = 1) → BOk x := by
  refine Ex.ind (p := fun x => (tyM L x = 0 ∨ tyM L x = 1) → BOk x) (fun x ih h => ?_) x
  rcases ty_shape L x _ rfl (by omega) with ⟨h1, -, -⟩ | ⟨h2, -⟩ | ⟨-, a, ha, ⟨h3, g⟩ | ⟨h9, g⟩⟩ | ⟨-, a, b, hab, g4, g8, ga, gb, -⟩
  · exact .one x (.inl h1)
  · exact .one x (.inr (.inl h2))
  · exact .neg x a h3 ha (ih a (by rw [ha]; simp) g)
  · exact .one x (.inr (.inr h9))
  · exact .two x a b ⟨by omega, by omega, by omega, by omega⟩ hab (ih a (by rw [hab]; simp) ga) (ih b (by rw [hab]; simp) gb)
theorem ty_vok (L : List Va) (R : List V3) (x : Ex) : (tyM L x = 0 ∨ tyM L x = 1 ∨ tyM L x = 2) → (colM x = false ∨ R.length = L.length) → VOk R x := by
  refine Ex.ind (p := fun x => (tyM L x = 0 ∨ tyM L x = 1 ∨ tyM L x = 2) → (colM x = false ∨ R.length = L.length) → VOk R x) (fun x ih h hc => ?_) x
  have hca : ∀ y ∈ x.args, colM y = false ∨ R.length = L.length := fun y hy => hc.imp (fun h => (colM_args h).2 y hy) id
  rcases ty_shape L x _ rfl h with ⟨h1, -, -⟩ | ⟨h2, -, g0, g1⟩ | ⟨-, a, ha, g⟩ | ⟨-, a, b, hab, g4, g8, ga, gb, gf⟩
  · exact .lit x h1
  · refine .col x h2 g0 ?_
    rcases hc with hc | hc
    · exact absurd h2 (colM_args hc).1
    · rw [hc]; exact g1
  · refine .un x a (by omega) ha (ih a (by rw [ha]; simp) (by omega) (hca a (by rw [ha]; simp)))
  · refine .bin x a b ⟨g4, g8⟩ hab (ih a (by rw [hab]; simp) (by omega) (hca a (by rw [hab]; simp))) (ih b (by rw [hab]; simp) (by omega) (hca b (by rw [hab]; simp))) fun h7 _ => ?_
    unfold facM at gf
    rw [if_neg (by omega), if_neg (by omega)] at gf
    split at gf
    · cases gf
    · rename_i hb
      simp only [Bool.or_eq_true, not_or, Bool.not_eq_true] at hb
      rw [ev_nocol R b hb.1]
      simp only [Bool.and_eq_true, decide_eq_true_eq] at gf
      exact gf.2.1
end Go.Proofs.Ytfhbffgnpedaeaa
