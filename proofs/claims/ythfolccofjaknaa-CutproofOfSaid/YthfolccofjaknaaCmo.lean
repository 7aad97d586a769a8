/- What a proof does with numbers: steps, splits, sizes. -/
import Derived.Test.YthfolccofjaknaaMA
namespace Go.Proofs.Ythfolccofjaknaa
open Go.ChangeShapes Go.WideShapes Go.ChangeAt Go.RowKit Go.ChangeMaps

abbrev QI := List Int × Int
def addQ (s q : QI) (k : Int) : QI := (List.zipWith (fun a b => a + k * b) s.1 q.1, s.2 + k * q.2)
/-- The sum of multiples, or none. -/
def sumM (l : List QI) : List (Int × Int) → QI → Option QI
  | [], s => some s
  | u :: U, s => if u.1 < 0 ∨ u.1 ≥ l.length ∨ u.2 < 0 then none else sumM l U (addQ s (l.getD u.1.toNat ([], 0)) u.2)
def widthM (l : List QI) : Nat := match l with | [] => 0 | q :: _ => q.1.length
def divM (s : QI) (d : Int) : Option QI := if s.1.all (fun z => decide (z % d = 0)) then some (s.1.map (· / d), s.2 / d) else none
def applyM (l : List QI) (U : List (Int × Int)) (d : Int) : Option QI := if d ≤ 0 then none else match sumM l U (List.replicate (widthM l) 0, 0) with | none => none | some s => divM s d
def badM (q : QI) : Bool := q.1.all (fun z => decide (z = 0)) && decide (q.2 < 0)
inductive PT
  | mk (S : List (List (Int × Int) × Int)) (F : List Int) (b : Int) (K : List PT)
def stepsM : List (List (Int × Int) × Int) → List QI → Option (List QI)
  | [], l => some l
  | s :: S, l => match applyM l s.1 s.2 with | none => none | some q => stepsM S (l ++ [q])
def chk : PT → List QI → Bool
  | .mk S F b K, l => match stepsM S l with
    | none => false
    | some l' => match K with
      | [] => l'.any badM
      | [k0, k1] => if l' ≠ [] ∧ F.length ≠ widthM l' then false else chk k0 (l' ++ [(F, b)]) && chk k1 (l' ++ [(F.map (fun z => -z), -1 - b)])
      | _ => false
def sysM (l : List QI) : Bool := l.all fun q => decide (q.1.length = widthM l)
def sizeP : PT → Nat
  | .mk S _ _ K => S.length + (if K.length > 0 then 1 else 0) + (K.attach.map fun k => sizeP k.1).sum
decreasing_by
  have := List.sizeOf_lt_of_mem k.2
  simp only [PT.mk.sizeOf_spec]
  omega
theorem sizeP_eq (S : List (List (Int × Int) × Int)) (F : List Int) (b : Int) (K : List PT) : sizeP (.mk S F b K) = S.length + (if K.length > 0 then 1 else 0) + (K.map sizeP).sum := by
  rw [sizeP]
  congr 1
  rw [List.map_attach_eq_pmap]
  simp
def two1 : List QI := [([1], 2), ([-1], -5)]
def two2 : List QI := [([2], 5), ([-2], -5)]
def two3 : List QI := [([3], 4), ([-3], -4)]
def sum2 (a b : Int × Int) : PT := .mk [([a, b], 1)] [] 0 []
def pP : PT := .mk [([(0, 1)], 2), ([(1, 1)], 2), ([(2, 1), (3, 1)], 1)] [] 0 []
def pQ : PT := .mk [] [1] 1 [sum2 (2, 3) (1, 1), sum2 (2, 3) (0, 1)]
theorem chk1 : chk (sum2 (0, 1) (1, 1)) two1 = true := by unfold sum2 chk; decide
theorem chk2 : chk (sum2 (0, 1) (1, 1)) two2 = false := by unfold sum2 chk; decide
theorem chk3 : chk pP two2 = true := by unfold pP chk; decide
theorem chk4 : chk pQ two3 = true := by unfold pQ chk sum2 chk; decide
theorem chk5 : chk pQ two2 = false := by unfold pQ chk sum2 chk; decide
theorem sz1 : sizeP pP = 3 := by unfold pP; rw [sizeP_eq]; decide
theorem sz2 : sizeP pQ = 3 := by unfold pQ sum2; rw [sizeP_eq]; simp [sizeP_eq]
end Go.Proofs.Ythfolccofjaknaa
