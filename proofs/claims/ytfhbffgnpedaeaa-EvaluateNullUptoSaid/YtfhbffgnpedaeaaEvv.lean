/- The value of an expression. -/
import Derived.Test.YtfhbffgnpedaeaaEcl
namespace Go.Proofs.Ytfhbffgnpedaeaa
open Go.ChangeShapes Go.WideShapes Go.ChangeAt Go.RowKit Go.ChangeMaps

def nullB (v : V3) : Bool := decide (v.k = 0)
def combM (op : Int) (l : List V3) : V3 := if l.any nullB = true then nul else match l with
  | [x] => unM op x
  | [x, y] => binM op x.n y.n
  | _ => nul
mutual
def evM (r : List V3) : Ex → V3
  | .mk op _ _ ix v _ _ args => if op = 1 then v else if op = 2 then (if ix < 0 then nul else r.getD ix.toNat nul) else combM op (evL r args)
def evL (r : List V3) : List Ex → List V3
  | [] => []
  | a :: l => evM r a :: evL r l
end
theorem evM_eq (r : List V3) (x : Ex) : evM r x = if x.op = 1 then x.v else if x.op = 2 then (if x.ix < 0 then nul else r.getD x.ix.toNat nul) else combM x.op (evL r x.args) := by cases x; rw [evM]; rfl
theorem evL_map (r : List V3) : ∀ l, evL r l = l.map (evM r)
  | [] => by simp [evL]
  | a :: l => by simp [evL, evL_map r l]
inductive ExSm : Ex → Prop
  | mk (x : Ex) : x.args.length ≤ 1000 → (∀ y ∈ x.args, ExSm y) → ExSm x
theorem ExSm.len {x : Ex} (h : ExSm x) : x.args.length ≤ 1000 := by cases h with | mk _ h _ => exact h
theorem ExSm.arg {x : Ex} (h : ExSm x) : ∀ y ∈ x.args, ExSm y := by cases h with | mk _ _ h => exact h
theorem nul_ok : nul.ok := by refine ⟨by decide, by decide, by decide, by decide, by decide⟩
theorem iV_ok {n : Int} (h : -9223372036854775808 ≤ n ∧ n ≤ 9223372036854775807) : (iV n).ok := by
  unfold V3.ok iV
  exact ⟨show (-9223372036854775808 : Int) ≤ 1 by decide, show (1 : Int) ≤ 9223372036854775807 by decide, h.1, h.2, Nat.zero_le _⟩
theorem wrap64_bd (n : Int) : -9223372036854775808 ≤ wrap64 n ∧ wrap64 n ≤ 9223372036854775807 := by unfold wrap64; omega
theorem unM_ok (op : Int) (v : V3) (h : v.ok) : (unM op v).ok := by
  unfold unM
  split
  · exact iV_ok (wrap64_bd _)
  · split
    · exact iV_ok ⟨by have := h.2.2.2.2; omega, by have := h.2.2.2.2; omega⟩
    · exact nul_ok
theorem tdiv_bd (a b : Int) (hb : 1 ≤ b) (ha : -9223372036854775808 ≤ a ∧ a ≤ 9223372036854775807) : -9223372036854775808 ≤ Int.tdiv a b ∧ Int.tdiv a b ≤ 9223372036854775807 := by
  rcases Int.le_total 0 a with h | h
  · have h1 := Int.tdiv_nonneg h (by omega : 0 ≤ b)
    have h2 : Int.tdiv a b ≤ a := Int.tdiv_le_self _ h
    omega
  · have e : Int.tdiv a b = - Int.tdiv (-a) b := by rw [Int.neg_tdiv]; omega
    have h1 := Int.tdiv_nonneg (by omega : 0 ≤ -a) (by omega : 0 ≤ b)
    have h2 : Int.tdiv (-a) b ≤ -a := Int.tdiv_le_self _ (by omega)
    omega
theorem qM_bd (a b : Int) (hb : 1 ≤ b) (ha : -9223372036854775808 ≤ a ∧ a ≤ 9223372036854775807) : -9223372036854775808 ≤ qM a b ∧ qM a b ≤ 9223372036854775807 := by
  unfold qM
  split
  · exact wrap64_bd _
  · exact tdiv_bd a b hb ha
theorem binM_ok (op a b : Int) (ha : -9223372036854775808 ≤ a ∧ a ≤ 9223372036854775807) : (binM op a b).ok := by
  unfold binM
  split
  · exact iV_ok (wrap64_bd _)
  · split
    · exact iV_ok (wrap64_bd _)
    · split
      · exact iV_ok (wrap64_bd _)
      · split
        · exact nul_ok
        · split
          · exact iV_ok (qM_bd a b (by omega) ha)
          · split
            · exact iV_ok (wrap64_bd _)
            · exact nul_ok
theorem combM_ok (op : Int) (l : List V3) (h : ∀ v ∈ l, v.ok) : (combM op l).ok := by
  unfold combM
  split
  · exact nul_ok
  · split
    · exact unM_ok op _ (h _ (by simp))
    · exact binM_ok op _ _ ⟨(h _ (List.mem_cons_self ..)).2.2.1, (h _ (List.mem_cons_self ..)).2.2.2.1⟩
    · exact nul_ok
theorem evM_ok {w : World} (r : List V3) (hr : ∀ v ∈ r, v.ok) (x : Ex) : ExAt w x → (evM r x).ok := by
  refine Ex.ind (p := fun x => ExAt w x → (evM r x).ok) (fun x ih h => ?_) x
  rw [evM_eq]
  split
  · exact h.val
  · split
    · split
      · exact nul_ok
      · rcases Nat.lt_or_ge x.ix.toNat r.length with h1 | h1
        · rw [List.getD_eq_getElem?_getD, List.getElem?_eq_getElem h1]; exact hr _ (List.getElem_mem h1)
        · rw [List.getD_eq_getElem?_getD, List.getElem?_eq_none h1]; exact nul_ok
    · refine combM_ok _ _ fun v hv => ?_
      rw [evL_map] at hv
      obtain ⟨y, hy, rfl⟩ := List.mem_map.1 hv
      exact ih y hy (h.arg y hy)
end Go.Proofs.Ytfhbffgnpedaeaa
