/- Putting a box into the index. -/
import Derived.Test.YtgenpldldgplhaaBop
import Derived.Test.YtgenpldldgplhaaScl
namespace Go.Proofs.Ytgenpldldgplhaa
open Go.ChangeShapes Go.WideShapes Go.ChangeAt Go.RowKit Go.ChangeMaps

def insL (x : It) : List It → List It
  | [] => [x]
  | y :: L => if x.id < y.id then x :: y :: L else y :: insL x L
def putL (L : List It) (x : It) : List It := insL x (delL L x.id)
theorem ins_mem (x : It) : ∀ (L : List It) (y : It), y ∈ insL x L ↔ y = x ∨ y ∈ L
  | [], y => by simp [insL]
  | z :: L, y => by
    unfold insL
    split
    · simp
    · rw [List.mem_cons, ins_mem x L y, List.mem_cons]
      exact ⟨fun h => by rcases h with h | h | h; (· exact .inr (.inl h)); (· exact .inl h); exact .inr (.inr h), fun h => by rcases h with h | h | h; (· exact .inr (.inl h)); (· exact .inl h); exact .inr (.inr h)⟩
theorem ins_len (x : It) : ∀ L : List It, (insL x L).length = L.length + 1
  | [] => rfl
  | y :: L => by
    unfold insL
    split
    · simp
    · rw [List.length_cons, ins_len x L, List.length_cons]
theorem ins_cnt (x : It) (T : Int) : ∀ L : List It, cntT (insL x L) T = if x.t = T then cntT L T + 1 else cntT L T
  | [] => by
    unfold insL cntT
    by_cases h : x.t = T
    · rw [if_pos h, List.filter_cons, if_pos (by simp [h])]; rfl
    · rw [if_neg h, List.filter_cons, if_neg (by simp [h])]
  | y :: L => by
    have ih := ins_cnt x T L
    unfold insL
    split
    · unfold cntT
      by_cases h : x.t = T
      · rw [if_pos h, List.filter_cons, if_pos (by simp [h])]; rfl
      · rw [if_neg h, List.filter_cons, if_neg (by simp [h])]
    · unfold cntT at ih ⊢
      rw [List.filter_cons, List.filter_cons]
      split
      · rw [List.length_cons, List.length_cons, ih]; split <;> rfl
      · exact ih
theorem ins_fnd (x : It) (a : Int) : ∀ L : List It, (∀ y ∈ L, y.id ≠ x.id) → fnd (insL x L) a = if a = x.id then some x else fnd L a
  | [], _ => by
    unfold insL fnd
    rw [List.find?_cons]
    by_cases h : a = x.id
    · rw [if_pos h, show (x.id == a) = true by simp [h]]
    · rw [if_neg h, show (x.id == a) = false by simp; exact fun e => h e.symm]
  | y :: L, hn => by
    have ih := ins_fnd x a L (fun z hz => hn z (List.mem_cons_of_mem _ hz))
    have hy := hn y List.mem_cons_self
    unfold insL
    split
    · unfold fnd
      rw [List.find?_cons]
      by_cases h : a = x.id
      · rw [if_pos h, show (x.id == a) = true by simp [h]]
      · rw [if_neg h, show (x.id == a) = false by simp; exact fun e => h e.symm]
    · unfold fnd at ih ⊢
      rw [List.find?_cons, List.find?_cons]
      by_cases h2 : y.id = a
      · rw [show (y.id == a) = true by simp [h2], if_neg (fun e => hy (h2.trans e))]
      · rw [show (y.id == a) = false by simp [h2]]
        exact ih
theorem ins_asc (x : It) : ∀ L : List It, Asc L → (∀ y ∈ L, y.id ≠ x.id) → Asc (insL x L)
  | [], _, _ => List.pairwise_singleton _ _
  | y :: L, h, hn => by
    have h' := h
    unfold Asc at h'
    rw [List.pairwise_cons] at h'
    unfold insL
    split
    · rename_i hlt
      refine List.pairwise_cons.2 ⟨fun z hz => ?_, h⟩
      rcases List.mem_cons.1 hz with rfl | hz
      · exact hlt
      · have := h'.1 z hz; omega
    · rename_i hlt
      refine List.pairwise_cons.2 ⟨fun z hz => ?_, ins_asc x L h'.2 (fun z hz => hn z (List.mem_cons_of_mem _ hz))⟩
      rcases (ins_mem x L z).1 hz with rfl | hz
      · have := hn y List.mem_cons_self
        omega
      · exact h'.1 z hz
theorem del_ne {L : List It} {a : Int} : ∀ y ∈ delL L a, y.id ≠ a := fun y hy => by
  have := (List.mem_filter.1 hy).2
  simpa using this
theorem spec_none {L : List It} {T : Int} (h : hasT L T = false) : spec L T = fun _ => none := by
  funext a
  unfold spec
  cases hf : fnd L a with
  | none => rfl
  | some it =>
    have h1 : it.t ≠ T := fun e => by
      have h2 := List.any_eq_false.1 h it (fnd_mem hf).1
      simp [e] at h2
    simp [h1]
theorem KC.set {w W : World} (h : KC w W) {g i : Nat} (hg : w.heap.size ≤ g) (u : Value) : KC w (W.setCell ⟨g, i, none⟩ u) :=
  ⟨h.os, h.tape, h.output, by simpa [World.setCell] using h.size, fun k cs t z e => by
    have hk : k < w.heap.size := (Array.getElem?_eq_some_iff.1 e).1
    rw [Below.heap_setCell W _ u k (show k ≠ g by omega)]
    exact h.block k cs t z e⟩
theorem IX.put {w W : World} {B x M : Nat} {D : List It} {it : It} (hasc : Asc D) (hok : ∀ y ∈ D, w64 y.id ∧ w64 y.t) (hsd : ∀ y ∈ D, Sds W y.A y.n y.R ∧ y.n ≤ y.c ∧ y.n ≤ 1000) (hM : M + 1 < 1000000) (hnew : ∀ y ∈ D, y.id ≠ it.id)
    (h1 : w64 it.id) (h2 : w64 it.t) (h3 : Sds W it.A it.n it.R ∧ it.n ≤ it.c ∧ it.n ≤ 1000)
    {bt bi : Nat} {g : Int → Nat} (hblk : Blk W x 63 #[.map (some bt), .map (some bi)]) (hB1 : B ≤ x) (hB2 : B ≤ bt) (hB3 : B ≤ bi) (hne : bt ≠ bi)
    (hbi : MB W 2 .i64 bi (M + 1) (D.length + 1) (fup (fun a => (fnd D a).map (fun it => .int .i64 it.t)) it.id (.int .i64 it.t)))
    (hbt : ∃ st, MB W 3 .i64 bt (M + 1) st (fup (fun T => if hasT D T = true then some (.map (some (g T))) else none) it.t (.map (some (g it.t)))))
    (hg1 : MB W 2 .i64 (g it.t) (M + 1) (cntT D it.t + 1) (fup (spec D it.t) it.id it.val)) (hg2 : ∀ T, hasT D T = true → T ≠ it.t → MB W 2 .i64 (g T) M (cntT D T) (spec D T))
    (hgg : ∀ T, hasT D T = true ∨ T = it.t → B ≤ g T ∧ g T ≠ bt ∧ g T ≠ bi ∧ ∀ T', hasT D T' = true ∨ T' = it.t → g T' = g T → T' = T) : IX W B x (M + 1) (insL it D) := by
  have hh : ∀ T, hasT (insL it D) T = true ↔ hasT D T = true ∨ T = it.t := fun T => by
    rw [hasT_cnt, hasT_cnt, ins_cnt, decide_eq_true_eq, decide_eq_true_eq]
    by_cases e : it.t = T
    · rw [if_pos e]; exact ⟨fun _ => .inr e.symm, fun _ => by omega⟩
    · rw [if_neg e]; exact ⟨fun h => .inl h, fun h => h.resolve_right (fun h => e h.symm)⟩
  obtain ⟨st, hbt⟩ := hbt
  refine ⟨⟨bt, bi, g, hblk, hB1, hB2, hB3, hne, hbi.ext (ins_len it D) (fun a _ => ?_), ⟨st, hbt.ext rfl (fun a _ => ?_)⟩, fun T hT => ?_⟩, ins_asc it D hasc hnew, fun y hy => ?_, fun y hy => ?_, hM⟩
  · rw [ins_fnd it a D hnew]
    unfold fup
    split <;> rfl
  · show (if hasT (insL it D) a = true then some (Value.map (some (g a))) else none) = fup _ it.t _ a
    unfold fup
    by_cases e : a = it.t
    · subst e
      rw [if_pos rfl, if_pos ((hh it.t).2 (.inr rfl))]
    · rw [if_neg e]
      show _ = if hasT D a = true then some (Value.map (some (g a))) else none
      by_cases h : hasT D a = true
      · rw [if_pos h, if_pos ((hh a).2 (.inl h))]
      · rw [if_neg h, if_neg (fun h4 => ((hh a).1 h4).elim h e)]
  · obtain ⟨q1, q2, q3, q4⟩ := hgg T ((hh T).1 hT)
    refine ⟨?_, q1, q2, q3, fun T' hT' e => q4 T' ((hh T').1 hT') e⟩
    by_cases e : T = it.t
    · subst e
      refine hg1.ext (by rw [ins_cnt, if_pos rfl]) (fun a _ => ?_)
      rw [ins_fnd it a D hnew]
      unfold fup spec
      by_cases e : a = it.id
      · rw [if_pos e, if_pos e]; simp
      · rw [if_neg e, if_neg e]
        cases fnd D a <;> rfl
    · refine ((hg2 T (((hh T).1 hT).resolve_right e) e).mono (Nat.le_succ M)).ext (by rw [ins_cnt, if_neg (fun h => e h.symm)]) (fun a _ => ?_)
      rw [ins_fnd it a D hnew]
      unfold spec
      by_cases e2 : a = it.id
      · rw [if_pos e2]
        have h5 : fnd D a = none := by
          cases h6 : fnd D a with
          | none => rfl
          | some y => exact absurd ((fnd_mem h6).2.trans e2) (hnew y (fnd_mem h6).1)
        rw [h5]
        simp only [if_true]
        exact if_neg (fun h => e (Eq.symm h))
      · rw [if_neg e2]
        cases fnd D a <;> rfl
  · rcases (ins_mem it D y).1 hy with rfl | hy
    · exact h3
    · exact hsd y hy
  · rcases (ins_mem it D y).1 hy with rfl | hy
    · exact ⟨h1, h2⟩
    · exact hok y hy
end Go.Proofs.Ytgenpldldgplhaa
