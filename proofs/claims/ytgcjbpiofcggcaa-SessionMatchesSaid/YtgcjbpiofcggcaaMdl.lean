/- The transactions of a script, in plain lists. -/
import Derived.Test.YtgcjbpiofcggcaaSlc
namespace Go.Proofs.Ytgcjbpiofcggcaa
open Go.ChangeShapes Go.WideShapes Go.ChangeAt Go.RowKit Go.ChangeMaps

def isE (k : Int) : Bool := k == 7 || k == 8
/-- The first end from i on, or the last statement. -/
def scanF (K : List Int) : Nat → Nat → Nat
  | 0, _ => K.length - 1
  | f + 1, i => if isE (K.getD i 0) then i else scanF K f (i + 1)
theorem scanF_bd (K : List Int) : ∀ f i, i + f = K.length → 0 < f → i ≤ scanF K f i ∧ scanF K f i < K.length
  | 0, i, _, h => absurd h (by omega)
  | f + 1, i, h, _ => by
    unfold scanF
    split
    · omega
    · rcases Nat.eq_zero_or_pos f with h0 | h0
      · subst h0; unfold scanF; omega
      · have := scanF_bd K f (i + 1) (by omega) h0
        omega
theorem scanF_no (K : List Int) : ∀ f i, i + f = K.length → ∀ j, i ≤ j → j < scanF K f i → isE (K.getD j 0) = false
  | 0, i, h, j, hi, hj => by unfold scanF at hj; omega
  | f + 1, i, h, j, hi, hj => by
    unfold scanF at hj
    split at hj
    · omega
    · rename_i hn
      rcases Nat.eq_or_lt_of_le hi with e | e
      · subst e; simpa using hn
      · exact scanF_no K f (i + 1) (by omega) j e hj
def endM (K : List Int) (f : Nat) : Nat := if K.getD f 0 = 6 then scanF K (K.length - f) f else f
theorem endM_bd (K : List Int) (f : Nat) (h : f < K.length) : f ≤ endM K f ∧ endM K f < K.length := by
  unfold endM
  split
  · exact scanF_bd K _ f (by omega) (by omega)
  · omega
theorem endM_begin (K : List Int) (f : Nat) (h : f < endM K f) : K.getD f 0 = 6 := by
  unfold endM at h
  split at h
  · assumption
  · omega
theorem endM_no (K : List Int) (f : Nat) (h : f < K.length) (j : Nat) (hj : f ≤ j) (hl : j < endM K f) : isE (K.getD j 0) = false := by
  unfold endM at hl
  split at hl
  · exact scanF_no K _ f (by omega) j hj hl
  · omega
def splitF (K : List Int) : Nat → Nat → List (Nat × Nat)
  | 0, _ => []
  | f + 1, i => if i < K.length then (i, endM K i) :: splitF K f (endM K i + 1) else []
def splitM (K : List Int) : List (Nat × Nat) := splitF K K.length 0
theorem splitF_step (K : List Int) (f i : Nat) (h : i < K.length) (hf : K.length - i ≤ f) : ∃ g, K.length - (endM K i + 1) ≤ g ∧ splitF K f i = (i, endM K i) :: splitF K g (endM K i + 1) := by
  obtain ⟨g, rfl⟩ : ∃ g, f = g + 1 := ⟨f - 1, by omega⟩
  have := (endM_bd K i h).1
  exact ⟨g, by omega, by rw [splitF, if_pos h]⟩
theorem splitF_done (K : List Int) (f i : Nat) (h : K.length ≤ i) : splitF K f i = [] := by
  cases f with
  | zero => rfl
  | succ f => rw [splitF, if_neg (by omega)]
/-- The first statement of a transaction; behind the last one the length. -/
def fst_ (n : Nat) (L : List (Nat × Nat)) (i : Nat) : Nat := (L.getD i (n, 0)).1
theorem splitF_chain (K : List Int) : ∀ f i, K.length - i ≤ f → i ≤ K.length → fst_ K.length (splitF K f i) 0 = i ∧
    ∀ j, j < (splitF K f i).length → (splitF K f i).getD j (K.length, 0) = (fst_ K.length (splitF K f i) j, endM K (fst_ K.length (splitF K f i) j)) ∧ fst_ K.length (splitF K f i) j < K.length ∧ fst_ K.length (splitF K f i) (j + 1) = endM K (fst_ K.length (splitF K f i) j) + 1
  | 0, i, h, hi => ⟨by unfold splitF fst_; simp; omega, fun j hj => by unfold splitF at hj; simp at hj⟩
  | f + 1, i, h, hi => by
    by_cases hl : i < K.length
    · have hb := endM_bd K i hl
      obtain ⟨h1, h2⟩ := splitF_chain K f (endM K i + 1) (by omega) (by omega)
      have e : splitF K (f + 1) i = (i, endM K i) :: splitF K f (endM K i + 1) := by rw [splitF, if_pos hl]
      rw [e]
      refine ⟨rfl, fun j hj => ?_⟩
      cases j with
      | zero => exact ⟨rfl, hl, h1⟩
      | succ j => exact h2 j (by simpa using hj)
    · have e : splitF K (f + 1) i = [] := splitF_done K _ i (by omega)
      rw [e]
      exact ⟨by unfold fst_; simp; omega, fun j hj => by simp at hj⟩
theorem splitM_chain (K : List Int) : fst_ K.length (splitM K) 0 = 0 ∧ ∀ j, j < (splitM K).length → (splitM K).getD j (K.length, 0) = (fst_ K.length (splitM K) j, endM K (fst_ K.length (splitM K) j)) ∧ fst_ K.length (splitM K) j < K.length ∧ fst_ K.length (splitM K) (j + 1) = endM K (fst_ K.length (splitM K) j) + 1 :=
  splitF_chain K K.length 0 (by omega) (by omega)
theorem fst_end (n : Nat) (L : List (Nat × Nat)) : fst_ n L L.length = n := by unfold fst_; simp
theorem splitF_len (K : List Int) : ∀ f i, (splitF K f i).length ≤ f
  | 0, i => by simp [splitF]
  | f + 1, i => by
    unfold splitF
    split
    · have := splitF_len K f (endM K i + 1)
      simp only [List.length_cons]; omega
    · simp
theorem splitM_len (K : List Int) : (splitM K).length ≤ K.length := splitF_len K _ _
/-- A transaction as cells. -/
def pv (p : Nat × Nat) : List Value := [.int .i64 (p.1 : Int), .int .i64 (p.2 : Int)]
def pC (L : List (Nat × Nat)) : List Value := L.flatMap pv
theorem pC_len (L : List (Nat × Nat)) : (pC L).length = L.length * 2 := flat_len pv 2 (fun _ => rfl) L
theorem pC_snoc (L : List (Nat × Nat)) (a : Nat × Nat) : pC (L ++ [a]) = pC L ++ pv a := by unfold pC; rw [List.flatMap_append]; simp
theorem pC_get0 (L : List (Nat × Nat)) (i : Nat) (h : i < L.length) : (pC L)[i * 2]? = some (.int .i64 (L[i].1 : Int)) := flat_get pv 2 (fun _ => rfl) L i 0 h (by omega)
theorem pC_get1 (L : List (Nat × Nat)) (i : Nat) (h : i < L.length) : (pC L)[i * 2 + 1]? = some (.int .i64 (L[i].2 : Int)) := flat_get pv 2 (fun _ => rfl) L i 1 h (by omega)
theorem pC_one (L : List (Nat × Nat)) : ∀ u ∈ pC L, u.oneCell' = true := by
  intro u hu
  obtain ⟨p, _, hp⟩ := List.mem_flatMap.1 hu
  simp only [pv, List.mem_cons, List.not_mem_nil, or_false] at hp
  rcases hp with rfl | rfl <;> rfl
/-- A statement as cells. -/
def stv (k : Int) (i : Nat) : List Value := [.int .i64 k, .string ⟨#[]⟩, .slice none 0 0, .slice none 0 0, .slice none 0 0, .slice none 0 0, .slice none 0 0, .slice none 0 0, .slice none 0 0, .slice none 0 0,
  .int .i64 0, .string ⟨#[]⟩, .string ⟨#[]⟩, .int .i64 0, .int .i64 0, .int .i64 0, .string ⟨#[]⟩, .slice none 0 0, .slice none 0 0, .slice none 0 0, .int .i64 (i : Int), .string ⟨#[]⟩]
def stC (K : List Int) (k : Nat) : List Value := (List.range k).flatMap fun i => stv (K.getD i 0) i
theorem stC_len (K : List Int) (k : Nat) : (stC K k).length = k * 22 := by
  have := flat_len (fun i => stv (K.getD i 0) i) 22 (fun _ => rfl) (List.range k)
  rwa [List.length_range] at this
theorem stC_snoc (K : List Int) (k : Nat) : stC K (k + 1) = stC K k ++ stv (K.getD k 0) k := by unfold stC; rw [List.range_succ, List.flatMap_append]; simp
theorem stC_get (K : List Int) (k i j : Nat) (h : i < k) (hj : j < 22) : (stC K k)[i * 22 + j]? = (stv (K.getD i 0) i)[j]? := by
  have := flat_get (fun i => stv (K.getD i 0) i) 22 (fun _ => rfl) (List.range k) i j (by simpa using h) hj
  rw [List.getElem_range] at this
  exact this
theorem stC_one (K : List Int) (k : Nat) : ∀ u ∈ stC K k, u.oneCell' = true := by
  intro u hu
  obtain ⟨p, _, hp⟩ := List.mem_flatMap.1 hu
  simp only [stv, List.mem_cons, List.not_mem_nil, or_false] at hp
  rcases hp with rfl | rfl | rfl | rfl | rfl | rfl | rfl | rfl | rfl | rfl | rfl | rfl | rfl | rfl | rfl | rfl | rfl | rfl | rfl | rfl | rfl | rfl <;> rfl
end Go.Proofs.Ytgcjbpiofcggcaa
