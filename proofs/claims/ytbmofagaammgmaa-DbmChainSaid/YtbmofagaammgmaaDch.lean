/- A chain of bounds, and a chain closed. -/
import Derived.Test.YtbmofagaammgmaaDse
namespace Go.Proofs.Ytbmofagaammgmaa
open Go.ChangeShapes Go.WideShapes Go.ChangeAt Go.RowKit Go.ChangeMaps

def st0 : St := ⟨[], fun _ => none, 0⟩
def chS (L : List Int) : Nat → St
  | 0 => st0
  | k + 1 => addS (chS L k) (k : Int) ((k + 1 : Nat) : Int) (L.getD k 0)
theorem chS_f (L : List Int) : ∀ (k i j : Nat), (chS L k).f ((i : Int), (j : Int)) = if j = i + 1 ∧ i < k then some (L.getD i 0, (i : Int)) else none
  | 0, i, j => by rw [if_neg (by omega)]; rfl
  | k + 1, i, j => by
    have hn : (chS L k).f ((k : Int), ((k + 1 : Nat) : Int)) = none := by rw [chS_f L k]; rw [if_neg (by omega)]
    have ha : ∀ k, (chS L k).a = k := fun k => by
      induction k with
      | zero => rfl
      | succ k ih => show (chS L k).a + 1 = k + 1; rw [ih]
    show (addS (chS L k) (k : Int) ((k + 1 : Nat) : Int) (L.getD k 0)).f ((i : Int), (j : Int)) = _
    unfold addS
    rw [hn]
    show (if ((i : Int), (j : Int)) = ((k : Int), ((k + 1 : Nat) : Int)) then some (L.getD k 0, ((chS L k).a : Int)) else (chS L k).f ((i : Int), (j : Int))) = _
    rw [ha, chS_f L k i j]
    by_cases e : i = k ∧ j = k + 1
    · obtain ⟨rfl, rfl⟩ := e
      rw [if_pos rfl, if_pos (by omega)]
    · rw [if_neg (fun h => e (by injection h with h1 h2; omega))]
      by_cases e2 : j = i + 1 ∧ i < k
      · rw [if_pos e2, if_pos (by omega)]
      · rw [if_neg e2, if_neg (by omega)]
theorem chS_P (L : List Int) : ∀ k, (chS L k).P = (List.range k).map fun (i : Nat) => ((i : Int), ((i + 1 : Nat) : Int))
  | 0 => rfl
  | k + 1 => by
    have hn : (chS L k).f ((k : Int), ((k + 1 : Nat) : Int)) = none := by rw [chS_f L k]; rw [if_neg (by omega)]
    show (addS (chS L k) (k : Int) ((k + 1 : Nat) : Int) (L.getD k 0)).P = _
    unfold addS
    rw [hn]
    show (chS L k).P ++ [((k : Int), ((k + 1 : Nat) : Int))] = _
    rw [chS_P L k, List.range_succ, List.map_append]
    rfl
theorem chS_a (L : List Int) : ∀ k, (chS L k).a = k
  | 0 => rfl
  | k + 1 => by show (chS L k).a + 1 = k + 1; rw [chS_a L k]
theorem chS_prs (L : List Int) (k : Nat) : (chS L k).prs = (List.range k).map fun (i : Nat) => (i, i + 1) := by
  unfold St.prs
  rw [chS_P, List.map_map]
  rfl
theorem chS_c (L : List Int) {k i : Nat} (h : i < k) : (chS L k).c (i, i + 1) = L.getD i 0 := by
  unfold St.c
  rw [chS_f, if_pos ⟨rfl, h⟩]
  rfl
def sf (L : List Int) (i : Nat) : Int := (L.drop i).sum
theorem sf_step {L : List Int} {i : Nat} (h : i < L.length) : sf L i = L.getD i 0 + sf L (i + 1) := by
  unfold sf
  rw [List.drop_eq_getElem_cons h, List.sum_cons]
  simp [List.getD, List.getElem?_eq_getElem h]
theorem sf_end (L : List Int) : sf L L.length = 0 := by unfold sf; rw [List.drop_length]; rfl
theorem chS_mem {L : List Int} {k : Nat} {p : Nat × Nat} (h : p ∈ (chS L k).prs) : p.1 < k ∧ p.2 = p.1 + 1 := by
  rw [chS_prs] at h
  obtain ⟨i, hi, rfl⟩ := List.mem_map.1 h
  exact ⟨List.mem_range.1 hi, rfl⟩
theorem ch_hP (L : List Int) : ∀ p ∈ (chS L L.length).prs, p.1 < L.length + 1 ∧ p.2 < L.length + 1 := fun p hp => by
  have := chS_mem hp
  omega
theorem ch_sat (L : List Int) : Sat (chS L L.length) L.length := by
  refine sat_of (ch_hP L) (sf L) (fun p hp => ?_)
  obtain ⟨h1, h2⟩ := chS_mem hp
  obtain ⟨a, b⟩ := p
  dsimp only at h1 h2
  subst h2
  rw [chS_c L h1, sf_step h1]
  dsimp only
  omega
theorem ch_bnd (L : List Int) : bndM (chS L L.length) L.length 0 (L.length : Int) = some L.sum := by
  have hF : IsB (chS L L.length).c (chS L L.length).prs L.length (fun v => if v ≤ L.length then some (sf L v) else none) := by
    have hw : ∀ k i, i + k = L.length → Walk (EE (chS L L.length).c (chS L L.length).prs) L.length i (sf L i) := by
      intro k
      induction k with
      | zero => intro i hi; obtain rfl : i = L.length := by omega
                rw [sf_end]; exact .nil
      | succ k ih =>
        intro i hi
        rw [sf_step (show i < L.length by omega), Int.add_comm]
        refine .cons (u := i + 1) ⟨?_, ?_⟩ (ih (i + 1) (by omega))
        · rw [chS_prs]; exact List.mem_map.2 ⟨i, List.mem_range.2 (by omega), rfl⟩
        · rw [chS_c L (show i < L.length by omega)]
    refine ⟨⟨⟨0, by rw [if_pos (Nat.le_refl _), sf_end], Int.le_refl _⟩, fun i u c hk b hb => ?_⟩, fun i a ha => ?_⟩
    · obtain ⟨h1, h2⟩ := hk
      obtain ⟨q1, q2⟩ := chS_mem h1
      dsimp only at q1 q2
      subst q2
      rw [chS_c L q1] at h2
      rw [if_pos (by omega)] at hb
      injection hb with hb
      refine ⟨_, if_pos (by omega), ?_⟩
      rw [sf_step q1]
      omega
    · dsimp only at ha
      split at ha
      · rename_i h
        injection ha with ha
        rw [← ha]
        exact hw (L.length - i) i (by omega)
      · cases ha
  have := bndM_eq (i := 0) (j := L.length) (Nat.zero_le _) (Nat.le_refl _) (ch_sat L) hF
  refine this.trans ?_
  rw [if_pos (Nat.zero_le _)]
  rfl
def chC (L : List Int) : St := addS (chS L L.length) (L.length : Int) 0 (-L.sum - 1)
theorem chC_f (L : List Int) (i j : Nat) : (chC L).f ((i : Int), (j : Int)) = if i = L.length ∧ j = 0 then some (-L.sum - 1, (L.length : Int)) else (chS L L.length).f ((i : Int), (j : Int)) := by
  have hn : (chS L L.length).f ((L.length : Int), (0 : Int)) = none := (chS_f L L.length L.length 0).trans (if_neg (by omega))
  unfold chC addS
  rw [hn]
  show (if ((i : Int), (j : Int)) = ((L.length : Int), (0 : Int)) then some (-L.sum - 1, ((chS L L.length).a : Int)) else (chS L L.length).f ((i : Int), (j : Int))) = _
  rw [chS_a]
  by_cases e : i = L.length ∧ j = 0
  · obtain ⟨rfl, rfl⟩ := e
    exact (if_pos rfl).trans (if_pos ⟨rfl, rfl⟩).symm
  · rw [if_neg e, if_neg (fun h => e (by injection h with h1 h2; omega))]
theorem chC_prs (L : List Int) : (chC L).prs = (chS L L.length).prs ++ [(L.length, 0)] := by
  have hn : (chS L L.length).f ((L.length : Int), (0 : Int)) = none := (chS_f L L.length L.length 0).trans (if_neg (by omega))
  have hp : (chC L).P = (chS L L.length).P ++ [((L.length : Int), (0 : Int))] := by unfold chC addS; rw [hn]; rfl
  unfold St.prs
  rw [hp, List.map_append]
  simp
theorem chC_mem {L : List Int} {p : Nat × Nat} (h : p ∈ (chC L).prs) : (p.1 < L.length ∧ p.2 = p.1 + 1) ∨ (p.1 = L.length ∧ p.2 = 0) := by
  rw [chC_prs] at h
  rcases List.mem_append.1 h with h | h
  · exact .inl (chS_mem h)
  · rw [List.mem_singleton.1 h]; exact .inr ⟨rfl, rfl⟩
theorem chC_uns {L : List Int} (h1 : 1 ≤ L.length) : Uns (chC L) L.length := by
  rcases sat_or (chC L) L.length with h | h
  · exfalso
    have hP : ∀ p ∈ (chC L).prs, p.1 < L.length + 1 ∧ p.2 < L.length + 1 := fun p hp => by rcases chC_mem hp with h | h <;> omega
    obtain ⟨Y, hY⟩ := sat_Y hP h
    have e1 : ∀ i, i < L.length → Y i ≤ Y (i + 1) + L.getD i 0 := fun i hi => by
      have := hY (i, i + 1) (by rw [chC_prs, chS_prs]; exact List.mem_append_left _ (List.mem_map.2 ⟨i, List.mem_range.2 hi, rfl⟩))
      have hc : (chC L).c (i, i + 1) = L.getD i 0 := by
        unfold St.c
        rw [chC_f, if_neg (by omega), chS_f, if_pos ⟨rfl, hi⟩]
        rfl
      rw [hc] at this
      exact this
    have e2 : Y L.length ≤ Y 0 + (-L.sum - 1) := by
      have := hY (L.length, 0) (by rw [chC_prs]; simp)
      have hc : (chC L).c (L.length, 0) = -L.sum - 1 := by
        unfold St.c
        rw [chC_f, if_pos ⟨rfl, rfl⟩]
        rfl
      rw [hc] at this
      exact this
    have e3 : ∀ k i, i + k = L.length → Y i ≤ Y L.length + sf L i := by
      intro k
      induction k with
      | zero => intro i hi; obtain rfl : i = L.length := by omega
                rw [sf_end]; omega
      | succ k ih =>
        intro i hi
        have q1 := e1 i (by omega)
        have q2 := ih (i + 1) (by omega)
        have q3 := sf_step (show i < L.length by omega)
        omega
    have e4 := e3 L.length 0 (by omega)
    have e5 : sf L 0 = L.sum := rfl
    omega
  · exact h
theorem chC_len {L : List Int} {nd : Nat → Nat} (h : Nds (chC L) (L.length + 1) nd) {i j : Nat} (h1 : j < i) (h2 : i ≤ L.length + 1) (h3 : nd i = nd j) : i - j = L.length + 1 := by
  have hs : ∀ t, j + t ≤ L.length + 1 → nd (j + t) + t = nd j ∨ nd (j + t) + t = nd j + (L.length + 1) := by
    intro t
    induction t with
    | zero => intro _; left; rfl
    | succ t ih =>
      intro ht
      have q := chC_mem (h.2 (j + t) (by omega)).1
      dsimp only at q
      have hb := h.1 j (by omega)
      have e : j + (t + 1) = j + t + 1 := rfl
      rw [e]
      rcases q with ⟨q1, q2⟩ | ⟨q1, q2⟩
      · rcases ih (by omega) with i1 | i1
        · left; omega
        · right; omega
      · rcases ih (by omega) with i1 | i1
        · right; omega
        · omega
  have := hs (i - j) (by omega)
  rw [show j + (i - j) = i by omega, h3] at this
  omega
end Go.Proofs.Ytbmofagaammgmaa
