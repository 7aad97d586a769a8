/- Rounds of lowering values until all bounds hold. -/
import Derived.Test.YtbmofagaammgmaaSlc
namespace Go.Proofs.Ytbmofagaammgmaa
open Go.ChangeShapes Go.WideShapes Go.ChangeAt Go.RowKit Go.ChangeMaps

def stp (c : Nat × Nat → Int) (x : List Int) (s : List Int × List Int × Int) (p : Nat × Nat) : List Int × List Int × Int :=
  if x.getD p.2 0 + c p < s.1.getD p.1 0 then (s.1.set p.1 (x.getD p.2 0 + c p), s.2.1.set p.1 (p.2 : Int), (p.1 : Int)) else s
def rnd (c : Nat × Nat → Int) (P : List (Nat × Nat)) (x : List Int) : List Int × List Int × Int := P.foldl (stp c x) (x, List.replicate x.length (-1), -1)
structure RI (c : Nat × Nat → Int) (Q : List (Nat × Nat)) (N : Nat) (x : List Int) (s : List Int × List Int × Int) : Prop where
  len : s.1.length = N
  lenf : s.2.1.length = N
  le : ∀ v, s.1.getD v 0 ≤ x.getD v 0
  bd : ∀ p ∈ Q, s.1.getD p.1 0 ≤ x.getD p.2 0 + c p
  fr : ∀ v, v < N → (s.1.getD v 0 = x.getD v 0 ∧ s.2.1.getD v 0 = -1) ∨ ∃ u, (v, u) ∈ Q ∧ s.2.1.getD v 0 = (u : Int) ∧ s.1.getD v 0 = x.getD u 0 + c (v, u) ∧ s.1.getD v 0 < x.getD v 0
  ch : (s.2.2 = -1 ∧ s.1 = x) ∨ ∃ v, v < N ∧ s.2.2 = (v : Int) ∧ s.1.getD v 0 < x.getD v 0
theorem getD_set (l : List Int) (i j : Nat) (u : Int) (h : i < l.length) : (l.set i u).getD j 0 = if j = i then u else l.getD j 0 := by
  simp only [List.getD, List.getElem?_set]
  by_cases e : i = j
  · subst e; simp [h]
  · rw [if_neg e, if_neg (fun h => e h.symm)]
theorem RI.start (c : Nat × Nat → Int) (x : List Int) : RI c [] x.length x (x, List.replicate x.length (-1), -1) :=
  ⟨rfl, by simp, fun _ => Int.le_refl _, fun p hp => (by cases hp), fun v hv => .inl ⟨rfl, by simp [List.getD, hv]⟩, .inl ⟨rfl, rfl⟩⟩
theorem RI.step {c : Nat × Nat → Int} {Q : List (Nat × Nat)} {N : Nat} {x : List Int} {s : List Int × List Int × Int} (h : RI c Q N x s) (p : Nat × Nat) (hp : p.1 < N) : RI c (Q ++ [p]) N x (stp c x s p) := by
  obtain ⟨p1, p2⟩ := p
  obtain ⟨h1, h2, h3, h4, h5, h6⟩ := h
  unfold stp
  dsimp only at hp ⊢
  by_cases hv : x.getD p2 0 + c (p1, p2) < s.1.getD p1 0
  · rw [if_pos hv]
    have g1 := fun j u => getD_set s.1 p1 j u (by rw [h1]; exact hp)
    have g2 := fun j u => getD_set s.2.1 p1 j u (by rw [h2]; exact hp)
    have hx := h3 p1
    refine ⟨by simp [h1], by simp [h2], fun v => ?_, fun q hq => ?_, fun v hvn => ?_, .inr ⟨p1, hp, rfl, ?_⟩⟩
    · rw [g1]
      split
      · rename_i e; subst e; omega
      · exact h3 v
    · rw [g1]
      rcases List.mem_append.1 hq with hq | hq
      · have := h4 q hq
        split
        · rename_i e; rw [e] at this; omega
        · exact this
      · rw [List.mem_singleton.1 hq]
        dsimp only
        rw [if_pos rfl]
        exact Int.le_refl _
    · by_cases e : v = p1
      · subst e
        refine .inr ⟨p2, by simp, ?_, ?_, ?_⟩
        · rw [g2, if_pos rfl]
        · rw [g1, if_pos rfl]
        · rw [g1, if_pos rfl]; omega
      · rw [g1, g2, if_neg e, if_neg e]
        rcases h5 v hvn with h | ⟨u, a, b, d, f⟩
        · exact .inl h
        · exact .inr ⟨u, List.mem_append_left _ a, b, d, f⟩
    · rw [g1, if_pos rfl]; omega
  · rw [if_neg hv]
    refine ⟨h1, h2, h3, fun q hq => ?_, fun v hvn => ?_, h6⟩
    · rcases List.mem_append.1 hq with hq | hq
      · exact h4 q hq
      · rw [List.mem_singleton.1 hq]; show s.1.getD p1 0 ≤ x.getD p2 0 + c (p1, p2); omega
    · rcases h5 v hvn with h | ⟨u, a, b, d, f⟩
      · exact .inl h
      · exact .inr ⟨u, List.mem_append_left _ a, b, d, f⟩
theorem RI.all {c : Nat × Nat → Int} {N : Nat} {x : List Int} : ∀ (P Q : List (Nat × Nat)) (s : List Int × List Int × Int), RI c Q N x s → (∀ p ∈ P, p.1 < N) → RI c (Q ++ P) N x (P.foldl (stp c x) s)
  | [], Q, s, h, _ => by simpa using h
  | p :: P, Q, s, h, hP => by
    have := RI.all P (Q ++ [p]) _ (h.step p (hP p List.mem_cons_self)) (fun q hq => hP q (List.mem_cons_of_mem _ hq))
    simpa using this
theorem rnd_ri {c : Nat × Nat → Int} {N : Nat} {x : List Int} {P : List (Nat × Nat)} (hx : x.length = N) (hP : ∀ p ∈ P, p.1 < N) : RI c P N x (rnd c P x) := by
  subst hx
  exact RI.all P [] _ (RI.start c x) hP
/-- The values behind k rounds. -/
def xsk (c : Nat × Nat → Int) (P : List (Nat × Nat)) (N : Nat) : Nat → List Int
  | 0 => List.replicate N 0
  | k + 1 => (rnd c P (xsk c P N k)).1
section
variable {c : Nat × Nat → Int} {P : List (Nat × Nat)} {N : Nat} (hP : ∀ p ∈ P, p.1 < N ∧ p.2 < N)
include hP
theorem xsk_len : ∀ k, (xsk c P N k).length = N
  | 0 => by simp [xsk]
  | k + 1 => (rnd_ri (c := c) (xsk_len k) (fun p hp => (hP p hp).1)).len
theorem xsk_ri (k : Nat) : RI c P N (xsk c P N k) (rnd c P (xsk c P N k)) := rnd_ri (xsk_len hP k) (fun p hp => (hP p hp).1)
theorem xsk_mono {a b : Nat} (h : a ≤ b) (v : Nat) : (xsk c P N b).getD v 0 ≤ (xsk c P N a).getD v 0 := by
  induction h with
  | refl => exact Int.le_refl _
  | step _ ih => exact Int.le_trans ((xsk_ri hP _).le v) ih
/-- What changes in a round goes back, round by round, to what changed in the round before. -/
theorem chain_back : ∀ (k v : Nat), v < N → (xsk c P N (k + 1)).getD v 0 < (xsk c P N k).getD v 0 → ∃ nd : Nat → Nat, nd (k + 1) = v ∧ (∀ j, j ≤ k + 1 → nd j < N) ∧ ∀ j, j ≤ k → (nd (j + 1), nd j) ∈ P ∧ (rnd c P (xsk c P N j)).2.1.getD (nd (j + 1)) 0 = (nd j : Int) ∧
    (xsk c P N (j + 1)).getD (nd (j + 1)) 0 = (xsk c P N j).getD (nd j) 0 + c (nd (j + 1), nd j) ∧ (xsk c P N (j + 1)).getD (nd (j + 1)) 0 < (xsk c P N j).getD (nd (j + 1)) 0
  | k, v, hv, hch => by
    have hr := xsk_ri (c := c) hP k
    rcases hr.fr v hv with ⟨e, -⟩ | ⟨u, hu, hf, he, hl⟩
    · have e : (xsk c P N (k + 1)).getD v 0 = (xsk c P N k).getD v 0 := e
      omega
    · have hun := (hP _ hu).2
      cases k with
      | zero =>
        refine ⟨fun j => if j = 0 then u else v, rfl, fun j hj => ?_, fun j hj => ?_⟩
        · dsimp only; split
          · exact hun
          · exact hv
        · obtain rfl : j = 0 := by omega
          exact ⟨hu, hf, he, hl⟩
      | succ k =>
        have hub : (xsk c P N (k + 1)).getD u 0 < (xsk c P N k).getD u 0 := by
          have h1 := (xsk_ri (c := c) hP k).bd _ hu
          have h1 : (xsk c P N (k + 1)).getD v 0 ≤ (xsk c P N k).getD u 0 + c (v, u) := h1
          have he : (xsk c P N (k + 2)).getD v 0 = (xsk c P N (k + 1)).getD u 0 + c (v, u) := he
          have hch : (xsk c P N (k + 2)).getD v 0 < (xsk c P N (k + 1)).getD v 0 := hch
          omega
        obtain ⟨nd, e1, e2, e3⟩ := chain_back k u hun hub
        refine ⟨fun j => if j = k + 2 then v else nd j, if_pos rfl, fun j hj => ?_, fun j hj => ?_⟩
        · dsimp only; split
          · exact hv
          · exact e2 j (by omega)
        · by_cases hjk : j = k + 1
          · subst hjk
            dsimp only
            rw [if_pos (show k + 1 + 1 = k + 2 from rfl), if_neg (show ¬ k + 1 = k + 2 by omega), e1]
            exact ⟨hu, hf, he, hl⟩
          · dsimp only
            rw [if_neg (show ¬ j + 1 = k + 2 by omega), if_neg (show ¬ j = k + 2 by omega)]
            exact e3 j (by omega)
end
theorem pigeon : ∀ (N : Nat) (f : Nat → Nat), (∀ i, i ≤ N → f i < N) → ∃ i j, i < j ∧ j ≤ N ∧ f i = f j
  | 0, f, h => absurd (h 0 (Nat.le_refl _)) (by omega)
  | N + 1, f, h => by
    by_cases hc : ∃ i, i ≤ N ∧ f i = f (N + 1)
    · obtain ⟨i, hi, e⟩ := hc
      exact ⟨i, N + 1, by omega, Nat.le_refl _, e⟩
    · have hc' : ∀ i, i ≤ N → f i ≠ f (N + 1) := fun i hi e => hc ⟨i, hi, e⟩
      obtain ⟨i, j, hij, hj, e⟩ := pigeon N (fun i => if f i > f (N + 1) then f i - 1 else f i) (fun i hi => by
        have h1 := hc' i hi
        have h2 := h i (by omega)
        have h3 := h (N + 1) (Nat.le_refl _)
        show (if f i > f (N + 1) then f i - 1 else f i) < N
        split <;> omega)
      refine ⟨i, j, hij, by omega, ?_⟩
      have h1 := hc' i (by omega)
      have h2 := hc' j hj
      have e : (if f i > f (N + 1) then f i - 1 else f i) = (if f j > f (N + 1) then f j - 1 else f j) := e
      split at e <;> split at e <;> omega
/-- With a solution, nothing changes in round N. -/
theorem solved {c : Nat × Nat → Int} {P : List (Nat × Nat)} {N : Nat} (hP : ∀ p ∈ P, p.1 < N ∧ p.2 < N) (s : Nat → Int) (hs : ∀ p ∈ P, s p.1 - s p.2 ≤ c p) {k v : Nat} (hk : N ≤ k + 1) (hv : v < N) : ¬ (xsk c P N (k + 1)).getD v 0 < (xsk c P N k).getD v 0 := by
  intro hch
  obtain ⟨nd, e1, e2, e3⟩ := chain_back hP k v hv hch
  have hd : ∀ a b, a ≤ b → b ≤ k + 1 → (xsk c P N a).getD (nd a) 0 - s (nd a) ≤ (xsk c P N b).getD (nd b) 0 - s (nd b) := by
    intro a b hab
    induction hab with
    | refl => intro _; exact Int.le_refl _
    | step hm ih =>
      rename_i m
      intro hb
      have h1 := ih (by omega)
      obtain ⟨q1, -, q2, -⟩ := e3 m (by omega)
      have q3 := hs _ q1
      dsimp only at q3
      show (xsk c P N a).getD (nd a) 0 - s (nd a) ≤ (xsk c P N (m + 1)).getD (nd (m + 1)) 0 - s (nd (m + 1))
      omega
  obtain ⟨a, b, hab, hb, e⟩ := pigeon N nd (fun i hi => e2 i (by omega))
  have h1 := hd a b (by omega) (by omega)
  obtain ⟨b', rfl⟩ : ∃ b', b = b' + 1 := ⟨b - 1, by omega⟩
  obtain ⟨-, -, -, q⟩ := e3 b' (by omega)
  have h2 := xsk_mono (c := c) hP (show a ≤ b' by omega) (nd (b' + 1))
  rw [e] at h1
  omega
end Go.Proofs.Ytbmofagaammgmaa
