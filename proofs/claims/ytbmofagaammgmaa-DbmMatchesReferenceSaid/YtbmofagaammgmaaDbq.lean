/- The reference's rounds: values lowered in place. -/
import Derived.Test.YtbmofagaammgmaaDbp
namespace Go.Proofs.Ytbmofagaammgmaa
open Go.ChangeShapes Go.WideShapes Go.ChangeAt Go.RowKit Go.ChangeMaps

/-- A bound: x[i] - x[j] is at most c. -/
structure Bd where
  i : Nat
  j : Nat
  c : Int
def gst (s : List Int × Bool) (b : Bd) : List Int × Bool := if s.1.getD b.i 0 > s.1.getD b.j 0 + b.c then (s.1.set b.i (s.1.getD b.j 0 + b.c), true) else s
def grd (B : List Bd) (x : List Int) : List Int × Bool := B.foldl gst (x, false)
structure GI (Q : List Bd) (x : List Int) (s : List Int × Bool) : Prop where
  len : s.1.length = x.length
  le : ∀ v, s.1.getD v 0 ≤ x.getD v 0
  bd : ∀ b ∈ Q, s.1.getD b.i 0 ≤ x.getD b.j 0 + b.c
  no : s.2 = false → s.1 = x
  yes : s.2 = true → ∃ v, v < x.length ∧ s.1.getD v 0 < x.getD v 0
  low : ∀ D : Nat → Int, (∀ b ∈ Q, D b.i ≤ D b.j + b.c) → (∀ v, v < x.length → D v ≤ x.getD v 0) → ∀ v, v < x.length → D v ≤ s.1.getD v 0
theorem GI.start (x : List Int) : GI [] x (x, false) := ⟨rfl, fun _ => Int.le_refl _, fun b hb => (by cases hb), fun _ => rfl, fun h => (by cases h), fun D _ h => h⟩
theorem GI.step {Q : List Bd} {x : List Int} {s : List Int × Bool} (h : GI Q x s) (b : Bd) (hi : b.i < x.length) (hj : b.j < x.length) : GI (Q ++ [b]) x (gst s b) := by
  obtain ⟨bi, bj, bc⟩ := b
  obtain ⟨h1, h2, h3, h4, h5, h6⟩ := h
  unfold gst
  dsimp only at hi hj ⊢
  by_cases hv : s.1.getD bi 0 > s.1.getD bj 0 + bc
  · rw [if_pos hv]
    have g1 := fun v u => getD_set s.1 bi v u (by rw [h1]; exact hi)
    have hb := h2 bi
    have hjx := h2 bj
    refine ⟨by simp [h1], fun v => ?_, fun q hq => ?_, fun h => (by cases h), fun _ => ⟨bi, hi, ?_⟩, fun D hD h0 v hvn => ?_⟩
    · rw [g1]
      split
      · rename_i e; subst e; omega
      · exact h2 v
    · rw [g1]
      rcases List.mem_append.1 hq with hq | hq
      · have := h3 q hq
        split
        · rename_i e; rw [e] at this; omega
        · exact this
      · rw [List.mem_singleton.1 hq]
        dsimp only
        rw [if_pos rfl]
        omega
    · rw [g1, if_pos rfl]; omega
    · rw [g1]
      have k1 := h6 D (fun q hq => hD q (List.mem_append_left _ hq)) h0
      split
      · rename_i e
        subst e
        have k2 := k1 bj hj
        have k3 := hD ⟨v, bj, bc⟩ (by simp)
        dsimp only at k3
        omega
      · exact k1 v hvn
  · rw [if_neg hv]
    refine ⟨h1, h2, fun q hq => ?_, h4, h5, fun D hD h0 => h6 D (fun q hq => hD q (List.mem_append_left _ hq)) h0⟩
    rcases List.mem_append.1 hq with hq | hq
    · exact h3 q hq
    · rw [List.mem_singleton.1 hq]
      have := h2 bj
      dsimp only
      omega
theorem GI.all {x : List Int} : ∀ (B Q : List Bd) (s : List Int × Bool), GI Q x s → (∀ b ∈ B, b.i < x.length ∧ b.j < x.length) → GI (Q ++ B) x (B.foldl gst s)
  | [], Q, s, h, _ => by simpa using h
  | b :: B, Q, s, h, hB => by
    have := GI.all B (Q ++ [b]) _ (h.step b (hB b List.mem_cons_self).1 (hB b List.mem_cons_self).2) (fun q hq => hB q (List.mem_cons_of_mem _ hq))
    simpa using this
theorem grd_gi {B : List Bd} {x : List Int} (hB : ∀ b ∈ B, b.i < x.length ∧ b.j < x.length) : GI B x (grd B x) := GI.all B [] _ (GI.start x) hB
theorem grd_no {B : List Bd} {x : List Int} (hB : ∀ b ∈ B, b.i < x.length ∧ b.j < x.length) (h : (grd B x).2 = false) : ∀ b ∈ B, x.getD b.i 0 ≤ x.getD b.j 0 + b.c := by
  have g := grd_gi hB
  intro b hb
  have := g.bd b hb
  rw [g.no h] at this
  exact this
/-- The values behind k rounds of the reference. -/
def gsk (B : List Bd) (N : Nat) : Nat → List Int
  | 0 => List.replicate N 0
  | k + 1 => (grd B (gsk B N k)).1
section
variable {B : List Bd} {c : Nat × Nat → Int} {P : List (Nat × Nat)} {N : Nat}
theorem gsk_len (hB : ∀ b ∈ B, b.i < N ∧ b.j < N) : ∀ k, (gsk B N k).length = N
  | 0 => by simp [gsk]
  | k + 1 => by
    have h := gsk_len hB k
    exact (grd_gi (B := B) (x := gsk B N k) (by rw [h]; exact hB)).len.trans h
theorem gsk_gi (hB : ∀ b ∈ B, b.i < N ∧ b.j < N) (k : Nat) : GI B (gsk B N k) (grd B (gsk B N k)) := grd_gi (by rw [gsk_len hB k]; exact hB)
/-- The pairs with their least constants, and the bounds: the same system. -/
structure Sys (B : List Bd) (c : Nat × Nat → Int) (P : List (Nat × Nat)) : Prop where
  to : ∀ b ∈ B, (b.i, b.j) ∈ P ∧ c (b.i, b.j) ≤ b.c
  of : ∀ p ∈ P, ∃ b ∈ B, b.i = p.1 ∧ b.j = p.2 ∧ b.c = c p
theorem gsk_le (hs : Sys B c P) (hB : ∀ b ∈ B, b.i < N ∧ b.j < N) (hP : ∀ p ∈ P, p.1 < N ∧ p.2 < N) : ∀ k v, v < N → (gsk B N k).getD v 0 ≤ (xsk c P N k).getD v 0
  | 0, v, _ => Int.le_refl _
  | k + 1, v, hv => by
    have ih := gsk_le hs hB hP k
    have g := gsk_gi hB k
    show (grd B (gsk B N k)).1.getD v 0 ≤ (rnd c P (xsk c P N k)).1.getD v 0
    rcases (xsk_ri (c := c) hP k).fr v hv with ⟨e, -⟩ | ⟨u, hu, -, e, -⟩
    · rw [e]
      exact Int.le_trans (g.le v) (ih v hv)
    · rw [e]
      obtain ⟨b, hb, e1, e2, e3⟩ := hs.of _ hu
      have h1 := g.bd b hb
      have h2 := ih u (hP _ hu).2
      dsimp only at e1 e2
      rw [e1, e2, e3] at h1
      omega
/-- With a solution, the reference's round N changes nothing. -/
theorem gsk_done (hs : Sys B c P) (hB : ∀ b ∈ B, b.i < N ∧ b.j < N) (hP : ∀ p ∈ P, p.1 < N ∧ p.2 < N) (s : Nat → Int) (hsol : ∀ b ∈ B, s b.i - s b.j ≤ b.c) (hN : 1 ≤ N) : (grd B (gsk B N (N - 1))).2 = false := by
  cases hc : (grd B (gsk B N (N - 1))).2
  · rfl
  exfalso
  have hsP : ∀ p ∈ P, s p.1 - s p.2 ≤ c p := fun p hp => by
    obtain ⟨b, hb, e1, e2, e3⟩ := hs.of p hp
    have := hsol b hb
    rw [e1, e2, e3] at this
    exact this
  have hfix : ∀ v, v < N → (xsk c P N (N - 1 + 1)).getD v 0 = (xsk c P N (N - 1)).getD v 0 := fun v hv => by
    have h1 := solved hP s hsP (k := N - 1) (by omega) hv
    have h2 := xsk_mono (c := c) hP (show N - 1 ≤ N - 1 + 1 by omega) v
    omega
  have hD : ∀ b ∈ B, (xsk c P N (N - 1)).getD b.i 0 ≤ (xsk c P N (N - 1)).getD b.j 0 + b.c := fun b hb => by
    obtain ⟨q1, q2⟩ := hs.to b hb
    have h1 := (xsk_ri (c := c) hP (N - 1)).bd _ q1
    have h1 : (xsk c P N (N - 1 + 1)).getD b.i 0 ≤ (xsk c P N (N - 1)).getD b.j 0 + c (b.i, b.j) := h1
    rw [hfix _ (hB b hb).1] at h1
    omega
  have hlow : ∀ k v, v < N → (xsk c P N (N - 1)).getD v 0 ≤ (gsk B N k).getD v 0 := by
    intro k
    induction k with
    | zero => intro v hv; exact xsk_mono (c := c) hP (Nat.zero_le _) v
    | succ k ih =>
      intro v hv
      have hl := gsk_len hB k
      exact (gsk_gi hB k).low (fun v => (xsk c P N (N - 1)).getD v 0) hD (fun u hu => ih u (by rw [hl] at hu; exact hu)) v (by rw [hl]; exact hv)
  obtain ⟨v, hv, hlt⟩ := (gsk_gi hB (N - 1)).yes hc
  rw [gsk_len hB] at hv
  have h1 := gsk_le hs hB hP (N - 1) v hv
  have h2 := hlow (N - 1 + 1) v hv
  have h2 : (xsk c P N (N - 1)).getD v 0 ≤ (grd B (gsk B N (N - 1))).1.getD v 0 := h2
  omega
end
end Go.Proofs.Ytbmofagaammgmaa
