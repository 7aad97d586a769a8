/- The cycle: the walk back along the rounds. -/
import Derived.Test.YtbmofagaammgmaaDmo
namespace Go.Proofs.Ytbmofagaammgmaa
open Go.ChangeShapes Go.WideShapes Go.ChangeAt Go.RowKit Go.ChangeMaps

def St.pos (s : St) (p : Nat × Nat) : Int := ((s.f ((p.1 : Int), (p.2 : Int))).getD (0, 0)).2
def pthL (s : St) (nd : Nat → Nat) (N t : Nat) : List Int := (List.range t).map fun q => s.pos (nd (N - q), nd (N - q - 1))
theorem pthL_succ (s : St) (nd : Nat → Nat) (N t : Nat) : pthL s nd N (t + 1) = pthL s nd N t ++ [s.pos (nd (N - t), nd (N - t - 1))] := by
  unfold pthL
  rw [List.range_succ, List.map_append]
  rfl
theorem pthL_len (s : St) (nd : Nat → Nat) (N t : Nat) : (pthL s nd N t).length = t := by simp [pthL]
/-- What is written of the nodes seen behind t steps. -/
structure SI (nd : Nat → Nat) (N t : Nat) (S : List Int) : Prop where
  len : S.length = N
  old : ∀ a, N - t < a → a ≤ N → S.getD (nd a) 0 = (N : Int) - a
  new : ∀ u, u < N → (∀ a, N - t < a → a ≤ N → nd a ≠ u) → S.getD u 0 = -1
  ne : ∀ a b, N - t < a → a < b → b ≤ N → nd a ≠ nd b
theorem SI.start (nd : Nat → Nat) (N : Nat) : SI nd N 0 (List.replicate N (-1)) :=
  ⟨by simp, fun a h1 h2 => by omega, fun u hu _ => by simp [List.getD, hu], fun a b h1 h2 h3 => by omega⟩
theorem SI.step {nd : Nat → Nat} {N t : Nat} {S : List Int} (h : SI nd N t S) (ht : t < N) (hv : nd (N - t) < N) (hs : S.getD (nd (N - t)) 0 < 0) : SI nd N (t + 1) (S.set (nd (N - t)) (t : Int)) := by
  have hnew : ∀ a, N - t < a → a ≤ N → nd a ≠ nd (N - t) := fun a h1 h2 e => by
    have := h.old a h1 h2
    rw [e] at this
    omega
  have g := fun u => getD_set S (nd (N - t)) u (t : Int) (by rw [h.len]; exact hv)
  refine ⟨by simp [h.len], fun a h1 h2 => ?_, fun u hu hall => ?_, fun a b h1 h2 h3 => ?_⟩
  · rw [g]
    by_cases e : a = N - t
    · subst e; rw [if_pos rfl]; omega
    · rw [if_neg (hnew a (by omega) h2)]
      exact h.old a (by omega) h2
  · rw [g, if_neg (fun e => hall (N - t) (by omega) (by omega) e.symm)]
    exact h.new u hu (fun a h1 h2 => hall a (by omega) h2)
  · by_cases e : a = N - t
    · rw [e]
      exact fun e2 => hnew b (by omega) h3 e2.symm
    · exact h.ne a b (by omega) h2 h3
/-- At the end a node was seen before. -/
theorem SI.seen {nd : Nat → Nat} {N t : Nat} {S : List Int} (h : SI nd N t S) (ht : t ≤ N) (hN : ∀ j, j ≤ N → nd j < N) (hend : t = N ∨ 0 ≤ S.getD (nd (N - t)) 0) : ∃ i, N - t < i ∧ i ≤ N ∧ nd i = nd (N - t) ∧ S.getD (nd (N - t)) 0 = (N : Int) - i := by
  have hex : ∃ i, N - t < i ∧ i ≤ N ∧ nd i = nd (N - t) := by
    refine Classical.byContradiction fun hno => ?_
    have hno' : ∀ a, N - t < a → a ≤ N → nd a ≠ nd (N - t) := fun a h1 h2 e => hno ⟨a, h1, h2, e⟩
    rcases hend with rfl | h0
    · obtain ⟨i, j, hij, hj, e⟩ := pigeon t nd (fun i hi => hN i hi)
      rcases Nat.eq_zero_or_pos i with rfl | hi0
      · exact hno' j (by omega) hj (by rw [Nat.sub_self]; exact e.symm)
      · exact h.ne i j (by omega) hij hj e
    · have := h.new (nd (N - t)) (hN _ (by omega)) hno'
      omega
  obtain ⟨i, h1, h2, e⟩ := hex
  exact ⟨i, h1, h2, e, by rw [← e]; exact h.old i h1 h2⟩
end Go.Proofs.Ytbmofagaammgmaa
