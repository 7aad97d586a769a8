/- Positions; a cycle that Cycle returns is negative. -/
import Derived.Test.YtbmofagaammgmaaDne
namespace Go.Proofs.Ytbmofagaammgmaa
open Go.ChangeShapes Go.WideShapes Go.ChangeAt Go.RowKit Go.ChangeMaps

structure PosOK (s : St) (L : List Rb) : Prop where
  a : s.a = L.length
  at_ : ∀ p q, s.f p = some q → ∃ k : Nat, q.2 = (k : Int) ∧ L[k]? = some ⟨p.1, p.2, q.1⟩
theorem PosOK.add {s : St} {L : List Rb} (h : PosOK s L) (i j c : Int) : PosOK (addS s i j c) (L ++ [⟨i, j, c⟩]) := by
  refine ⟨by show s.a + 1 = _; rw [h.a, List.length_append]; rfl, fun p q hq => ?_⟩
  have hnew : ∃ k : Nat, (s.a : Int) = (k : Int) ∧ (L ++ [⟨i, j, c⟩])[k]? = some ⟨i, j, c⟩ := ⟨s.a, rfl, by rw [h.a]; simp⟩
  have hold : ∀ q, s.f p = some q → ∃ k : Nat, q.2 = (k : Int) ∧ (L ++ [⟨i, j, c⟩])[k]? = some ⟨p.1, p.2, q.1⟩ := fun q hq => by
    obtain ⟨k, h1, h2⟩ := h.at_ p q hq
    exact ⟨k, h1, by rw [List.getElem?_append_left (List.getElem?_eq_some_iff.1 h2).1]; exact h2⟩
  rw [addS_f] at hq
  by_cases e : p = (i, j)
  · rw [if_pos e] at hq
    cases hf : s.f (i, j) with
    | none => rw [hf] at hq; injection hq with hq; rw [← hq, e]; exact hnew
    | some q0 =>
      rw [hf] at hq
      dsimp only at hq
      by_cases hc : c < q0.1
      · rw [if_pos hc] at hq; injection hq with hq; rw [← hq, e]; exact hnew
      · rw [if_neg hc] at hq; injection hq with hq; subst hq; exact hold _ (by rw [e]; exact hf)
  · rw [if_neg e] at hq
    exact hold q hq
theorem bld_posL (n : Nat) : ∀ (R : List Rb) (s : St) (L : List Rb), PosOK s L → PosOK (bldS n R s) (L ++ R.filter (okB n))
  | [], s, L, h => by rw [List.filter_nil, List.append_nil]; exact h
  | b :: R, s, L, h => by
    show PosOK (bldS n R (addX s n b.i b.j b.c)) _
    by_cases e : addE n b.i b.j b.c = 0
    · rw [addX_eq e, List.filter_cons_of_pos (by unfold okB; simp [e])]
      have := bld_posL n R (addS s b.i b.j b.c) (L ++ [b]) (h.add b.i b.j b.c)
      rw [List.append_assoc] at this
      exact this
    · have ex : addX s n b.i b.j b.c = s := by unfold addX; rw [if_neg e]
      rw [ex, List.filter_cons_of_neg (by unfold okB; simp [e])]
      exact bld_posL n R s L h
theorem bld_pos (n : Nat) (R : List Rb) : PosOK (bld n R) (R.filter (okB n)) := bld_posL n R _ [] ⟨rfl, fun p q h => by cases h⟩
theorem c_bd {w : World} {B g n : Nat} {s : St} (h : MX w B g n s) (p : Nat × Nat) : -1125899906842624 ≤ s.c p ∧ s.c p ≤ 1125899906842624 := by
  unfold St.c
  cases hf : s.f ((p.1 : Int), (p.2 : Int)) with
  | none => simp
  | some q => have := h.lim _ q hf; exact ⟨this.1, this.2.1⟩
section
variable {s : St} {n : Nat} {nd : Nat → Nat} {i j : Nat}
def eN (nd : Nat → Nat) (i t : Nat) : Nat := nd (i - t)
def wN (s : St) (nd : Nat → Nat) (i t : Nat) : Int := s.c (nd (i - t), nd (i - t - 1))
theorem cyc_sum (h : Nds s (n + 1) nd) (hi : i ≤ n + 1) : ∀ t, t ≤ i → sumF (wN s nd i) t = (xsk s.c s.prs (n + 1) i).getD (nd i) 0 - (xsk s.c s.prs (n + 1) (i - t)).getD (nd (i - t)) 0
  | 0, _ => by rw [Nat.sub_zero, Int.sub_self]; rfl
  | t + 1, ht => by
    show sumF (wN s nd i) t + wN s nd i t = _
    rw [cyc_sum h hi t (by omega)]
    have h1 := (h.2 (i - (t + 1)) (by omega)).2.2.1
    rw [show i - (t + 1) + 1 = i - t by omega] at h1
    unfold wN
    rw [show i - t - 1 = i - (t + 1) by omega]
    omega
theorem cyc_neg (hP : ∀ p ∈ s.prs, p.1 < n + 1 ∧ p.2 < n + 1) (h : Nds s (n + 1) nd) (hji : j < i) (hi : i ≤ n + 1) (hnd : nd i = nd j) : sumF (wN s nd i) (i - j) < 0 := by
  rw [cyc_sum h hi (i - j) (by omega), show i - (i - j) = j by omega]
  have h1 := (h.2 (i - 1) (by omega)).2.2.2
  rw [show i - 1 + 1 = i by omega] at h1
  have h2 := xsk_mono (c := s.c) hP (show j ≤ i - 1 by omega) (nd i)
  rw [← hnd]
  omega
theorem cyc_at {L : List Rb} (hg : SG s n) (hp : PosOK s L) (h : Nds s (n + 1) nd) (hji : j < i) (hi : i ≤ n + 1) (t : Nat) (ht : t < i - j) : ∃ p : Nat, ((pthL s nd (n + 1) (n + 1 - j)).drop (n + 1 - i))[t]? = some (p : Int) ∧ L[p]? = some ⟨eN nd i t, eN nd i (t + 1), wN s nd i t⟩ := by
  have hm := (h.2 (i - t - 1) (by omega)).1
  rw [show i - t - 1 + 1 = i - t by omega] at hm
  obtain ⟨q, hq⟩ := Option.isSome_iff_exists.1 ((hg.dom _).2 ((prs_mem hg).1 hm))
  obtain ⟨p, h1, h2⟩ := hp.at_ _ q hq
  refine ⟨p, ?_, ?_⟩
  · rw [List.getElem?_drop]
    unfold pthL
    rw [List.getElem?_map, List.getElem?_range (by omega)]
    show some (s.pos (nd (n + 1 - (n + 1 - i + t)), nd (n + 1 - (n + 1 - i + t) - 1))) = some (p : Int)
    rw [show n + 1 - (n + 1 - i + t) = i - t by omega]
    unfold St.pos
    rw [hq]
    exact congrArg some h1
  · unfold eN wN
    rw [show i - (t + 1) = i - t - 1 by omega]
    have : s.c (nd (i - t), nd (i - t - 1)) = q.1 := by unfold St.c; rw [hq]; rfl
    rw [this]
    exact h2
end
end Go.Proofs.Ytbmofagaammgmaa
