/- What a system means: solutions; and what Add does to it. -/
import Derived.Test.YtbmofagaammgmaaDaw
namespace Go.Proofs.Ytbmofagaammgmaa
open Go.ChangeShapes Go.WideShapes Go.ChangeAt Go.RowKit Go.ChangeMaps

theorem mx_hP {w : World} {B g n : Nat} {s : St} (h : MX w B g n s) : ∀ p ∈ s.prs, p.1 < n + 1 ∧ p.2 < n + 1 := fun p hp => by
  obtain ⟨q, hq, rfl⟩ := List.mem_map.1 hp
  obtain ⟨⟨a1, a2⟩, a3, a4⟩ := h.ok q hq
  dsimp only
  omega
theorem sat_Y {s : St} {n : Nat} (hP : ∀ p ∈ s.prs, p.1 < n + 1 ∧ p.2 < n + 1) (h : Sat s n) : ∃ Y : Nat → Int, ∀ p ∈ s.prs, Y p.1 ≤ Y p.2 + s.c p := by
  obtain ⟨r, hr, hall⟩ := h
  refine ⟨fun v => (xsk s.c s.prs (n + 1) r).getD v 0, fun p hp => ?_⟩
  have h1 := (xsk_ri (c := s.c) hP r).bd p hp
  have h2 := hall p.1 (hP p hp).1
  have h3 : (xsk s.c s.prs (n + 1) (r + 1)).getD p.1 0 ≤ (xsk s.c s.prs (n + 1) r).getD p.2 0 + s.c p := h1
  dsimp only
  omega
theorem sat_of {s : St} {n : Nat} (hP : ∀ p ∈ s.prs, p.1 < n + 1 ∧ p.2 < n + 1) (x : Nat → Int) (hx : ∀ p ∈ s.prs, x p.1 - x p.2 ≤ s.c p) : Sat s n := by
  refine ⟨n, by omega, fun v hv => ?_⟩
  have h1 := solved hP x hx (k := n) (by omega) hv
  have h2 := xsk_mono (c := s.c) hP (show n ≤ n + 1 by omega) v
  omega
theorem addE_zero {n : Nat} {i j c : Int} (hi : 0 ≤ i ∧ i ≤ (n : Int)) (hj : 0 ≤ j ∧ j ≤ (n : Int)) (hc : -1125899906842624 ≤ c ∧ c ≤ 1125899906842624) : addE n i j c = 0 := by
  unfold addE
  rw [not_bad.2 hi, not_bad.2 hj, if_neg (by simp), if_neg (by omega)]
theorem addX_eq {s : St} {n : Nat} {i j c : Int} (h : addE n i j c = 0) : addX s n i j c = addS s i j c := by unfold addX; rw [if_pos h]
end Go.Proofs.Ytbmofagaammgmaa
