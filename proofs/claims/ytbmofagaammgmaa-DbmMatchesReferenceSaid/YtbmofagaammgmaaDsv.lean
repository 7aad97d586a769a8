/- Solve, where there is a solution. -/
import Derived.Test.YtbmofagaammgmaaDaf
import Derived.Test.YtbmofagaammgmaaDbr
import Derived.Deep.Cut
namespace Go.Proofs.Ytbmofagaammgmaa
open Go.ChangeShapes Go.WideShapes Go.ChangeAt Go.RowKit Go.ChangeMaps

def ics (L : List Int) : Array Value := (ic .i64 L).toArray
/-- Block g holds the numbers L, from its head on. -/
def RW (w : World) (g : Nat) (T : TypeId) (L : List Int) : Prop := ∃ cs : Array Value, Blk w g T cs ∧ ∀ (j : Nat) (v : Int), L[j]? = some v → cs[j]? = some (Value.int .i64 v)
section
variable {w w' : World} {g : Nat} {T : TypeId} {L : List Int}
theorem RW.made (w : World) (T : TypeId) (L : List Int) : RW (w.alloc (.cells (ics L) T)) w.heap.size T L := ⟨_, Blk.new _ _ _, fun j v h => by simp [ics, ic, h]⟩
theorem RW.below (h : RW w g T L) (hb : Below w.heap.size w w') : RW w' g T L := let ⟨cs, h1, h2⟩ := h; ⟨cs, h1.below hb, h2⟩
theorem RW.lt (h : RW w g T L) : g < w.heap.size := let ⟨_, h1, _⟩ := h; h1.lt
theorem RW.cell (h : RW w g T L) {j : Nat} (hj : j < L.length) : w.cell? ⟨g, j, none⟩ = some (.int .i64 (L.getD j 0)) := by
  obtain ⟨cs, h1, h2⟩ := h
  rw [h1.cell j, h2 j (L.getD j 0) (by simp [List.getD, List.getElem?_eq_getElem hj])]
theorem RW.free (h : RW w g T L) (j : Nat) : w.frozen? ⟨g, j, none⟩ = false := let ⟨_, h1, _⟩ := h; Joins.unfrozen_of_block h1 j
theorem RW.set (h : RW w g T L) (j : Nat) (u : Int) : RW (w.setCell ⟨g, j, none⟩ (.int .i64 u)) g T (L.set j u) := by
  obtain ⟨cs, h1, h2⟩ := h
  refine ⟨_, Joins.block_setCell h1 _, fun i v hi => ?_⟩
  have hil : i < L.length := by have := (List.getElem?_eq_some_iff.1 hi).1; simpa using this
  rw [List.getElem?_set] at hi
  by_cases e : j = i
  · subst e
    rw [if_pos rfl, if_pos hil] at hi
    injection hi with hi
    subst hi
    have hc : j < cs.size := by
      have := h2 j _ (List.getElem?_eq_getElem hil)
      exact (Array.getElem?_eq_some_iff.1 this).1
    rw [Array.getElem?_setIfInBounds_self_of_lt hc]
  · rw [if_neg e] at hi
    rw [Array.getElem?_setIfInBounds_ne e]
    exact h2 i v hi
theorem RW.other (h : RW w g T L) {k : Nat} (hk : g ≠ k) (j : Nat) (u : Value) : RW (w.setCell ⟨k, j, none⟩ u) g T L := by
  obtain ⟨cs, h1, h2⟩ := h
  exact ⟨cs, ((grown_set w k j u).block g h1.lt (fun e => by injection e with e; exact hk e)).trans h1, h2⟩
theorem RW.at (h : RW w g T L) : At w (some ⟨g, 0, none⟩) L.length 1 (ic .i64 L) :=
  ⟨by simp [ic], fun _ => ⟨g, 0, rfl, h.lt, fun j u hu => by
    obtain ⟨cs, h1, h2⟩ := h
    simp only [ic, List.getElem?_map] at hu
    cases hl : L[j]? with
    | none => rw [hl] at hu; cases hu
    | some v =>
      rw [hl] at hu
      injection hu with hu
      rw [← hu, Nat.zero_add, h1.cell j]
      exact h2 j v hl⟩⟩
theorem RW.own {B n : Nat} {v : Value} (h : w.ownsRow B T 1 v n (ic .i64 L)) (hn : 0 < n) : ∃ g c, v = .slice (some ⟨g, 0, none⟩) n c ∧ B ≤ g ∧ RW w g T L ∧ n ≤ c := by
  rcases h.2 with ⟨-, h0⟩ | ⟨g, cap, cur, e, hb, hh, hnc, hcap, hsz, htake⟩
  · omega
  · refine ⟨g, cap, e, hb, ⟨cur, hh, fun j u hu => ?_⟩, hnc⟩
    have h1 : (ic .i64 L)[j]? = some (.int .i64 u) := by simp [ic, hu]
    have hl := h.1
    have hj : j < (ic .i64 L).length := (List.getElem?_eq_some_iff.1 h1).1
    rw [← htake, List.getElem?_take] at h1
    rw [if_pos (by omega)] at h1
    simpa using h1
end
theorem make28 (n : Nat) (hn : n ≤ 1000000) (w : World) : (Instr.makeSlice 28 (.int .i64 (n : Int)) (.int .i64 (n : Int))).run Try.prog w = .ok (.slice (some ⟨w.heap.size, 0, none⟩) n n) (w.alloc (.cells (ics (List.replicate n 0)) 2)) := by
  obtain ⟨i, hi, hz, hs, hb⟩ := info_parts (show (Try.prog.info? 2).map (fun i => (i.zero, i.size, i.bytes)) = some (some (.int .i64 0), 1, 8) by kernel_rfl)
  have := run_make (P := Try.prog) w 28 2 i _ Try.underlying28 hi hz .i64 .i64 (n : Int) (n : Int) (by omega) (Int.le_refl _) (by rw [hb]; omega) (by omega)
  rw [hs] at this
  rw [Int.toNat_natCast] at this
  have e : madeCells (Value.int .i64 0).cells (n * 1) = ics (List.replicate n 0) := by
    apply Array.ext
    · simp [ics, ic, madeCells]
    · intro j h1 h2
      simp [ics, ic, madeCells, Value.cells, Nat.mod_one]
  rw [this, e]
theorem make36 (n : Nat) (hn : n ≤ 1000000) (w : World) : (Instr.makeSlice 36 (.int .i64 (n : Int)) (.int .i64 (n : Int))).run Try.prog w = .ok (.slice (some ⟨w.heap.size, 0, none⟩) n n) (w.alloc (.cells (ics (List.replicate n 0)) 3)) := by
  obtain ⟨i, hi, hz, hs, hb⟩ := info_parts (show (Try.prog.info? 3).map (fun i => (i.zero, i.size, i.bytes)) = some (some (.int .i64 0), 1, 8) by kernel_rfl)
  have := run_make (P := Try.prog) w 36 3 i _ Try.underlying36 hi hz .i64 .i64 (n : Int) (n : Int) (by omega) (Int.le_refl _) (by rw [hb]; omega) (by omega)
  rw [hs] at this
  rw [Int.toNat_natCast] at this
  have e : madeCells (Value.int .i64 0).cells (n * 1) = ics (List.replicate n 0) := by
    apply Array.ext
    · simp [ics, ic, madeCells]
    · intro j h1 h2
      simp [ics, ic, madeCells, Value.cells, Nat.mod_one]
  rw [this, e]
theorem rep_set (N k : Nat) (h : k < N) : (List.replicate k (-1 : Int) ++ List.replicate (N - k) 0).set k (-1) = List.replicate (k + 1) (-1) ++ List.replicate (N - (k + 1)) 0 := by
  rw [List.set_append, if_neg (by simp), List.length_replicate, Nat.sub_self, show N - k = (N - (k + 1)) + 1 by omega, List.replicate_succ, List.set_cons_zero, List.replicate_succ', List.append_assoc]
  rfl
/-- What a system's pairs cost, and its pairs as positions. -/
def St.c (s : St) (p : Nat × Nat) : Int := ((s.f ((p.1 : Int), (p.2 : Int))).getD (0, 0)).1
def St.prs (s : St) : List (Nat × Nat) := s.P.map fun p => (p.1.toNat, p.2.toNat)
theorem xsk_bd {c : Nat × Nat → Int} {P : List (Nat × Nat)} {N : Nat} (hP : ∀ p ∈ P, p.1 < N ∧ p.2 < N) (hc : ∀ p ∈ P, -1125899906842624 ≤ c p ∧ c p ≤ 1125899906842624) : ∀ (k v : Nat), v < N → -((k : Int) * 1125899906842624) ≤ (xsk c P N k).getD v 0 ∧ (xsk c P N k).getD v 0 ≤ 0
  | 0, v, hv => by simp [xsk, List.getD, hv]
  | k + 1, v, hv => by
    obtain ⟨h1, h2⟩ := xsk_bd hP hc k v hv
    have h3 := xsk_mono (c := c) hP (show k ≤ k + 1 by omega) v
    refine ⟨?_, by omega⟩
    rcases (xsk_ri (c := c) hP k).fr v hv with ⟨e, -⟩ | ⟨u, hu, -, e, -⟩
    · have e : (xsk c P N (k + 1)).getD v 0 = (xsk c P N k).getD v 0 := e
      rw [e]
      have : ((k + 1 : Nat) : Int) = (k : Int) + 1 := by omega
      rw [this, Int.add_mul]
      omega
    · have e : (xsk c P N (k + 1)).getD v 0 = (xsk c P N k).getD u 0 + c (v, u) := e
      rw [e]
      have q1 := (xsk_bd hP hc k u (hP _ hu).2).1
      have q2 := (hc _ hu).1
      have : ((k + 1 : Nat) : Int) = (k : Int) + 1 := by omega
      rw [this, Int.add_mul]
      omega
end Go.Proofs.Ytbmofagaammgmaa
