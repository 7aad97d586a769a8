/- Elements of a row read and written; what a narrowed domain is. -/
import Derived.Test.YtnoddkbpdfimmaaIvn
namespace Go.Proofs.Ytnoddkbpdfimmaa
open Go.ChangeShapes Go.WideShapes Go.ChangeAt Go.RowKit Go.ChangeMaps

theorem OR.get {w : World} {b g m cap v : Nat} {R : List Iv} (h : OR 39 w b (.slice (some ⟨g, 0, none⟩) m cap) R) (hm : R.length = m) (hv : v < m) : w.cell? ⟨g, v * 2, none⟩ = some (.int .i64 (R.getD v ⟨0, 0⟩).lo) ∧ w.cell? ⟨g, v * 2 + 1, none⟩ = some (.int .i64 (R.getD v ⟨0, 0⟩).hi) ∧ ∀ j, w.frozen? ⟨g, j, none⟩ = false := by
  have hr : v < R.length := by omega
  have hx : R.getD v ⟨0, 0⟩ = R[v] := by simp [List.getD, List.getElem?_eq_getElem hr]
  rw [hx]
  obtain ⟨g', cap', e, hg, hl, hc, hf, -⟩ := own_setK (i := v * 2) h (by omega)
  injection e with e1 e2 e3
  injection e1 with e1
  injection e1 with e1
  subst e1
  have hg2 := iv_get R v hr
  exact ⟨(hc _ (by omega)).trans hg2.1, (hc _ (by omega)).trans hg2.2, hf⟩
theorem OR.put {w : World} {b g m cap v : Nat} {R : List Iv} (h : OR 39 w b (.slice (some ⟨g, 0, none⟩) m cap) R) (hm : R.length = m) (hv : v < m) (y : Iv) : OR 39 ((w.setCell ⟨g, v * 2, none⟩ (.int .i64 y.lo)).setCell ⟨g, v * 2 + 1, none⟩ (.int .i64 y.hi)) b (.slice (some ⟨g, 0, none⟩) m cap) (R.set v y) ∧
    ∀ B w0, Below B w0 w → B ≤ b → Below B w0 ((w.setCell ⟨g, v * 2, none⟩ (.int .i64 y.lo)).setCell ⟨g, v * 2 + 1, none⟩ (.int .i64 y.hi)) := by
  have hr : v < R.length := by omega
  obtain ⟨g', cap', e, hg, hl, hc, hf, hs⟩ := own_setK (i := v * 2) h (by omega)
  injection e with e1 e2 e3
  injection e1 with e1
  injection e1 with e1
  subst e1
  obtain ⟨h1, h2⟩ := hs (.int .i64 y.lo)
  obtain ⟨g', cap', e, -, -, -, -, hs⟩ := own_setK (i := v * 2 + 1) h1 (by omega)
  injection e with e1 e2 e3
  injection e1 with e1
  injection e1 with e1
  subst e1
  obtain ⟨h3, h4⟩ := hs (.int .i64 y.hi)
  rw [flat_setI y R v hr] at h3
  refine ⟨?_, fun B w0 hB hb => h4 B w0 (h2 B w0 hB hb) hb⟩
  unfold OR
  rw [List.length_set]
  exact h3
theorem Blk.other {w : World} {g g' t j : Nat} {cs : Array Value} {u : Value} (h : Blk w g' t cs) (hne : g' ≠ g) : Blk (w.setCell ⟨g, j, none⟩ u) g' t cs := (Below.heap_setCell w _ u g' hne).trans h
theorem own_at {w : World} {L b m cap v : Nat} {A : Option Addr} {R : List Iv} (h : OR L w b (.slice A m cap) R) (hm : R.length = m) (hv : v < m) : ∃ g, A = some ⟨g, 0, none⟩ ∧ b ≤ g ∧ g < w.heap.size := by
  obtain ⟨g', cap', e, hg, hl, -⟩ := own_setK (i := v * 2) h (by omega)
  injection e with e1 e2 e3
  exact ⟨g', e1, hg, hl⟩
theorem nrwP_sub {d r : Iv} {a : Int} {eq : Bool} : d.lo ≤ (nrwP d a r eq).lo ∧ (nrwP d a r eq).hi ≤ d.hi := by
  unfold nrwP
  constructor
  · cases eq
    · simp
    · simp only [if_true]; omega
  · simp only; omega
theorem nrw_sub {d r : Iv} {a : Int} {eq : Bool} : d.lo ≤ (nrw d a r eq).lo ∧ (nrw d a r eq).hi ≤ d.hi := by
  unfold nrw
  split
  · have := nrwP_sub (d := ⟨-d.hi, -d.lo⟩) (a := -a) (r := r) (eq := eq)
    simp only at this ⊢
    omega
  · exact nrwP_sub
theorem nrw_bd {d r : Iv} {a : Int} {eq : Bool} (h : d.bd 4294967296) (he : (nrw d a r eq).emp = false) : (nrw d a r eq).bd 4294967296 := by
  have h1 := nrw_sub (d := d) (a := a) (r := r) (eq := eq)
  unfold Iv.emp at he
  simp only [decide_eq_false_iff_not] at he
  obtain ⟨⟨a1, a2⟩, a3, a4⟩ := h
  exact ⟨⟨by omega, by omega⟩, by omega, by omega⟩
theorem set_bd {R : List Iv} {v m : Nat} {y : Iv} (h : R.length = m ∧ ∀ d ∈ R, d.bd 4294967296) (hy : y.bd 4294967296) : (R.set v y).length = m ∧ ∀ d ∈ R.set v y, d.bd 4294967296 := by
  refine ⟨by rw [List.length_set]; exact h.1, fun d hd => ?_⟩
  rcases List.mem_or_eq_of_mem_set hd with h1 | h1
  · exact h.2 d h1
  · rw [h1]; exact hy
theorem rng_bd {o : Option Iv} (h : ∀ r, o = some r → r.bd 1152921504606846976) : (o.getD ⟨0, 0⟩).bd 1152921504606846976 := by
  cases o
  · exact ⟨⟨by decide, by decide⟩, by decide, by decide⟩
  · exact h _ rfl
end Go.Proofs.Ytnoddkbpdfimmaa
