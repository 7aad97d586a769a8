/- Rows of intervals: a store of a field or of a whole element; the folds of Of. -/
import Derived.Test.YtnoddkbpdfimmaaIvc
namespace Go.Proofs.Ytnoddkbpdfimmaa
open Go.ChangeShapes Go.WideShapes Go.ChangeAt Go.RowKit Go.ChangeMaps

theorem own_setK {w : World} {b e n i z : Nat} {v : Value} {xs : List Value} (h : w.ownsRow b e z v n xs) (hi : i < n * z) : ∃ g cap, v = .slice (some ⟨g, 0, none⟩) n cap ∧ b ≤ g ∧ g < w.heap.size ∧ (∀ j, j < n * z → w.cell? ⟨g, j, none⟩ = xs[j]?) ∧ (∀ j, w.frozen? ⟨g, j, none⟩ = false) ∧
    ∀ u, (w.setCell ⟨g, i, none⟩ u).ownsRow b e z v n (xs.set i u) ∧ ∀ B w0, Below B w0 w → B ≤ b → Below B w0 (w.setCell ⟨g, i, none⟩ u) := by
  have h0 := h
  rcases h.2 with ⟨_, hl⟩ | ⟨g, cap, cur, rfl, hg, hh, hnc, hcap, hsz, htake⟩
  · subst hl; omega
  · have hlt : g < w.heap.size := (show Blk w g e cur from hh).lt
    refine ⟨g, cap, rfl, hg, hlt, fun j hj => World.ownsRow.cellAt h0 j hj, fun j => Joins.unfrozen_of_block hh _, fun u => ⟨⟨by rw [List.length_set]; exact h.1, .inr ⟨g, cap, cur.setIfInBounds i u, rfl, hg, Joins.block_setCell hh _, hnc, hcap, by simpa using hsz, ?_⟩⟩, fun B w0 hB hb => hB.setCell (p := ⟨g, i, none⟩) (Nat.le_trans hb hg) u⟩⟩
    rw [← htake]
    simp [List.take_set]
theorem flat_set1 (m : Int) : ∀ (R : List Iv) (i : Nat) (hi : i < R.length), (R.flatMap Iv.cells).set (i * 2 + 1) (.int .i64 m) = (R.set i ⟨R[i].lo, m⟩).flatMap Iv.cells
  | [], i, hi => by simp at hi
  | x :: R, 0, _ => by simp [Iv.cells]
  | x :: R, i + 1, hi => by
    have hi' : i < R.length := by simpa using hi
    have := flat_set1 m R i hi'
    simp only [List.flatMap_cons, List.set_cons_succ, List.getElem_cons_succ]
    rw [← this]
    show (_ :: _ :: _ : List Value).set _ _ = _
    rw [show (i + 1) * 2 + 1 = (i * 2 + 1) + 1 + 1 by omega]
    rfl
theorem flat_setI (y : Iv) : ∀ (R : List Iv) (i : Nat) (hi : i < R.length), ((R.flatMap Iv.cells).set (i * 2) (.int .i64 y.lo)).set (i * 2 + 1) (.int .i64 y.hi) = (R.set i y).flatMap Iv.cells
  | [], i, hi => by simp at hi
  | x :: R, 0, _ => by simp [Iv.cells]
  | x :: R, i + 1, hi => by
    have hi' : i < R.length := by simpa using hi
    have := flat_setI y R i hi'
    simp only [List.flatMap_cons, List.set_cons_succ]
    rw [← this]
    show ((_ :: _ :: _ : List Value).set _ _).set _ _ = _
    rw [show (i + 1) * 2 + 1 = (i * 2 + 1) + 1 + 1 by omega, show (i + 1) * 2 = (i * 2) + 1 + 1 by omega]
    rfl
theorem iv_len (R : List Iv) : (R.flatMap Iv.cells).length = R.length * 2 := flat_len Iv.cells 2 (fun _ => rfl) R
theorem iv_get (R : List Iv) (i : Nat) (hi : i < R.length) : (R.flatMap Iv.cells)[i * 2]? = some (.int .i64 R[i].lo) ∧ (R.flatMap Iv.cells)[i * 2 + 1]? = some (.int .i64 R[i].hi) :=
  ⟨flat_get Iv.cells 2 (fun _ => rfl) R i 0 hi (by decide), flat_get Iv.cells 2 (fun _ => rfl) R i 1 hi (by decide)⟩
/-- The last element's second field is overwritten in place. -/
theorem OR.last {w : World} {b p : Nat} {v : Value} {R : List Iv} (h : OR 39 w b v R) (hp : R.length = p + 1) : ∃ g cap, v = .slice (some ⟨g, 0, none⟩) (p + 1) cap ∧ b ≤ g ∧ g < w.heap.size ∧
    (∀ W, Below w.heap.size w W → W.cell? ⟨g, p * 2, none⟩ = some (.int .i64 (R.getD p ⟨0, 0⟩).lo) ∧ W.cell? ⟨g, p * 2 + 1, none⟩ = some (.int .i64 (R.getD p ⟨0, 0⟩).hi) ∧ ∀ j, W.frozen? ⟨g, j, none⟩ = false) ∧
    (∀ W m, Below w.heap.size w W → OR 39 (W.setCell ⟨g, p * 2 + 1, none⟩ (.int .i64 m)) b v (R.set p ⟨(R.getD p ⟨0, 0⟩).lo, m⟩) ∧ ∀ B w0, Below B w0 W → B ≤ b → Below B w0 (W.setCell ⟨g, p * 2 + 1, none⟩ (.int .i64 m))) := by
  have hr : p < R.length := by omega
  have hx : R.getD p ⟨0, 0⟩ = R[p] := by simp [List.getD, List.getElem?_eq_getElem hr]
  rw [hx]
  obtain ⟨g, cap, rfl, hg, hl, hc, hf, -⟩ := own_setK (i := p * 2 + 1) h (by omega)
  have hg2 := iv_get R p hr
  rw [← hp]
  refine ⟨g, cap, rfl, hg, hl, fun W hW => ⟨keepcell hW ((hc _ (by omega)).trans hg2.1), keepcell hW ((hc _ (by omega)).trans hg2.2), keepfree hl hW hf⟩, fun W m hW => ?_⟩
  have hW' : OR 39 W b _ R := h.below hW
  obtain ⟨g', cap', e, -, -, -, -, hs⟩ := own_setK (i := p * 2 + 1) hW' (by omega)
  injection e with e1 e2 e3
  injection e1 with e1
  injection e1 with e1
  subst e1
  obtain ⟨h1, h2⟩ := hs (.int .i64 m)
  refine ⟨?_, h2⟩
  rw [flat_set1 m R p hr] at h1
  unfold OR
  rw [List.length_set]
  exact h1
def ofStep (acc : List Iv) (x : Iv) : List Iv :=
  if x.emp then acc
  else if acc.length = 0 then acc ++ [x]
  else if (acc.getD (acc.length - 1) ⟨0, 0⟩).apt x then acc ++ [x]
  else acc.set (acc.length - 1) ⟨(acc.getD (acc.length - 1) ⟨0, 0⟩).lo, max (acc.getD (acc.length - 1) ⟨0, 0⟩).hi x.hi⟩
def ofM (T : List Iv) : List Iv := T.foldl ofStep []
theorem of_take (T : List Iv) (k : Nat) (h : k < T.length) : ofM (T.take (k + 1)) = ofStep (ofM (T.take k)) T[k] := by
  unfold ofM
  rw [List.take_succ_eq_append_getElem h, List.foldl_append]
  rfl
theorem getD_mem {R : List Iv} {p : Nat} (h : p < R.length) : R.getD p ⟨0, 0⟩ ∈ R := by
  rw [show R.getD p ⟨0, 0⟩ = R[p] by simp [List.getD, List.getElem?_eq_getElem h]]
  exact List.getElem_mem h
theorem ofStep_ok {acc : List Iv} {x : Iv} (h : ∀ y ∈ acc, y.ok) (hx : x.ok) : ∀ y ∈ ofStep acc x, y.ok := by
  intro y hy
  unfold ofStep at hy
  split at hy
  · exact h y hy
  · have h2 : y ∈ acc ++ [x] → y.ok := fun hy => by
      rcases List.mem_append.1 hy with h1 | h1
      · exact h y h1
      · rw [List.mem_singleton.1 h1]; exact hx
    split at hy
    · exact h2 hy
    · split at hy
      · exact h2 hy
      · rename_i hz _
        have hl := h _ (getD_mem (R := acc) (p := acc.length - 1) (by omega))
        rcases List.mem_or_eq_of_mem_set hy with h1 | h1
        · exact h y h1
        · rw [h1]
          refine ⟨hl.1, ?_⟩
          have a1 := hl.2
          have a2 := hx.2
          show _ ≤ max _ _ ∧ max _ _ ≤ _
          omega
theorem ofStep_len (acc : List Iv) (x : Iv) : (ofStep acc x).length ≤ acc.length + 1 := by
  unfold ofStep
  split
  · omega
  · split
    · simp
    · split <;> simp
end Go.Proofs.Ytnoddkbpdfimmaa
