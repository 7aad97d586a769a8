/- What stays good while a row of inequalities grows. -/
import Derived.Test.YthfolccofjaknaaCap
import Derived.Test.YthfolccofjaknaaCex
namespace Go.Proofs.Ythfolccofjaknaa
open Go.ChangeShapes Go.WideShapes Go.ChangeAt Go.RowKit Go.ChangeMaps

/-- An inequality that stays good when a given block changes. -/
def Sf (w : World) (g : Option Nat) (N : Nat) (q : Iq) : Prop := ∀ w', w.grownBy w' g → q.ok w' N
theorem grownBy_refl (w : World) (g : Option Nat) : w.grownBy w g := ⟨rfl, rfl, rfl, Nat.le_refl _, fun _ _ _ => rfl⟩
theorem Sf.ok {w : World} {g : Option Nat} {N : Nat} {q : Iq} (h : Sf w g N q) : q.ok w N := h w (grownBy_refl w g)
theorem Sf.below {w w1 : World} {g : Option Nat} {N : Nat} {q : Iq} (h : Sf w g N q) (hb : Below w.heap.size w w1) : Sf w1 g N q := fun w2 h2 =>
  h w2 ⟨h2.os.trans hb.os, h2.tape.trans hb.tape, h2.output.trans hb.output, Nat.le_trans hb.size h2.size, fun k hk hne => (h2.block k (Nat.lt_of_lt_of_le hk hb.size) hne).trans (hb.block k hk)⟩
theorem Sf.grow {w w1 : World} {g g' : Option Nat} {N : Nat} {q : Iq} (h : Sf w g N q) (hg : w.grownBy w1 g) (hgg : g' = g ∨ ∀ k, g' = some k → w.heap.size ≤ k) : Sf w1 g' N q := fun w2 h2 =>
  h w2 ⟨h2.os.trans hg.os, h2.tape.trans hg.tape, h2.output.trans hg.output, Nat.le_trans hg.size h2.size, fun k hk hne => by
    refine (h2.block k (Nat.lt_of_lt_of_le hk hg.size) ?_).trans (hg.block k hk hne)
    rcases hgg with rfl | hgg
    · exact hne
    · intro e
      have := hgg k e.symm
      omega⟩
/-- What lies below is not reached by a row of one's own. -/
theorem Sf.of_below {w w1 : World} {g : Option Nat} {N : Nat} {q : Iq} (h : q.ok w N) (hb : Below w.heap.size w w1) (hg : ∀ k, g = some k → w.heap.size ≤ k) : Sf w1 g N q := fun w2 h2 =>
  h.below ⟨h2.os.trans hb.os, h2.tape.trans hb.tape, h2.output.trans hb.output, Nat.le_trans hb.size h2.size, fun k hk => (h2.block k (Nat.lt_of_lt_of_le hk hb.size) (fun e => by have := hg k e.symm; omega)).trans (hb.block k hk)⟩
theorem Own.avoid {w w' : World} {B : Nat} {g : Option Nat} {A : Option Addr} {n : Nat} {D : List Nat} (h : Own w B A n D) (hw : w.grownBy w' g) (hg : ∀ k, g = some k → k < B) : Own w' B A n D :=
  ⟨h.1, h.2.1, fun hn => by
    obtain ⟨g2, off, cs, e, hb, hk, hc⟩ := h.2.2 hn
    exact ⟨g2, off, cs, e, hb, (hw.block _ hk.lt (fun e => by have := hg g2 e.symm; omega)).trans hk, hc⟩⟩
theorem NB.avoid {w w' : World} {B N : Nat} {g : Option Nat} {v : Value} {z : Int} (h : NB w B v z N) (hw : w.grownBy w' g) (hg : ∀ k, g = some k → k < B) : NB w' B v z N :=
  let ⟨A, n, c, D, e, ho, hs, hn, hv, hN⟩ := h; ⟨A, n, c, D, e, ho.avoid hw hg, hs, hn, hv, hN⟩
theorem Sf.of_new {w : World} {B N : Nat} {g : Option Nat} {q : Iq} (h : IqO w B q N) (hg : ∀ k, g = some k → k < B) : Sf w g N q := fun w2 h2 => by
  refine IqO.ok (B := B) ⟨h.1, h.2.1, ?_, h.2.2.2.avoid h2 hg⟩
  rcases h.2.2.1 with hr | ⟨g', e, hr⟩
  · exact .inl hr
  · exact .inr ⟨g', e, hr.1, (h2.block _ hr.2.1.lt (fun e => by have := hg g' e.symm; have := hr.1; omega)).trans hr.2.1, fun b hb => (hr.2.2 b hb).avoid h2 hg⟩
theorem Sf.wide {w : World} {g : Option Nat} {N N' : Nat} {q : Iq} (h : Sf w g N q) (hN : N ≤ N') : Sf w g N' q := fun w' hw => by
  have := h w' hw
  exact ⟨⟨this.1.1, this.1.2.1, fun b hb => (this.1.2.2 b hb).mono hN⟩, this.2.mono hN⟩
/-- A row of inequalities of one's own as it is read. -/
theorem own_at {w : World} {B : Nat} {v : Value} {Q : List Iq} (h : w.ownsRow B 44 3 v Q.length (Q.flatMap Iq.cells)) : ∃ A c, v = .slice A Q.length c ∧ At w A Q.length 3 (Q.flatMap Iq.cells) := by
  obtain ⟨hl, ⟨rfl, h0⟩ | ⟨g, cap, cur, rfl, hg, hh, hc, -, hs, ht⟩⟩ := h
  · exact ⟨none, 0, by rw [h0], hl, fun h => by omega⟩
  · refine ⟨some ⟨g, 0, none⟩, cap, rfl, hl, fun _ => ⟨g, 0, rfl, (Array.getElem?_eq_some_iff.1 hh).1, fun j u hu => ?_⟩⟩
    rw [Nat.zero_add, cell_of_row w g j cur 44 (0, 0) hh, ← Array.getElem?_toList]
    rw [← ht, List.getElem?_take] at hu
    split at hu
    · exact hu
    · cases hu
theorem stepsM_snoc (S : List (List (Int × Int) × Int)) (k : Nat) (hk : k < S.length) (l : List QI) : stepsM (S.drop k) l = match applyM l S[k].1 S[k].2 with | none => none | some q => stepsM (S.drop (k + 1)) (l ++ [q]) := by
  rw [List.drop_eq_getElem_cons hk, stepsM]
  cases applyM l S[k].1 S[k].2 <;> rfl
end Go.Proofs.Ythfolccofjaknaa
