/- Actions and lists of actions. -/
import Derived.Test.YthageombfifffaaDoorBas
namespace Go.Proofs.YthageombfifffaaDoor
open Go.ChangeShapes Go.WideShapes Go.ChangeAt Go.RowKit Go.ChangeMaps

structure Act where
  k : Int
  s : Int
  w : Int
  b : Int
def Act.ok (x : Act) : Prop := -9223372036854775808 ≤ x.k ∧ x.k ≤ 9223372036854775807 ∧ -9223372036854775808 ≤ x.s ∧ x.s ≤ 9223372036854775807 ∧ -9223372036854775808 ≤ x.w ∧ x.w ≤ 9223372036854775807 ∧ -9223372036854775808 ≤ x.b ∧ x.b ≤ 9223372036854775807
def Act.cells (x : Act) : List Value := [.int .i64 x.k, .int .i64 x.s, .int .i64 x.w, .int .i64 x.b]
def Act.agg (x : Act) : Value := .agg #[.int .i64 x.k, .int .i64 x.s, .int .i64 x.w, .int .i64 x.b]
/-- A slice that reads as a list. -/
def Acts (w : World) (A : Option Addr) (n : Nat) (R : List Act) : Prop := R.length = n ∧ (0 < n → ∃ b off, A = some ⟨b, off, none⟩ ∧ b < w.heap.size ∧
  ∀ i (h : i < R.length), w.cell? ⟨b, off + i * 4, none⟩ = some (.int .i64 R[i].k) ∧ w.cell? ⟨b, off + i * 4 + 1, none⟩ = some (.int .i64 R[i].s) ∧ w.cell? ⟨b, off + i * 4 + 2, none⟩ = some (.int .i64 R[i].w) ∧ w.cell? ⟨b, off + i * 4 + 3, none⟩ = some (.int .i64 R[i].b))
theorem Acts.below {w w' : World} {A : Option Addr} {n : Nat} {R : List Act} (h : Acts w A n R) (hb : Below w.heap.size w w') : Acts w' A n R :=
  ⟨h.1, fun hn => by
    obtain ⟨b, off, e, hl, hc⟩ := h.2 hn
    exact ⟨b, off, e, Nat.lt_of_lt_of_le hl hb.size, fun i hi => by
      have c := hc i hi
      exact ⟨keepcell hb c.1, keepcell hb c.2.1, keepcell hb c.2.2.1, keepcell hb c.2.2.2⟩⟩⟩
theorem Tryd.cells29 : Tryd.prog.cellsOf 29 = 4 := by kernel_rfl
set_option maxRecDepth 100000 in
theorem open_Act {H : Type} {enc : TypeId × Value → H} {w : World} {base : Nat} {spare : Nat → Bool} {held : Bool} {r : Reach} {b0 : Nat} {v : Value} {d : DataW H} {p : List MemPlace} (hv : Value.okWide Tryd.prog w r b0 29 v) (h : DataW.Trod enc Tryd.prog w base spare held 29 v d p) :
    ∃ x : Act, v = x.agg ∧ x.ok := by
  obtain ⟨vs, rfl, hn, hf⟩ := open_aggN Tryd.underlying29 (by kernel_rfl) Tryd.cells29 hv h
  obtain ⟨v0, y0, m0, e0, h0⟩ := hf 0 _ rfl
  obtain ⟨v1, y1, m1, e1, h1⟩ := hf 1 _ rfl
  obtain ⟨v2, y2, m2, e2, h2⟩ := hf 2 _ rfl
  obtain ⟨v3, y3, m3, e3, h3⟩ := hf 3 _ rfl
  obtain ⟨a0, q0, _, w0⟩ := DataW.trod_int Tryd.underlying3 h0
  obtain rfl : v0 = .int .i64 a0 := by simpa using q0
  obtain ⟨a1, q1, _, w1⟩ := DataW.trod_int Tryd.underlying3 h1
  obtain rfl : v1 = .int .i64 a1 := by simpa using q1
  obtain ⟨a2, q2, _, w2⟩ := DataW.trod_int Tryd.underlying3 h2
  obtain rfl : v2 = .int .i64 a2 := by simpa using q2
  obtain ⟨a3, q3, _, w3⟩ := DataW.trod_int Tryd.underlying3 h3
  obtain rfl : v3 = .int .i64 a3 := by simpa using q3
  refine ⟨⟨a0, a1, a2, a3⟩, ?_, (i64_bd w0).1, (i64_bd w0).2, (i64_bd w1).1, (i64_bd w1).2, (i64_bd w2).1, (i64_bd w2).2, (i64_bd w3).1, (i64_bd w3).2⟩
  have hn : vs.size = 4 := hn
  rcases vs with ⟨l⟩
  match l, hn with
  | [u0, u1, u2, u3], _ =>
    simp at e0 e1 e2 e3
    rw [e0, e1, e2, e3]; rfl
set_option maxRecDepth 100000 in
theorem open_Acts {H : Type} {enc : TypeId × Value → H} {W : World} {r : Reach} {b0 : Nat} {v : Value} {d : DataW H} {p : List MemPlace}
    (hv : Value.okWide Tryd.prog W r b0 24 v) (h : DataW.Trod enc Tryd.prog W 0 (fun _ => true) true 24 v d p) (hlt : ∀ x ∈ p, x.block < W.heap.size) :
    ∃ (A : Option Addr) (n c : Nat) (R : List Act), v = .slice A n c ∧ Acts W A n R ∧ n ≤ 9223372036854775807 ∧ ∀ x ∈ R, x.ok := by
  obtain ⟨a0, len, cap, rfl⟩ := okWide_slice Tryd.underlying24 hv
  obtain ⟨fuel, hf⟩ := h
  rcases open_slice_fields Tryd.underlying24 Tryd.underlying29 (by kernel_rfl) Tryd.cells29 hf with ⟨hcs, hx⟩ | ⟨a, len', cap', m, D, Pl, hcs, _, hl, hm, hmm, hx, hi⟩
  · simp [Value.cells] at hcs
    obtain ⟨rfl, rfl, rfl⟩ := hcs
    exact ⟨_, _, _, [], rfl, ⟨rfl, fun h => absurd h (by omega)⟩, by omega, fun x hx => by cases hx⟩
  · simp [Value.cells] at hcs
    obtain ⟨rfl, rfl, rfl⟩ := hcs
    simp only [if_true] at hmm
    subst hmm
    simp only [Prod.mk.injEq] at hx
    obtain ⟨rfl, rfl⟩ := hx
    unfold maxLen at hm
    have key : ∀ i, i < len → ∃ x : Act, x.ok ∧ W.cell? (a.add (i * 4 + 0)) = some (.int .i64 x.k) ∧ W.cell? (a.add (i * 4 + 1)) = some (.int .i64 x.s) ∧ W.cell? (a.add (i * 4 + 2)) = some (.int .i64 x.w) ∧ W.cell? (a.add (i * 4 + 3)) = some (.int .i64 x.b) := by
      intro i hil
      obtain ⟨ys, nn, hD, _, hyl, hfs⟩ := hi i (by omega)
      obtain ⟨v0, y0, e0, k0, t0⟩ := hfs 0 _ rfl
      obtain ⟨v1, y1, e1, k1, t1⟩ := hfs 1 _ rfl
      obtain ⟨v2, y2, e2, k2, t2⟩ := hfs 2 _ rfl
      obtain ⟨v3, y3, e3, k3, t3⟩ := hfs 3 _ rfl
      obtain ⟨x0, g0, _, w0⟩ := DataW.trod_int Tryd.underlying3 t0
      obtain rfl : v0 = .int .i64 x0 := by simpa using g0
      obtain ⟨x1, g1, _, w1⟩ := DataW.trod_int Tryd.underlying3 t1
      obtain rfl : v1 = .int .i64 x1 := by simpa using g1
      obtain ⟨x2, g2, _, w2⟩ := DataW.trod_int Tryd.underlying3 t2
      obtain rfl : v2 = .int .i64 x2 := by simpa using g2
      obtain ⟨x3, g3, _, w3⟩ := DataW.trod_int Tryd.underlying3 t3
      obtain rfl : v3 = .int .i64 x3 := by simpa using g3
      exact ⟨⟨x0, x1, x2, x3⟩, ⟨(i64_bd w0).1, (i64_bd w0).2, (i64_bd w1).1, (i64_bd w1).2, (i64_bd w2).1, (i64_bd w2).2, (i64_bd w3).1, (i64_bd w3).2⟩, e0, e1, e2, e3⟩
    have pick : ∃ f : Nat → Act, ∀ i, i < len → (f i).ok ∧ W.cell? (a.add (i * 4 + 0)) = some (.int .i64 (f i).k) ∧ W.cell? (a.add (i * 4 + 1)) = some (.int .i64 (f i).s) ∧ W.cell? (a.add (i * 4 + 2)) = some (.int .i64 (f i).w) ∧ W.cell? (a.add (i * 4 + 3)) = some (.int .i64 (f i).b) :=
      ⟨fun i => if h : i < len then Classical.choose (key i h) else ⟨0, 0, 0, 0⟩, fun i h => by simp only [dif_pos h]; exact Classical.choose_spec (key i h)⟩
    obtain ⟨f, hfp⟩ := pick
    refine ⟨_, _, _, (List.range len).map f, rfl, ⟨by simp, fun hn => ?_⟩, by omega, fun x hx => ?_⟩
    · obtain ⟨b, off, spot⟩ := a
      have hspot : spot = none := by
        have := (hfp 0 hn).2.1
        simpa [Addr.add] using World.cell?_spot this
      subst hspot
      refine ⟨b, off, rfl, ?_, fun i hi => ?_⟩
      · exact hlt (.cell b off) (List.mem_append_left _ (MemPlace.mem_row.2 ⟨0, by have : 0 < m := by { omega }; show 0 < m * 4; omega, by simp⟩))
      · have hil : i < len := by simpa using hi
        have := (hfp i hil).2
        simp only [add_plain] at this
        simpa [Nat.add_assoc] using this
    · obtain ⟨i, hi, rfl⟩ := List.mem_map.1 hx
      exact (hfp i (List.mem_range.1 hi)).1
def ActC (L : List Act) : List Value := L.flatMap Act.cells
theorem ActC_len (L : List Act) : (ActC L).length = L.length * 4 := by
  unfold ActC
  induction L with
  | nil => rfl
  | cons a L ih => rw [List.flatMap_cons, List.length_append, ih, List.length_cons]; show 4 + _ = _; omega
theorem ActC_snoc (L : List Act) (a : Act) : ActC (L ++ [a]) = ActC L ++ a.cells := by
  unfold ActC; rw [List.flatMap_append]; simp
theorem ActC_get (L : List Act) (i j : Nat) (hi : i < L.length) (hj : j < 4) : (ActC L)[i * 4 + j]? = L[i].cells[j]? := by
  induction L generalizing i with
  | nil => simp at hi
  | cons a L ih =>
    show (a.cells ++ ActC L)[i * 4 + j]? = _
    have hl : a.cells.length = 4 := rfl
    cases i with
    | zero => rw [List.getElem?_append_left (by rw [hl]; omega)]; simp
    | succ i =>
      rw [List.getElem?_append_right (by rw [hl]; omega), hl, show (i + 1) * 4 + j - 4 = i * 4 + j by omega]
      exact ih i (by simpa using hi)
theorem Acts_own {w : World} {B T : Nat} {v : Value} {n : Nat} {L : List Act} (h : w.ownsRow B T 4 v n (ActC L)) : ∃ A c, v = .slice A n c ∧ Acts w A n L := by
  have hl : L.length = n := by
    have := h.1
    rw [ActC_len] at this
    omega
  rcases h.2 with ⟨rfl, h0⟩ | ⟨g, cap, cur, rfl, hg, hh, hnc, hcap, hsz, htake⟩
  · subst h0
    exact ⟨_, _, rfl, hl, fun h => absurd h (by omega)⟩
  · refine ⟨_, _, rfl, hl, fun _ => ⟨g, 0, rfl, (Array.getElem?_eq_some_iff.1 hh).1, fun i hi => ?_⟩⟩
    have k := fun j (hj : j < 4) => (World.ownsRow.cellAt h (i * 4 + j) (by rw [← hl]; omega)).trans (ActC_get L i j hi hj)
    simp only [Nat.zero_add]
    exact ⟨k 0 (by omega), k 1 (by omega), k 2 (by omega), k 3 (by omega)⟩

theorem Tryd.info29 : (Tryd.prog.info? 29).map (fun i => (i.zero, i.size, i.bytes)) = some (some (.agg #[.int .i64 0, .int .i64 0, .int .i64 0, .int .i64 0]), 4, 32) := by kernel_rfl
end Go.Proofs.YthageombfifffaaDoor
