/- Operations in memory. -/
import Derived.Test.YthdkcmbdbdhedaaAwk
namespace Go.Proofs.Ythdkcmbdbdhedaa
open Go.ChangeShapes Go.WideShapes Go.ChangeAt Go.RowKit Go.ChangeMaps

structure OpM where
  k : Int
  s : Int
  n : Int
  A : Option Addr
  m : Nat
  c : Nat
  d : List UInt8
def OpM.ok (o : OpM) : Prop := o.s ≤ 9223372036854775807 ∧ o.m ≤ o.c ∧ o.c ≤ 9223372036854775807 ∧ -9223372036854775808 ≤ o.s
/-- An operation in memory. -/
def OpAt (w : World) (b o : Nat) (x : OpM) : Prop :=
  w.cell? ⟨b, o, none⟩ = some (.int .i64 x.k) ∧ w.cell? ⟨b, o + 1, none⟩ = some (.int .i64 x.s) ∧ w.cell? ⟨b, o + 2, none⟩ = some (.int .i64 x.n) ∧ w.cell? ⟨b, o + 3, none⟩ = some (.slice x.A x.m x.c) ∧ BytesAt w x.A x.m x.d ∧ x.ok
def OpsAt (w : World) (A : Option Addr) (n : Nat) (L : List OpM) : Prop := L.length = n ∧ (0 < n → ∃ b off, A = some ⟨b, off, none⟩ ∧ b < w.heap.size ∧ ∀ i (h : i < L.length), OpAt w b (off + i * 4) L[i])
theorem OpAt.below {w w' : World} {b o : Nat} {x : OpM} (h : OpAt w b o x) (hb : Below w.heap.size w w') : OpAt w' b o x :=
  ⟨keepcell hb h.1, keepcell hb h.2.1, keepcell hb h.2.2.1, keepcell hb h.2.2.2.1, h.2.2.2.2.1.below hb, h.2.2.2.2.2⟩
theorem OpsAt.below {w w' : World} {A : Option Addr} {n : Nat} {L : List OpM} (h : OpsAt w A n L) (hb : Below w.heap.size w w') : OpsAt w' A n L := ⟨h.1, fun hn => by
  obtain ⟨b, off, e, hl, hc⟩ := h.2 hn
  exact ⟨b, off, e, Nat.lt_of_lt_of_le hl hb.size, fun i hi => (hc i hi).below hb⟩⟩
theorem bytes_trod {H : Type} {enc : TypeId × Value → H} {W : World} {v : Value} {fuel : Nat} {y : DataW H × List MemPlace} (h : DataW.trod enc Try.prog W 0 (fun _ => true) true fuel 34 [v] = some y) (hlt : ∀ x ∈ y.2, x.block < W.heap.size) :
    ∃ (A : Option Addr) (n c : Nat) (l : List UInt8), v = .slice A n c ∧ BytesAt W A n l ∧ n ≤ c ∧ c ≤ 9223372036854775807 := by
  rcases open_ints Try.underlying34 Try.underlying5 Try.cells5 h with ⟨hcs, hx⟩ | ⟨a, len, cap, zs, hcs, _, hl, hm, hz, hx, hcell, hwz⟩
  · obtain rfl : v = .slice none 0 0 := by simpa using hcs
    exact ⟨_, _, _, [], rfl, ⟨rfl, fun h => absurd h (by omega)⟩, by omega, by omega⟩
  · obtain rfl : v = .slice (some a) len cap := by simpa using hcs
    simp only [if_true] at hz
    subst hx
    unfold maxLen at hm
    refine ⟨_, _, _, (zs.take len).map u8, rfl, ⟨by rw [List.length_map, List.length_take]; omega, fun hn => ?_⟩, hl, by omega⟩
    obtain ⟨b, off, spot⟩ := a
    have hspot : spot = none := by simpa [Addr.add] using World.cell?_spot (hcell 0 (by omega))
    subst hspot
    refine ⟨b, off, rfl, hlt (.cell b off) (MemPlace.mem_row.2 ⟨0, by omega, by simp⟩), fun i hi => ?_⟩
    have hi2 : i < zs.length := by rw [List.length_map, List.length_take] at hi; omega
    have := hcell i hi2
    rw [add_plain] at this
    rw [this]
    obtain ⟨g0, g1⟩ := u8_bd (hwz zs[i] (List.getElem_mem _))
    simp only [List.getElem_map, List.getElem_take, u8_toNat _ g0 (by omega)]
    simp [List.getD, List.getElem?_eq_getElem hi2]
theorem Try.cells48 : Try.prog.cellsOf 48 = 4 := by kernel_rfl
set_option maxRecDepth 100000 in
theorem open_Ops {H : Type} {enc : TypeId × Value → H} {W : World} {r : Reach} {b0 : Nat} {v : Value} {d : DataW H} {p : List MemPlace}
    (hv : Value.okWide Try.prog W r b0 22 v) (h : DataW.Trod enc Try.prog W 0 (fun _ => true) true 22 v d p) (hlt : ∀ x ∈ p, x.block < W.heap.size) :
    ∃ (A : Option Addr) (n c : Nat) (R : List OpM), v = .slice A n c ∧ OpsAt W A n R ∧ n ≤ 9223372036854775807 := by
  obtain ⟨a0, len, cap, rfl⟩ := okWide_slice Try.underlying22 hv
  obtain ⟨fuel, hf⟩ := h
  rcases open_slice_fields Try.underlying22 Try.underlying48 (by kernel_rfl) Try.cells48 hf with ⟨hcs, hx⟩ | ⟨a, len', cap', m, D, Pl, hcs, _, hl, hm, hmm, hx, hi⟩
  · simp [Value.cells] at hcs
    obtain ⟨rfl, rfl, rfl⟩ := hcs
    exact ⟨_, _, _, [], rfl, ⟨rfl, fun h => absurd h (by omega)⟩, by omega⟩
  · simp [Value.cells] at hcs
    obtain ⟨rfl, rfl, rfl⟩ := hcs
    simp only [if_true] at hmm
    subst hmm
    simp only [Prod.mk.injEq] at hx
    obtain ⟨rfl, rfl⟩ := hx
    unfold maxLen at hm
    have key : ∀ i, i < len → ∃ x : OpM, x.ok ∧ W.cell? (a.add (i * 4 + 0)) = some (.int .i64 x.k) ∧ W.cell? (a.add (i * 4 + 1)) = some (.int .i64 x.s) ∧ W.cell? (a.add (i * 4 + 2)) = some (.int .i64 x.n) ∧ W.cell? (a.add (i * 4 + 3)) = some (.slice x.A x.m x.c) ∧ BytesAt W x.A x.m x.d := by
      intro i hil
      obtain ⟨ys, nn, hD, hP, hyl, hfs⟩ := hi i (by omega)
      obtain ⟨v0, y0, e0, k0, t0⟩ := hfs 0 _ rfl
      obtain ⟨v1, y1, e1, k1, t1⟩ := hfs 1 _ rfl
      obtain ⟨v2, y2, e2, k2, t2⟩ := hfs 2 _ rfl
      obtain ⟨v3, y3, e3, k3, t3⟩ := hfs 3 _ rfl
      obtain ⟨x0, g0, _, w0⟩ := DataW.trod_int Try.underlying3 t0
      obtain rfl : v0 = .int .i64 x0 := by simpa using g0
      obtain ⟨x1, g1, _, w1⟩ := DataW.trod_int Try.underlying3 t1
      obtain rfl : v1 = .int .i64 x1 := by simpa using g1
      obtain ⟨x2, g2, _, w2⟩ := DataW.trod_int Try.underlying3 t2
      obtain rfl : v2 = .int .i64 x2 := by simpa using g2
      obtain ⟨A, n, c, l, rfl, hB, h1, h2⟩ := bytes_trod t3 (fun x hx => hlt x (by
        refine List.mem_append_right _ (List.mem_flatMap.2 ⟨i, List.mem_range.2 (by omega), ?_⟩)
        rw [hP]
        exact List.mem_flatMap.2 ⟨y3, List.mem_of_getElem? k3, hx⟩))
      exact ⟨⟨x0, x1, x2, A, n, c, l⟩, ⟨(i64_bd w1).2, h1, h2, (i64_bd w1).1⟩, e0, e1, e2, e3, hB⟩
    have pick : ∃ f : Nat → OpM, ∀ i, i < len → (f i).ok ∧ W.cell? (a.add (i * 4 + 0)) = some (.int .i64 (f i).k) ∧ W.cell? (a.add (i * 4 + 1)) = some (.int .i64 (f i).s) ∧ W.cell? (a.add (i * 4 + 2)) = some (.int .i64 (f i).n) ∧ W.cell? (a.add (i * 4 + 3)) = some (.slice (f i).A (f i).m (f i).c) ∧ BytesAt W (f i).A (f i).m (f i).d :=
      ⟨fun i => if h : i < len then Classical.choose (key i h) else ⟨0, 0, 0, none, 0, 0, []⟩, fun i h => by simp only [dif_pos h]; exact Classical.choose_spec (key i h)⟩
    obtain ⟨f, hfp⟩ := pick
    refine ⟨_, _, _, (List.range len).map f, rfl, ⟨by simp, fun hn => ?_⟩, by omega⟩
    obtain ⟨b, off, spot⟩ := a
    have hspot : spot = none := by simpa [Addr.add] using World.cell?_spot (hfp 0 hn).2.1
    subst hspot
    refine ⟨b, off, rfl, hlt (.cell b off) (List.mem_append_left _ (MemPlace.mem_row.2 ⟨0, by simp; omega, by simp⟩)), fun i hi => ?_⟩
    have hi2 : i < len := by simpa using hi
    obtain ⟨q0, q1, q2, q3, q4, q5⟩ := hfp i hi2
    simp only [add_plain] at q1 q2 q3 q4
    simp only [List.getElem_map, List.getElem_range]
    exact ⟨by simpa using q1, by simpa [Nat.add_assoc] using q2, by simpa [Nat.add_assoc] using q3, by simpa [Nat.add_assoc] using q4, q5, q0⟩
end Go.Proofs.Ythdkcmbdbdhedaa
