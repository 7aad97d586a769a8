/- The matrix in memory: has, New. -/
import Derived.Test.YtbmofagaammgmaaDmk
import Derived.Test.YtbmofagaammgmaaApp
import Derived.Deep.Cut
namespace Go.Proofs.Ytbmofagaammgmaa
open Go.ChangeShapes Go.WideShapes Go.ChangeAt Go.RowKit Go.ChangeMaps

def bdV (q : Int × Int) : Value := .agg #[.int .i64 q.1, .int .i64 q.2]
def pcells (p : Int × Int) : List Value := [.int .i64 p.1, .int .i64 p.2]
/-- What a system is: its pairs, their least constants and positions, and how many were added. -/
structure St where
  P : List (Int × Int)
  f : Int × Int → Option (Int × Int)
  a : Nat
/-- Cells blocks that belong to no matrix are kept. -/
structure KT (w w' : World) : Prop where
  os : w'.os = w.os
  tape : w'.tape = w.tape
  output : w'.output = w.output
  size : w.heap.size ≤ w'.heap.size
  block : ∀ (k : Nat) (cs : Array Value) (t : TypeId) (z : Nat × Nat), w.heap[k]? = some (.cells cs t z) → t ≠ 71 → t ≠ 72 → w'.heap[k]? = some (.cells cs t z)
theorem KT.refl (w : World) : KT w w := ⟨rfl, rfl, rfl, Nat.le_refl _, fun _ _ _ _ h _ _ => h⟩
theorem KT.trans {w w' w'' : World} (h : KT w w') (k : KT w' w'') : KT w w'' := ⟨k.os.trans h.os, k.tape.trans h.tape, k.output.trans h.output, Nat.le_trans h.size k.size, fun i cs t z e a b => k.block i cs t z (h.block i cs t z e a b) a b⟩
theorem KT.of_below {w w' : World} (h : Below w.heap.size w w') : KT w w' := ⟨h.os, h.tape, h.output, h.size, fun k cs t z e _ _ => (h.block k (Array.getElem?_eq_some_iff.1 e).1).trans e⟩
theorem KT.of_grown {w w' : World} {row : Option Nat} (hg : w.grownBy w' row) (hr : ∀ b, row = some b → ∀ (cs : Array Value) (t : TypeId) (z : Nat × Nat), w.heap[b]? = some (.cells cs t z) → t = 71 ∨ t = 72) : KT w w' :=
  ⟨hg.os, hg.tape, hg.output, hg.size, fun k cs t z e h1 h2 => (hg.block k (Array.getElem?_eq_some_iff.1 e).1 (fun e2 => by rcases hr k e2.symm cs t z e with h | h; exact h1 h; exact h2 h)).trans e⟩
structure MX (w : World) (B g n : Nat) (s : St) : Prop where
  all : ∃ (bm : Nat) (v : Value) (M z : Nat), Blk w g 71 #[.int .i64 (n : Int), .map (some bm), v, .int .i64 (s.a : Int)] ∧ B ≤ g ∧ B ≤ bm ∧ MG PK w bm M z (fun p => (s.f p).map bdV) ∧ M ≤ s.a ∧ w.ownsRow B 72 2 v s.P.length (s.P.flatMap pcells)
  ok : ∀ p ∈ s.P, (0 ≤ p.1 ∧ p.1 ≤ (n : Int)) ∧ 0 ≤ p.2 ∧ p.2 ≤ (n : Int)
  dom : ∀ p, (s.f p).isSome = true ↔ p ∈ s.P
  lim : ∀ p q, s.f p = some q → -1125899906842624 ≤ q.1 ∧ q.1 ≤ 1125899906842624 ∧ 0 ≤ q.2 ∧ q.2 < (s.a : Int)
  len : s.P.length ≤ s.a
  a : s.a ≤ 100000
  n : n ≤ 64
theorem MX.below {w w' : World} {B g n : Nat} {s : St} (h : MX w B g n s) (hb : Below w.heap.size w w') : MX w' B g n s := by
  obtain ⟨⟨bm, v, M, z, h1, h2, h3, h4, h5, h6⟩, r1, r2, r3, r4, r5, r6⟩ := h
  exact ⟨⟨bm, v, M, z, h1.below hb, h2, h3, h4.below hb, h5, own_below h6 hb⟩, r1, r2, r3, r4, r5, r6⟩
theorem has_any (w : World) (g n : Nat) (m v a : Value) (h : Blk w g 71 #[.int .i64 (n : Int), m, v, a]) (i : Int) : Calls Try.prog 28 #[.pointer (some ⟨g, 0, none⟩), .int .i64 i] w fun e w' => e = .returned (.bool (decide (0 ≤ i) && decide (i ≤ (n : Int)))) ∧ w' = w := by
  have c0 : w.cell? ⟨g, 0, none⟩ = some (.int .i64 (n : Int)) := h.cell 0
  clear h
  by_cases h0 : 0 ≤ i
  · by_cases h1 : i ≤ (n : Int)
    · go_enter Try.func28, Try.ntmps28
      go_wp2
      go_ret
      exact ⟨by simp [h0, h1], rfl⟩
    · go_enter Try.func28, Try.ntmps28
      go_wp2
      go_ret
      exact ⟨by simp [h1], rfl⟩
  · go_enter Try.func28, Try.ntmps28
    go_wp2
    go_ret
    exact ⟨by rw [show decide (0 ≤ i) = false from decide_eq_false (by omega)]; rfl, rfl⟩
theorem New_bad (w : World) (n : Int) (h : n < 0 ∨ n > 64) : Calls Try.prog 25 #[.int .i64 n] w fun e w' => e = .returned (.tuple #[.pointer none, .int .i64 1]) ∧ w' = w := by
  by_cases h0 : n < 0
  · go_enter Try.func25, Try.ntmps25
    go_wp2
    go_ret2
    exact ⟨rfl, rfl⟩
  · have h1 : n > 64 := by omega
    go_enter Try.func25, Try.ntmps25
    go_wp2
    go_ret2
    exact ⟨rfl, rfl⟩
theorem New_any (w : World) (n : Nat) (h : n ≤ 64) : Calls Try.prog 25 #[.int .i64 (n : Int)] w fun e w' => ∃ g, e = .returned (.tuple #[.pointer (some ⟨g, 0, none⟩), .int .i64 0]) ∧ MX w' w.heap.size g n ⟨[], fun _ => none, 0⟩ ∧ Below w.heap.size w w' := by
  have hmm := @run_makeMap Try.prog
  have h0 : ¬ ((n : Int) < 0) := by omega
  have h1 : ¬ ((n : Int) > 64) := by omega
  have H := Lib.hid h
  clear h
  go_enter Try.func25, Try.ntmps25
  go_wp2
  go_ret2
  refine ⟨_, rfl, ⟨⟨w.heap.size, .slice none 0 0, 0, 0, Blk.new_ (by simp) rfl, by omega, Nat.le_refl _, ?_, Nat.le_refl _, World.ownsRow_nil _ _ _ _⟩, fun p hp => (by cases hp), fun p => by simp, fun p q hq => (by cases hq), Nat.le_refl _, by simp, H.out⟩, ((Below.refl _ w).alloc (Nat.le_refl _) _).alloc (by simp) _⟩
  exact (MG.made (V := PK) w).alloc _
end Go.Proofs.Ytbmofagaammgmaa
