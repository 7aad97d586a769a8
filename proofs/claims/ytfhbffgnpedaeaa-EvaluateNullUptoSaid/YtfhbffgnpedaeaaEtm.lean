/- Expressions as trees. -/
import Derived.Test.YtfhbffgnpedaeaaEvr
namespace Go.Proofs.Ytfhbffgnpedaeaa
open Go.ChangeShapes Go.WideShapes Go.ChangeAt Go.RowKit Go.ChangeMaps

inductive Ex where
  | mk (op : Int) (tb nm : ByteArray) (ix : Int) (v : V3) (A : Option Addr) (c : Nat) (args : List Ex)
def Ex.op : Ex → Int | .mk op _ _ _ _ _ _ _ => op
def Ex.tb : Ex → ByteArray | .mk _ tb _ _ _ _ _ _ => tb
def Ex.nm : Ex → ByteArray | .mk _ _ nm _ _ _ _ _ => nm
def Ex.ix : Ex → Int | .mk _ _ _ ix _ _ _ _ => ix
def Ex.v : Ex → V3 | .mk _ _ _ _ v _ _ _ => v
def Ex.A : Ex → Option Addr | .mk _ _ _ _ _ A _ _ => A
def Ex.c : Ex → Nat | .mk _ _ _ _ _ _ c _ => c
def Ex.args : Ex → List Ex | .mk _ _ _ _ _ _ _ args => args
def Ex.cells (x : Ex) : List Value := [.int .i64 x.op, .string x.tb, .string x.nm, .int .i64 x.ix, .int .i64 x.v.k, .int .i64 x.v.n, .string x.v.s, .slice x.A x.args.length x.c]
def Ex.agg (x : Ex) : Value := .agg #[.int .i64 x.op, .string x.tb, .string x.nm, .int .i64 x.ix, .int .i64 x.v.k, .int .i64 x.v.n, .string x.v.s, .slice x.A x.args.length x.c]
def V3.ok (x : V3) : Prop := -9223372036854775808 ≤ x.k ∧ x.k ≤ 9223372036854775807 ∧ -9223372036854775808 ≤ x.n ∧ x.n ≤ 9223372036854775807 ∧ x.s.size ≤ 4611686018427387904
inductive ExAt (w : World) : Ex → Prop
  | mk (x : Ex) : At w x.A x.args.length 8 (x.args.flatMap Ex.cells) → x.args.length ≤ 9223372036854775807 → x.v.ok → (∀ y ∈ x.args, ExAt w y) → ExAt w x
theorem ExAt.keep {w w' : World} (hb : Below w.heap.size w w') {x : Ex} (h : ExAt w x) : ExAt w' x := by
  induction h with
  | mk x ha hn hv _ ih => exact .mk x (ha.below hb) hn hv ih
theorem ExAt.own {w : World} {x : Ex} (h : ExAt w x) : At w x.A x.args.length 8 (x.args.flatMap Ex.cells) := by cases h with | mk _ ha _ _ _ => exact ha
theorem ExAt.arg {w : World} {x : Ex} (h : ExAt w x) : ∀ y ∈ x.args, ExAt w y := by cases h with | mk _ _ _ _ hy => exact hy
theorem ExAt.len {w : World} {x : Ex} (h : ExAt w x) : x.args.length ≤ 9223372036854775807 := by cases h with | mk _ _ hn _ _ => exact hn
theorem ExAt.val {w : World} {x : Ex} (h : ExAt w x) : x.v.ok := by cases h with | mk _ _ _ hv _ => exact hv
theorem ExAt.at {w : World} {x : Ex} (h : ExAt w x) (hn : 0 < x.args.length) : ∃ b off, x.A = some ⟨b, off, none⟩ ∧ b < w.heap.size ∧ ∀ (W : World), Below w.heap.size w W → ∀ i (hi : i < x.args.length),
    W.cell? ⟨b, off + i * 8, none⟩ = some (.int .i64 x.args[i].op) ∧ W.cell? ⟨b, off + i * 8 + 1, none⟩ = some (.string x.args[i].tb) ∧ W.cell? ⟨b, off + i * 8 + 2, none⟩ = some (.string x.args[i].nm) ∧ W.cell? ⟨b, off + i * 8 + 3, none⟩ = some (.int .i64 x.args[i].ix) ∧ W.cell? ⟨b, off + i * 8 + 4, none⟩ = some (.int .i64 x.args[i].v.k) ∧ W.cell? ⟨b, off + i * 8 + 5, none⟩ = some (.int .i64 x.args[i].v.n) ∧ W.cell? ⟨b, off + i * 8 + 6, none⟩ = some (.string x.args[i].v.s) ∧ W.cell? ⟨b, off + i * 8 + 7, none⟩ = some (.slice x.args[i].A x.args[i].args.length x.args[i].c) := by
  obtain ⟨b, off, e, hb, hc⟩ := h.own.2 hn
  refine ⟨b, off, e, hb, fun W hW i hi => ?_⟩
  have g : ∀ j u, j < 8 → (x.args[i].cells)[j]? = some u → W.cell? ⟨b, off + i * 8 + j, none⟩ = some u := fun j u hj hu => by
    rw [Nat.add_assoc]
    exact keepcell hW (hc _ _ ((flat_get Ex.cells 8 (fun _ => rfl) x.args i j hi hj).trans hu))
  exact ⟨g 0 _ (by decide) rfl, g 1 _ (by decide) rfl, g 2 _ (by decide) rfl, g 3 _ (by decide) rfl, g 4 _ (by decide) rfl, g 5 _ (by decide) rfl, g 6 _ (by decide) rfl, g 7 _ (by decide) rfl⟩
theorem Ex.lt {x y : Ex} (h : y ∈ x.args) : SizeOf.sizeOf y < SizeOf.sizeOf x := by
  obtain ⟨op, tb, nm, ix, v, A, c, args⟩ := x
  have h1 := List.sizeOf_lt_of_mem h
  simp only [Ex.args] at h1
  simp only [Ex.mk.sizeOf_spec]
  omega
/-- Every expression: the same of each operand. -/
theorem Ex.ind {p : Ex → Prop} (h : ∀ x : Ex, (∀ y ∈ x.args, p y) → p x) (x : Ex) : p x := by
  have key : ∀ (n : Nat) (x : Ex), SizeOf.sizeOf x < n → p x := by
    intro n
    induction n with
    | zero => intro x hx; omega
    | succ n ih => intro x hx; exact h x fun y hy => ih y (by have := Ex.lt hy; omega)
  exact key _ x (Nat.lt_succ_self _)
def Vls (w : World) (A : Option Addr) (n : Nat) (R : List V3) : Prop := At w A n 3 (R.flatMap V3.cells)
theorem Vls.len {w : World} {A : Option Addr} {n : Nat} {R : List V3} (h : Vls w A n R) : R.length = n := by
  have h1 := h.1
  rw [flat_len V3.cells 3 (fun _ => rfl)] at h1
  omega
theorem Vls.below {w w' : World} {A : Option Addr} {n : Nat} {R : List V3} (h : Vls w A n R) (hb : Below w.heap.size w w') : Vls w' A n R := At.below h hb
theorem Vls.at {w : World} {A : Option Addr} {n : Nat} {R : List V3} (h : Vls w A n R) (hn : 0 < n) : ∃ b off, A = some ⟨b, off, none⟩ ∧ b < w.heap.size ∧ ∀ (W : World), Below w.heap.size w W → ∀ i (hi : i < R.length),
    W.cell? ⟨b, off + i * 3, none⟩ = some (.int .i64 R[i].k) ∧ W.cell? ⟨b, off + i * 3 + 1, none⟩ = some (.int .i64 R[i].n) ∧ W.cell? ⟨b, off + i * 3 + 2, none⟩ = some (.string R[i].s) := by
  obtain ⟨b, off, e, hb, hc⟩ := h.2 hn
  refine ⟨b, off, e, hb, fun W hW i hi => ?_⟩
  have g : ∀ j u, j < 3 → (R[i].cells)[j]? = some u → W.cell? ⟨b, off + i * 3 + j, none⟩ = some u := fun j u hj hu => by
    rw [Nat.add_assoc]
    exact keepcell hW (hc _ _ ((flat_get V3.cells 3 (fun _ => rfl) R i j hi hj).trans hu))
  exact ⟨g 0 _ (by decide) rfl, g 1 _ (by decide) rfl, g 2 _ (by decide) rfl⟩
end Go.Proofs.Ytfhbffgnpedaeaa
