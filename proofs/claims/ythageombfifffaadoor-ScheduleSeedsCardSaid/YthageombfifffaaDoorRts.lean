/- Rates; random schedules are valid. -/
import Derived.Test.YthageombfifffaaDoorRnd
import Derived.Test.YthageombfifffaaDoorRrd
import Derived.Test.YthageombfifffaaDoorEnv
namespace Go.Proofs.YthageombfifffaaDoor
open Go.ChangeShapes Go.WideShapes Go.ChangeAt Go.RowKit Go.ChangeMaps

structure Rates where
  ck : Int
  cr : Int
def Rates.ok (x : Rates) : Prop := -9223372036854775808 ≤ x.ck ∧ x.ck ≤ 9223372036854775807 ∧ -9223372036854775808 ≤ x.cr ∧ x.cr ≤ 9223372036854775807
def Rates.cells (x : Rates) : List Value := [.int .i64 x.ck, .int .i64 x.cr]
def Rates.agg (x : Rates) : Value := .agg #[.int .i64 x.ck, .int .i64 x.cr]
/-- A slice that reads as a list. -/
def Ratess (w : World) (A : Option Addr) (n : Nat) (R : List Rates) : Prop := R.length = n ∧ (0 < n → ∃ b off, A = some ⟨b, off, none⟩ ∧ b < w.heap.size ∧
  ∀ i (h : i < R.length), w.cell? ⟨b, off + i * 2, none⟩ = some (.int .i64 R[i].ck) ∧ w.cell? ⟨b, off + i * 2 + 1, none⟩ = some (.int .i64 R[i].cr))
theorem Ratess.below {w w' : World} {A : Option Addr} {n : Nat} {R : List Rates} (h : Ratess w A n R) (hb : Below w.heap.size w w') : Ratess w' A n R :=
  ⟨h.1, fun hn => by
    obtain ⟨b, off, e, hl, hc⟩ := h.2 hn
    exact ⟨b, off, e, Nat.lt_of_lt_of_le hl hb.size, fun i hi => by
      have c := hc i hi
      exact ⟨keepcell hb c.1, keepcell hb c.2⟩⟩⟩
theorem Tryd.cells32 : Tryd.prog.cellsOf 32 = 2 := by kernel_rfl
set_option maxRecDepth 100000 in
theorem open_Rates {H : Type} {enc : TypeId × Value → H} {w : World} {base : Nat} {spare : Nat → Bool} {held : Bool} {r : Reach} {b0 : Nat} {v : Value} {d : DataW H} {p : List MemPlace} (hv : Value.okWide Tryd.prog w r b0 32 v) (h : DataW.Trod enc Tryd.prog w base spare held 32 v d p) :
    ∃ x : Rates, v = x.agg ∧ x.ok := by
  obtain ⟨vs, rfl, hn, hf⟩ := open_aggN Tryd.underlying32 (by kernel_rfl) Tryd.cells32 hv h
  obtain ⟨v0, y0, m0, e0, h0⟩ := hf 0 _ rfl
  obtain ⟨v1, y1, m1, e1, h1⟩ := hf 1 _ rfl
  obtain ⟨a0, q0, _, w0⟩ := DataW.trod_int Tryd.underlying3 h0
  obtain rfl : v0 = .int .i64 a0 := by simpa using q0
  obtain ⟨a1, q1, _, w1⟩ := DataW.trod_int Tryd.underlying3 h1
  obtain rfl : v1 = .int .i64 a1 := by simpa using q1
  refine ⟨⟨a0, a1⟩, ?_, (i64_bd w0).1, (i64_bd w0).2, (i64_bd w1).1, (i64_bd w1).2⟩
  have hn : vs.size = 2 := hn
  rcases vs with ⟨l⟩
  match l, hn with
  | [u0, u1], _ =>
    simp at e0 e1
    rw [e0, e1]; rfl

theorem u8_bd {n : Int} (h : (Lit.int .u8 n).wf = true) : 0 ≤ n ∧ n ≤ 255 := by
  have h1 : IntKind.u8.min = 0 := rfl
  have h2 : IntKind.u8.max = 255 := rfl
  simp only [Lit.wf, Bool.and_eq_true, decide_eq_true_eq, h1, h2] at h
  exact h
theorem rK_valid (S ck cr st : Int) (op : Bool) (h0 : 0 < S) : vA (rK S ck cr st op).1 S = true := by
  have k1 := nR_bd (nS st) S h0
  have k2 := nR_bd (nS st) 6 (by omega)
  have k3 := nR_bd (nS (nS st)) 65 (by omega)
  unfold rK
  split
  · simp [vA]
  · split
    · split
      · simp [vA]
      · simp [vA]; omega
    · split
      · simp [vA]
      · simp [vA]; omega
theorem rL_valid (S ck cr seed : Int) (m : Nat) (h0 : 0 < S) : ((rL S ck cr seed m).all fun a => vA a S) = true := by
  rw [List.all_eq_true]
  intro x hx
  unfold rL at hx
  obtain ⟨i, _, rfl⟩ := List.mem_map.1 hx
  exact rK_valid _ _ _ _ _ h0
theorem keepR {g : Nat} {x y : Value} {W w1 w2 : World} (h : w1.cell? ⟨g, 0, none⟩ = some x ∧ w1.cell? ⟨g, 1, none⟩ = some y ∧ Below W.heap.size W w1) (hb : Below w1.heap.size w1 w2) : w2.cell? ⟨g, 0, none⟩ = some x ∧ w2.cell? ⟨g, 1, none⟩ = some y ∧ Below W.heap.size W w2 :=
  ⟨keepcell hb h.1, keepcell hb h.2.1, more_below h.2.2 hb⟩
theorem keepRd {g : Nat} {x y : Value} {W w1 : World} (h : w1.cell? ⟨g, 0, none⟩ = some x ∧ w1.cell? ⟨g, 1, none⟩ = some y ∧ Below W.heap.size W w1) : w1.drew.cell? ⟨g, 0, none⟩ = some x ∧ w1.drew.cell? ⟨g, 1, none⟩ = some y ∧ Below W.heap.size W w1.drew :=
  ⟨h.1, h.2.1, h.2.2.drew⟩
set_option maxRecDepth 100000 in
theorem Random_none (s l ck cr seed : Int) (w : World) (hS : wi s 0 8 = 0) :
    Calls Tryd.prog 16 #[.int .i64 s, .int .i64 l, .agg #[.int .i64 ck, .int .i64 cr], .int .u64 seed] w fun e w' => e = .returned (.slice none 0 0) ∧ Below w.heap.size w w' := by
  have C1 := fun w => within_any s 0 8 w (by omega)
  rw [hS] at C1
  have C1 := Lib.hid C1
  clear hS
  go_enter Tryd.func16, Tryd.ntmps16
  go_wp2_with fail
  refine (C1.out _).mono ?_
  rintro e w' ⟨rfl, rfl⟩
  go_wp2
  go_ret
  exact ⟨rfl, (Below.refl _ w).alloc (Nat.le_refl _) _⟩
set_option maxRecDepth 100000 in
theorem rRandom_none (s l ck cr seed : Int) (w : World) (hS : wi s 0 8 = 0) :
    Calls Tryd.prog 17 #[.int .i64 s, .int .i64 l, .int .i64 ck, .int .i64 cr, .int .u64 seed] w fun e w' => e = .returned (.slice none 0 0) ∧ Below w.heap.size w w' := by
  have C1 := fun w => clamp_any s 0 8 w (by omega)
  rw [hS] at C1
  have C1 := Lib.hid C1
  clear hS
  go_enter Tryd.func17, Tryd.ntmps17
  go_wp2_with fail
  refine (C1.out _).mono ?_
  rintro e w' ⟨rfl, rfl⟩
  go_wp2
  go_ret
  exact ⟨rfl, Below.refl _ w⟩
end Go.Proofs.YthageombfifffaaDoor
