/- A disk in memory; what changes and what stays. -/
import Derived.Test.YthhpilkhcomhbaaDoorByt
import Derived.Test.YthhpilkhcomhbaaDoorSlc
import Derived.Laws.CopyOwn
namespace Go.Proofs.YthhpilkhcomhbaaDoor
open Go.ChangeShapes Go.WideShapes Go.ChangeAt Go.RowKit Go.ChangeMaps

/-- Only some of the blocks that lay in memory may have changed. -/
structure Chg (F : Nat → Prop) (w w' : World) : Prop where
  os : w'.os = w.os
  tape : w'.tape = w.tape
  output : w'.output = w.output
  size : w.heap.size ≤ w'.heap.size
  block : ∀ k, k < w.heap.size → ¬ F k → w'.heap[k]? = w.heap[k]?
section
variable {F G : Nat → Prop} {w w' w'' : World}
theorem Chg.refl (F : Nat → Prop) (w : World) : Chg F w w := ⟨rfl, rfl, rfl, Nat.le_refl _, fun _ _ _ => rfl⟩
theorem Chg.trans (h : Chg F w w') (k : Chg F w' w'') : Chg F w w'' := ⟨k.os.trans h.os, k.tape.trans h.tape, k.output.trans h.output, Nat.le_trans h.size k.size, fun i hi hf => (k.block i (Nat.lt_of_lt_of_le hi h.size) hf).trans (h.block i hi hf)⟩
theorem Chg.of_below (hb : Below w.heap.size w w') : Chg F w w' := ⟨hb.os, hb.tape, hb.output, hb.size, fun k hk _ => hb.block k hk⟩
theorem Chg.mono (h : Chg F w w') (hfg : ∀ k, F k → G k) : Chg G w w' := ⟨h.os, h.tape, h.output, h.size, fun k hk hg => h.block k hk (fun hf => hg (hfg k hf))⟩
theorem Chg.of_grown {p : Nat} (h : w.grownBy w' (some p)) (hp : F p) : Chg F w w' := ⟨h.os, h.tape, h.output, h.size, fun k hk hf => h.block k hk (fun e => hf (by cases e; exact hp))⟩
theorem Chg.set_ {p i : Nat} {u : Value} (h : Chg F w w') (hp : F p) : Chg F w (w'.setCell ⟨p, i, none⟩ u) :=
  h.trans ⟨rfl, rfl, rfl, by simp [World.setCell], fun k _ hk => Below.heap_setCell w' _ u k (fun e => hk (by rw [show k = p from e]; exact hp))⟩
theorem Chg.row {g : Nat} {cs : Array Value} (h : Chg F w w') (hp : F g) : Chg F w (w'.setRow g cs) :=
  h.trans ⟨rfl, rfl, rfl, by simp [World.setRow], fun k _ hk => setRow_other w' g k cs (fun e => hk (by rw [e]; exact hp))⟩
theorem Chg.alloc (h : Chg F w w') (o : Obj) : Chg F w (w'.alloc o) := h.trans (Chg.of_below ((Below.refl _ _).alloc (Nat.le_refl _) o))
theorem Chg.below {B : Nat} {w0 : World} (h : Chg F w w') (hb : Below B w0 w) (hF : ∀ k, F k → B ≤ k) (hB : B ≤ w.heap.size) : Below B w0 w' :=
  hb.trans ⟨h.os, h.tape, h.output, h.size, fun k hk => h.block k (by omega) (fun hf => by have := hF k hf; omega)⟩
theorem Blk.chg {g : Nat} {t : TypeId} {cs : Array Value} (h : Blk w g t cs) (hc : Chg F w w') (hg : ¬ F g) : Blk w' g t cs := (hc.block g h.lt hg).trans h
/-- Bytes in a block that stays. -/
def BA (F : Nat → Prop) (w : World) (A : Option Addr) (n : Nat) (l : List UInt8) : Prop := l.length = n ∧ (0 < n → ∃ b off, A = some ⟨b, off, none⟩ ∧ b < w.heap.size ∧ ¬ F b ∧ ∀ i (h : i < l.length), w.cell? ⟨b, off + i, none⟩ = some (.int .u8 (l[i].toNat : Int)))
theorem BA.at {A : Option Addr} {n : Nat} {l : List UInt8} (h : BA F w A n l) : BytesAt w A n l := ⟨h.1, fun hn => by obtain ⟨b, off, e, hl, _, hc⟩ := h.2 hn; exact ⟨b, off, e, hl, hc⟩⟩
theorem chg_cell {b o : Nat} {v : Value} (h : Chg F w w') (hb : b < w.heap.size) (hf : ¬ F b) (hc : w.cell? ⟨b, o, none⟩ = some v) : w'.cell? ⟨b, o, none⟩ = some v := by
  rw [← hc]
  have e := h.block b hb hf
  unfold World.cell?
  simp only [e]
theorem BA.chg {A : Option Addr} {n : Nat} {l : List UInt8} (h : BA F w A n l) (hc : Chg F w w') : BA F w' A n l := ⟨h.1, fun hn => by
  obtain ⟨b, off, e, hl, hf, hcc⟩ := h.2 hn
  exact ⟨b, off, e, Nat.lt_of_lt_of_le hl hc.size, hf, fun i hi => chg_cell hc hl hf (hcc i hi)⟩⟩
theorem BA.below {A : Option Addr} {n : Nat} {l : List UInt8} (h : BA F w A n l) (hb : Below w.heap.size w w') : BA F w' A n l := h.chg (Chg.of_below hb)
theorem BA.of_at {A : Option Addr} {n : Nat} {l : List UInt8} (h : BytesAt w A n l) (hF : ∀ k, F k → w.heap.size ≤ k) : BA F w A n l := ⟨h.1, fun hn => by
  obtain ⟨b, off, e, hl, hc⟩ := h.2 hn
  exact ⟨b, off, e, hl, fun hf => by have := hF b hf; omega, hc⟩⟩
theorem BA.mono {A : Option Addr} {n : Nat} {l : List UInt8} (h : BA F w A n l) (hfg : ∀ k, G k → F k) : BA G w A n l := ⟨h.1, fun hn => by
  obtain ⟨b, off, e, hl, hf, hc⟩ := h.2 hn
  exact ⟨b, off, e, hl, fun hg => hf (hfg b hg), hc⟩⟩
end
/-- The state of a disk. -/
structure St where
  R : List (List UInt8)
  f : Bool
  a : Nat
  b : Nat
  x : Nat
def St.ok (s : St) : Prop := (∀ r ∈ s.R, r.length = 64) ∧ s.b ≤ 64 ∧ s.R.length ≤ 65536 ∧ s.a ≤ 9223372036854775807 ∧ s.x ≤ 1000000000
def St.wr (s : St) (i : Nat) (d : List UInt8) : St × Int :=
  if s.a = 1 then ({ s with R := s.R.set i (d.take s.b ++ (s.R.getD i []).drop s.b), f := true, a := 0 }, 15)
  else ({ s with R := s.R.set i d, a := s.a - 1, x := s.x + 1 }, 0)
def St.Wr (s : St) (i : Int) (d : List UInt8) : St × Int :=
  if s.f = true then (s, 15) else if 0 ≤ i ∧ i < s.R.length ∧ d.length = 64 then s.wr i.toNat d else (s, 1)
def St.Rd (s : St) (i : Int) : List UInt8 × Int :=
  if s.f = true then ([], 15) else if 0 ≤ i ∧ i < s.R.length then (s.R.getD i.toNat [], 0) else ([], 1)
def St.Ar (s : St) (k n : Int) : St := if s.f = true then s else { s with a := k.toNat, b := min n.toNat 64 }
def St.Fl (s : St) : St := { s with f := true, a := 0 }
def St.Re (s : St) : St := { s with f := false }
def Dk (w : World) (p q : Nat) (s : St) : Prop :=
  Blk w p 68 #[.slice (some ⟨q, 0, none⟩) s.R.length s.R.length, .bool s.f, .int .i64 (s.a : Int), .int .i64 (s.b : Int), .int .i64 (s.x : Int)] ∧ Blk w q 83 (bc s.R.flatten).toArray ∧ p ≠ q ∧ s.ok
def PQ (p q : Nat) : Nat → Prop := fun k => k = p ∨ k = q
theorem Dk.below {w w' : World} {p q : Nat} {s : St} (h : Dk w p q s) (hb : Below w.heap.size w w') : Dk w' p q s := ⟨h.1.below hb, h.2.1.below hb, h.2.2⟩
theorem Dk.chg {F : Nat → Prop} {w w' : World} {p q : Nat} {s : St} (h : Dk w p q s) (hc : Chg F w w') (hp : ¬ F p) (hq : ¬ F q) : Dk w' p q s := ⟨h.1.chg hc hp, h.2.1.chg hc hq, h.2.2⟩
/-- Sectors of one list. -/
theorem flat_len64 : ∀ {R : List (List UInt8)}, (∀ r ∈ R, r.length = 64) → R.flatten.length = R.length * 64
  | [], _ => rfl
  | r :: R, h => by
    rw [List.flatten_cons, List.length_append, h r (by simp), flat_len64 (fun x hx => h x (List.mem_cons_of_mem _ hx)), List.length_cons, Nat.add_mul]
    omega
theorem flat_at : ∀ {R : List (List UInt8)} (i : Nat), (∀ r ∈ R, r.length = 64) → i < R.length → (R.flatten.drop (i * 64)).take 64 = R.getD i []
  | [], i, _, hi => by simp at hi
  | r :: R, 0, h, _ => by
    have h0 := h r (by simp)
    simp [List.take_append_of_le_length (Nat.le_of_eq h0.symm), List.take_of_length_le (Nat.le_of_eq h0)]
  | r :: R, i + 1, h, hi => by
    have h0 := h r (by simp)
    have e : (i + 1) * 64 = r.length + i * 64 := by rw [h0, Nat.add_mul]; omega
    rw [List.flatten_cons, e, List.drop_append]
    simp only [List.getD_cons_succ]
    rw [show r.length + i * 64 - r.length = i * 64 by omega, List.drop_of_length_le (by omega), List.nil_append]
    exact flat_at i (fun x hx => h x (List.mem_cons_of_mem _ hx)) (by simpa using hi)
theorem flat_splice : ∀ {R : List (List UInt8)} (i : Nat) (cs : List UInt8), (∀ r ∈ R, r.length = 64) → i < R.length → cs.length ≤ 64 →
    splice R.flatten (i * 64) cs = (R.set i (cs ++ (R.getD i []).drop cs.length)).flatten
  | [], i, _, _, hi, _ => by simp at hi
  | r :: R, 0, cs, h, _, hc => by
    have h0 := h r (by simp)
    unfold splice
    simp only [Nat.zero_mul, List.take_zero, List.nil_append, Nat.zero_add, List.flatten_cons, List.set_cons_zero, List.getD_cons_zero]
    rw [List.drop_append_of_le_length (by omega), List.append_assoc]
  | r :: R, i + 1, cs, h, hi, hc => by
    have h0 := h r (by simp)
    have e : (i + 1) * 64 = r.length + i * 64 := by rw [h0, Nat.add_mul]; omega
    have ih := flat_splice i cs (fun x hx => h x (List.mem_cons_of_mem _ hx)) (by simpa using hi) hc
    simp only [List.set_cons_succ, List.flatten_cons, List.getD_cons_succ]
    rw [← ih, e]
    unfold splice
    rw [List.take_append, List.drop_append, List.take_of_length_le (by omega : r.length ≤ r.length + i * 64), List.drop_of_length_le (by omega : r.length ≤ r.length + i * 64 + cs.length)]
    simp only [List.nil_append, List.append_assoc]
    rw [show r.length + i * 64 - r.length = i * 64 by omega, show r.length + i * 64 + cs.length - r.length = i * 64 + cs.length by omega]
theorem bc_splice (L : List UInt8) (o : Nat) (cs : List UInt8) : splice (bc L) o (bc cs) = bc (splice L o cs) := by
  unfold splice bc
  simp
theorem set_len64 {R : List (List UInt8)} {i : Nat} {d : List UInt8} (h : ∀ r ∈ R, r.length = 64) (hd : d.length = 64) : ∀ r ∈ R.set i d, r.length = 64 := fun r hr => by
  rcases List.mem_or_eq_of_mem_set hr with h1 | h1
  · exact h r h1
  · rw [h1]; exact hd
theorem getD_len64 {R : List (List UInt8)} {i : Nat} (h : ∀ r ∈ R, r.length = 64) (hi : i < R.length) : (R.getD i []).length = 64 := by
  rw [List.getD_eq_getElem?_getD, List.getElem?_eq_getElem hi]
  exact h _ (List.getElem_mem _)
theorem torn_len {R : List (List UInt8)} {i b : Nat} {d : List UInt8} (h : ∀ r ∈ R, r.length = 64) (hi : i < R.length) (hd : d.length = 64) (hb : b ≤ 64) : (d.take b ++ (R.getD i []).drop b).length = 64 := by
  rw [List.length_append, List.length_take, List.length_drop, getD_len64 h hi, hd]; omega
theorem St.ok.Wr {s : St} (h : s.ok) (hx : s.x < 1000000000) (i : Int) (d : List UInt8) : (s.Wr i d).1.ok := by
  obtain ⟨h1, h2, h3, h4, h5⟩ := h
  unfold St.Wr
  split
  · exact ⟨h1, h2, h3, h4, h5⟩
  · split
    · rename_i hh
      unfold St.wr
      split
      · exact ⟨set_len64 h1 (torn_len h1 (by omega) hh.2.2 h2), h2, by simpa using h3, by simp, h5⟩
      · exact ⟨set_len64 h1 hh.2.2, h2, by simpa using h3, by simp; omega, by simp; omega⟩
    · exact ⟨h1, h2, h3, h4, h5⟩
theorem St.ok.Ar {s : St} (h : s.ok) {k n : Int} (hk : k ≤ 9223372036854775807) : (s.Ar k n).ok := by
  obtain ⟨h1, h2, h3, h4, h5⟩ := h
  unfold St.Ar
  split
  · exact ⟨h1, h2, h3, h4, h5⟩
  · exact ⟨h1, by simp; omega, h3, by simp; omega, h5⟩
theorem St.ok.Fl {s : St} (h : s.ok) : s.Fl.ok := ⟨h.1, h.2.1, h.2.2.1, by simp [St.Fl], h.2.2.2.2⟩
theorem St.ok.Re {s : St} (h : s.ok) : s.Re.ok := h
end Go.Proofs.YthhpilkhcomhbaaDoor
