/- Slices that read as lists. -/
import Derived.Test.YtbmofagaammgmaaBas
import Derived.Test.YtbmofagaammgmaaApp
import Derived.SizedLaws
import Derived.Deep.MidRow
import Derived.Deep.WholeRow
namespace Go.Proofs.Ytbmofagaammgmaa
open Go.ChangeShapes Go.WideShapes Go.ChangeAt Go.RowKit Go.ChangeMaps

/-- A slice that reads as a list of cells, some to an element. -/
def At (w : World) (A : Option Addr) (n size : Nat) (xs : List Value) : Prop :=
  xs.length = n * size ∧ (0 < n → ∃ b off, A = some ⟨b, off, none⟩ ∧ b < w.heap.size ∧ ∀ j u, xs[j]? = some u → w.cell? ⟨b, off + j, none⟩ = some u)
section
variable {w w' : World} {A : Option Addr} {n size : Nat} {xs : List Value}
theorem At.keep (h : At w A n size xs) (hs : w.heap.size ≤ w'.heap.size) (hk : ∀ b o v, b < w.heap.size → w.cell? ⟨b, o, none⟩ = some v → w'.cell? ⟨b, o, none⟩ = some v) : At w' A n size xs :=
  ⟨h.1, fun hn => by
    obtain ⟨b, off, e, hb, hc⟩ := h.2 hn
    exact ⟨b, off, e, by omega, fun j u hu => hk _ _ _ hb (hc j u hu)⟩⟩
theorem At.below (h : At w A n size xs) (hb : Below w.heap.size w w') : At w' A n size xs := h.keep hb.size fun b o v hl hc => (hb.cell (p := ⟨b, o, none⟩) hl).trans hc
theorem At.alloc (h : At w A n size xs) (o : Obj) : At (w.alloc o) A n size xs := h.below ((Below.refl _ w).alloc (Nat.le_refl _) o)
theorem At.drew (h : At w A n size xs) : At w.drew A n size xs := h
theorem At.drewN (h : At w A n size xs) (k : Nat) : At (w.drewN k) A n size xs := h
theorem At.of_own {base : Nat} {e : TypeId} {v : Value} (h : w.ownsRow base e size v n xs) : ∃ A c, v = .slice A n c ∧ At w A n size xs ∧ n ≤ c ∧ c ≤ maxLen := by
  have h0 := h
  rcases h.2 with ⟨rfl, hl⟩ | ⟨g, cap, cur, rfl, hg, hh, hnc, hcap, hsz, htake⟩
  · subst hl
    exact ⟨none, 0, rfl, ⟨h.1, fun hn => by omega⟩, Nat.le_refl _, by unfold maxLen; omega⟩
  · refine ⟨_, _, rfl, ⟨h.1, fun hn => ⟨g, 0, rfl, (h0.lt g rfl).2, fun i u hi => ?_⟩⟩, hnc, hcap⟩
    have hl : i < n * size := by rw [← h.1]; exact (List.getElem?_eq_some_iff.1 hi).1
    rw [Nat.zero_add, World.ownsRow.cellAt h0 i hl, hi]
theorem At.src {P : Program} {t e : TypeId} {c : Nat} (ht : P.underlying t = some (.slice e)) (h : At w A n size xs) (h1 : ∀ u ∈ xs, u.oneCell' = true) (hA : 0 < size) : Src P size t (.slice A n c) n xs w := by
  rcases A with _ | a
  · rcases Nat.eq_zero_or_pos n with h0 | h0
    · subst h0
      obtain rfl : xs = [] := List.eq_nil_of_length_eq_zero (by simpa using h.1)
      exact Src.ofNil _ ht _
    · obtain ⟨b, off, e, _⟩ := h.2 h0
      cases e
  · refine Src.ofSlice _ ht _ _ _ _ h.1 (fun j u hu => ?_) h1
    have hj : j < n * size := by rw [← h.1]; exact (List.getElem?_eq_some_iff.1 hu).1
    obtain ⟨b, off, e, _, hc⟩ := h.2 (by rcases Nat.eq_zero_or_pos n with h0 | h0; (· rw [h0] at hj; omega); exact h0)
    injection e with e
    subst e
    rw [add_plain]
    exact hc j u hu
end
/-- Ints as cells. -/
def ic (k : IntKind) (R : List Int) : List Value := R.map (.int k)
theorem ic_len (k : IntKind) (R : List Int) : (ic k R).length = R.length := by simp [ic]
theorem ic_get (k : IntKind) (R : List Int) (j : Nat) (h : j < R.length) : (ic k R)[j]? = some (.int k (R.getD j 0)) := by simp [ic, List.getElem?_eq_getElem h]
theorem At.int {w : World} {A : Option Addr} {n : Nat} {k : IntKind} {R : List Int} (h : At w A n 1 (ic k R)) : R.length = n := by simpa [ic_len] using h.1
/-- Lists whose elements have a fixed number of cells. -/
theorem flat_len {α : Type} (f : α → List Value) (m : Nat) (hf : ∀ a, (f a).length = m) (L : List α) : (L.flatMap f).length = L.length * m := by
  induction L with
  | nil => simp
  | cons a L ih => rw [List.flatMap_cons, List.length_append, ih, hf, List.length_cons, Nat.add_mul]; omega
theorem flat_get {α : Type} (f : α → List Value) (m : Nat) (hf : ∀ a, (f a).length = m) (L : List α) (i j : Nat) (hi : i < L.length) (hj : j < m) : (L.flatMap f)[i * m + j]? = (f L[i])[j]? := by
  induction L generalizing i with
  | nil => simp at hi
  | cons a L ih =>
    rw [List.flatMap_cons]
    cases i with
    | zero => rw [List.getElem?_append_left (by rw [hf]; omega)]; simp
    | succ i =>
      rw [List.getElem?_append_right (by rw [hf, Nat.add_mul]; omega), hf, show (i + 1) * m + j - m = i * m + j by rw [Nat.add_mul]; omega]
      exact ih i (by simpa using hi)
theorem open_intsK {H : Type} {enc : TypeId × Value → H} {P : Program} {T I : TypeId} {k : IntKind} (hT : P.underlying T = some (.slice I)) (hI : P.underlying I = some (.int k)) (hC : P.cellsOf I = 1) {W : World} {r : Reach} {b0 : Nat} {v : Value} {d : DataW H} {p : List MemPlace}
    (hv : Value.okWide P W r b0 T v) (h : DataW.Trod enc P W 0 (fun _ => true) true T v d p) (hlt : ∀ x ∈ p, x.block < W.heap.size) :
    ∃ (A : Option Addr) (n c : Nat) (R : List Int), v = .slice A n c ∧ At W A n 1 (ic k R) ∧ R.length = n ∧ n ≤ c ∧ c ≤ 9223372036854775807 ∧ ∀ z ∈ R, (Lit.int k z).wf = true := by
  obtain ⟨a0, len, cap, rfl⟩ := okWide_slice hT hv
  obtain ⟨fuel, hf⟩ := h
  rcases open_ints hT hI hC hf with ⟨hcs, hx⟩ | ⟨a, len', cap', zs, hcs, _, hl, hm, hz, hx, hcell, hwz⟩
  · simp [Value.cells] at hcs
    obtain ⟨rfl, rfl, rfl⟩ := hcs
    exact ⟨_, _, _, [], rfl, ⟨rfl, fun h => absurd h (by omega)⟩, rfl, by omega, by omega, fun x hx => by cases hx⟩
  · simp [Value.cells] at hcs
    obtain ⟨rfl, rfl, rfl⟩ := hcs
    simp only [if_true] at hz
    simp only [Prod.mk.injEq] at hx
    obtain ⟨rfl, rfl⟩ := hx
    unfold maxLen at hm
    refine ⟨_, _, _, zs.take len, rfl, ⟨by rw [ic_len, List.length_take]; omega, fun hn => ?_⟩, by rw [List.length_take]; omega, hl, by omega, fun z hz2 => hwz z (List.mem_of_mem_take hz2)⟩
    obtain ⟨b, off, spot⟩ := a
    have hspot : spot = none := by simpa [Addr.add] using World.cell?_spot (hcell 0 (by omega))
    subst hspot
    refine ⟨b, off, rfl, hlt (.cell b off) (MemPlace.mem_row.2 ⟨0, by omega, by simp⟩), fun i u hi => ?_⟩
    have hi2 : i < (zs.take len).length := by have := (List.getElem?_eq_some_iff.1 hi).1; rwa [ic_len] at this
    have hi3 : i < zs.length := by rw [List.length_take] at hi2; omega
    rw [ic_get k _ i hi2] at hi
    injection hi with hi
    subst hi
    have := hcell i hi3
    rw [add_plain] at this
    rw [this]
    rw [List.length_take] at hi2
    simp [List.getD, List.getElem?_take, show i < len by omega, List.getElem?_eq_getElem hi3]
theorem own_mono {w : World} {B B' : Nat} {e : TypeId} {size n : Nat} {v : Value} {xs : List Value} (h : w.ownsRow B e size v n xs) (hB : B' ≤ B) : w.ownsRow B' e size v n xs := by
  refine ⟨h.1, ?_⟩
  rcases h.2 with h2 | ⟨g, cap, cur, hv, hg, r⟩
  · exact .inl h2
  · exact .inr ⟨g, cap, cur, hv, by omega, r⟩

/-- A whole struct into the block that was made last. -/
theorem wpList_store_new {P : Program} {ops : Array Oper} {rest : List Oper} {op : Oper} {a : Act} {Q : Exit → Act → World → Prop} (hgd : op.guard = none) (ty : TypeId) (x y : Operand) (ho : op.op = .store ty x y)
    (w : World) (old cells : Array Value) (hx : a.eval x = .pointer (some ⟨w.heap.size, 0, none⟩)) (hy : a.eval y = .agg cells) (hi : (P.info? ty).map (·.size) = some cells.size) (hold : old.size = cells.size) (h1 : cells.all (·.oneCell') = true)
    (h : wpList P ops Q rest (a.put op.dst undef) (w.alloc (.cells cells ty))) : wpList P ops Q (op :: rest) a (w.alloc (.cells old ty)) :=
  wpList_plain hgd fun _ hK => wp_store_row ty x y ho w.heap.size cells hx hy ty old (heap_alloc_new w _) hi hold h1 (by rw [World.setRow_alloc_new]; exact hK _ _ h)
end Go.Proofs.Ytbmofagaammgmaa
