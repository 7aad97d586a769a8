/- Rows of integers in a block of their own. -/
import Derived.Test.YthfolccofjaknaaCda
import Derived.Test.YthfolccofjaknaaMA
namespace Go.Proofs.Ythfolccofjaknaa
open Go.ChangeShapes Go.WideShapes Go.ChangeAt Go.RowKit Go.ChangeMaps

theorem flat_set2 (L : List Bg) (k : Nat) (b : Bg) (h : k < L.length) : ((L.flatMap Bg.cells).set (k * 2) (.bool b.neg)).set (k * 2 + 1) (.slice b.A b.n b.c) = (L.set k b).flatMap Bg.cells := by
  induction L generalizing k with
  | nil => simp at h
  | cons x L ih =>
    cases k with
    | zero => rfl
    | succ k =>
      have := ih k (by simpa using h)
      rw [List.set_cons_succ, List.flatMap_cons, List.flatMap_cons, ← this]
      rw [show (k + 1) * 2 = k * 2 + 1 + 1 by omega]
      rfl
/-- A row of normal integers in a block of its own. -/
def Rw (w : World) (B g : Nat) (L : List Bg) (N : Nat) : Prop := B ≤ g ∧ Blk w g 37 (L.flatMap Bg.cells).toArray ∧ ∀ b ∈ L, NB w B b.val b.z N
theorem Rw.below {w w' : World} {B g N : Nat} {L : List Bg} (h : Rw w B g L N) (hb : Below w.heap.size w w') : Rw w' B g L N := ⟨h.1, h.2.1.below hb, fun b hB => (h.2.2 b hB).below hb⟩
theorem Rw.mono {w : World} {B B' g N N' : Nat} {L : List Bg} (h : Rw w B g L N) (hB : B' ≤ B) (hN : N ≤ N') : Rw w B' g L N' := ⟨Nat.le_trans hB h.1, h.2.1, fun b hb => (h.2.2 b hb).mono hB hN⟩
theorem Rw.len {w : World} {B g N : Nat} {L : List Bg} (_ : Rw w B g L N) : (L.flatMap Bg.cells).length = L.length * 2 := flat_len Bg.cells 2 (fun _ => rfl) L
theorem Rw.cells {w : World} {B g N : Nat} {L : List Bg} (h : Rw w B g L N) (k : Nat) (hk : k < L.length) : w.cell? ⟨g, k * 2, none⟩ = some (.bool L[k].neg) ∧ w.cell? ⟨g, k * 2 + 1, none⟩ = some (.slice L[k].A L[k].n L[k].c) := by
  rw [h.2.1.cell, h.2.1.cell, List.getElem?_toArray, List.getElem?_toArray]
  exact ⟨flat_get Bg.cells 2 (fun _ => rfl) L k 0 hk (by decide), flat_get Bg.cells 2 (fun _ => rfl) L k 1 hk (by decide)⟩
theorem Rw.there {w : World} {B g N : Nat} {L : List Bg} (h : Rw w B g L N) (k : Nat) (hk : k < L.length) : w.there g (k * 2) 2 := fun j hj => by
  refine ⟨?_, Joins.unfrozen_of_block h.2.1 _⟩
  rw [h.2.1.cell, List.getElem?_toArray, List.getElem?_eq_getElem (by rw [h.len]; omega)]
  rfl
theorem Rw.set {w : World} {B g N : Nat} {L : List Bg} (h : Rw w B g L N) (k : Nat) (hk : k < L.length) (b : Bg) (hb : NB w B b.val b.z N) : Rw (w.setCells g (k * 2) b.cells) B g (L.set k b) N := by
  have h1 : Blk (w.setCell ⟨g, k * 2, none⟩ (.bool b.neg)) g 37 ((L.flatMap Bg.cells).toArray.setIfInBounds (k * 2) (.bool b.neg)) := Joins.block_setCell h.2.1 _
  have h2 : Blk (w.setCells g (k * 2) b.cells) g 37 (((L.flatMap Bg.cells).toArray.setIfInBounds (k * 2) (.bool b.neg)).setIfInBounds (k * 2 + 1) (.slice b.A b.n b.c)) := Joins.block_setCell h1 _
  have hkeep : ∀ (v : Value) (z : Int), NB w B v z N → NB (w.setCells g (k * 2) b.cells) B v z N := fun v z hv => (hv.cellset h.2.1 _ _).cellset h1 _ _
  refine ⟨h.1, ?_, fun x hx => ?_⟩
  · rw [List.setIfInBounds_toArray, List.setIfInBounds_toArray, flat_set2 L k b hk] at h2
    exact h2
  · rcases List.mem_or_eq_of_mem_set hx with hx | rfl
    · exact hkeep _ _ (h.2.2 x hx)
    · exact hkeep _ _ hb
theorem Rw.bigs {w : World} {B g N : Nat} {L : List Bg} (h : Rw w B g L N) (hn : L.length ≤ 9223372036854775807) : Bigs w (some ⟨g, 0, none⟩) L.length L N :=
  ⟨⟨h.len, fun _ => ⟨g, 0, rfl, h.2.1.lt, fun j u hu => by rw [Nat.zero_add, h.2.1.cell, List.getElem?_toArray]; exact hu⟩⟩, hn, fun b hb => (h.2.2 b hb).bg⟩
theorem below_setCells_c {B g : Nat} {w0 : World} (hg : B ≤ g) : ∀ {w : World}, Below B w0 w → ∀ (o : Nat) (vs : List Value), Below B w0 (w.setCells g o vs)
  | _, h, _, [] => h
  | w, h, o, v :: vs => below_setCells_c hg (h.setCell (p := ⟨g, o, none⟩) hg v) (o + 1) vs
theorem setrow_below {B g o : Nat} {w w0 : World} (h : Below B w0 w) (hg : B ≤ g) (vs : List Value) : Below B w0 (w.setCells g o vs) := below_setCells_c hg h o vs
theorem NB.zero (w : World) (B : Nat) : NB w B Bg.zero.val 0 0 := ⟨none, 0, 0, [], rfl, ⟨rfl, by simp [dok], fun h => absurd h (Nat.lt_irrefl _)⟩, ⟨Nat.le_refl _, by decide, fun _ => rfl, fun a h => by cases h⟩, by simp [nmz], rfl, Nat.le_refl _⟩
theorem make42 (n : Nat) (hn : n ≤ 1000000) (w : World) : (Instr.makeSlice 42 (.int .i64 (n : Int)) (.int .i64 (n : Int))).run Try.prog w = .ok (.slice (some ⟨w.heap.size, 0, none⟩) n n) (w.alloc (.cells ((List.replicate n Bg.zero).flatMap Bg.cells).toArray 37)) := by
  obtain ⟨i, hi, hz, hs, hb⟩ := info_parts (show (Try.prog.info? 37).map (fun i => (i.zero, i.size, i.bytes)) = some (some (.agg #[.bool false, .slice none 0 0]), 2, 32) by kernel_rfl)
  have := run_make (P := Try.prog) w 42 37 i _ Try.underlying42 hi hz .i64 .i64 (n : Int) (n : Int) (by omega) (Int.le_refl _) (by rw [hb]; omega) (by omega)
  rw [hs] at this
  rw [Int.toNat_natCast] at this
  have hl : ((List.replicate n Bg.zero).flatMap Bg.cells).length = n * 2 := by rw [flat_len Bg.cells 2 (fun _ => rfl), List.length_replicate]
  have e : madeCells (Value.agg #[.bool false, .slice none 0 0]).cells (n * 2) = ((List.replicate n Bg.zero).flatMap Bg.cells).toArray := by
    apply Array.ext_getElem?
    intro j
    have hr : ((List.replicate n Bg.zero).flatMap Bg.cells).toArray[j]? = ((List.replicate n Bg.zero).flatMap Bg.cells)[j]? := by rw [List.getElem?_toArray]
    rw [hr]
    by_cases hj : j < n * 2
    · have hg := flat_get Bg.cells 2 (fun _ => rfl) (List.replicate n Bg.zero) (j / 2) (j % 2) (by rw [List.length_replicate]; omega) (Nat.mod_lt _ (by decide))
      rw [show j / 2 * 2 + j % 2 = j by omega, List.getElem_replicate] at hg
      rw [hg]
      have hm : (madeCells (Value.agg #[.bool false, .slice none 0 0]).cells (n * 2))[j]? = some ((#[Value.bool false, .slice none 0 0])[j % 2]!) := by
        unfold madeCells
        rw [Array.getElem?_map, Array.getElem?_eq_getElem (by rw [Array.size_range]; exact hj), Array.getElem_range]
        rfl
      rw [hm]
      rcases Nat.mod_two_eq_zero_or_one j with h0 | h0 <;> rw [h0] <;> rfl
    · rw [Array.getElem?_eq_none (by rw [size_madeCells]; omega), List.getElem?_eq_none (by rw [hl]; omega)]
  rw [this, e]
theorem Rw.make {w W : World} {n B g : Nat} (hW : W = w.alloc (.cells ((List.replicate n Bg.zero).flatMap Bg.cells).toArray 37)) (hg : g = w.heap.size) (hB : B ≤ g) : Rw W B g (List.replicate n Bg.zero) 0 := by
  refine ⟨hB, by rw [hW]; exact Blk.new_ hg rfl, fun b hb => ?_⟩
  rw [List.eq_of_mem_replicate hb]
  exact NB.zero _ _
end Go.Proofs.Ythfolccofjaknaa
