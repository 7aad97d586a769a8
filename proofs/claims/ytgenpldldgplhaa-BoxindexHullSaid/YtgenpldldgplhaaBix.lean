/- The index in memory. -/
import Derived.Test.YtgenpldldgplhaaBma
import Derived.Test.YtgenpldldgplhaaSme
namespace Go.Proofs.Ytgenpldldgplhaa
open Go.ChangeShapes Go.WideShapes Go.ChangeAt Go.RowKit Go.ChangeMaps

/-- A box that the index holds. -/
structure It where
  id : Int
  t : Int
  A : Option Addr
  n : Nat
  c : Nat
  R : List Sd
def It.val (x : It) : Value := .agg #[.int .i64 x.t, .slice x.A x.n x.c]
def fnd (L : List It) (a : Int) : Option It := L.find? (fun x => x.id == a)
def cntT (L : List It) (T : Int) : Nat := (L.filter (fun x => x.t == T)).length
def hasT (L : List It) (T : Int) : Bool := L.any (fun x => x.t == T)
def delL (L : List It) (a : Int) : List It := L.filter (fun x => x.id != a)
def Asc (L : List It) : Prop := L.Pairwise (fun x y => x.id < y.id)
def w64 (a : Int) : Prop := (Lit.int .i64 a).wf = true
theorem hasT_cnt (L : List It) (T : Int) : hasT L T = decide (0 < cntT L T) := by
  unfold hasT cntT
  rw [Bool.eq_iff_iff, List.any_eq_true, decide_eq_true_eq, List.length_pos_iff_exists_mem]
  constructor
  · rintro ⟨x, h1, h2⟩
    exact ⟨x, List.mem_filter.2 ⟨h1, h2⟩⟩
  · rintro ⟨x, hx⟩
    exact ⟨x, (List.mem_filter.1 hx).1, (List.mem_filter.1 hx).2⟩
theorem fnd_mem {L : List It} {a : Int} {x : It} (h : fnd L a = some x) : x ∈ L ∧ x.id = a := by
  unfold fnd at h
  exact ⟨List.mem_of_find?_eq_some h, by simpa using List.find?_some h⟩
theorem asc_fnd {L : List It} (h : Asc L) {x : It} (hx : x ∈ L) : fnd L x.id = some x := by
  induction L with
  | nil => cases hx
  | cons y L ih =>
    unfold Asc at h
    rw [List.pairwise_cons] at h
    unfold fnd
    rw [List.find?_cons]
    rcases List.mem_cons.1 hx with rfl | hx
    · simp
    · have := h.1 x hx
      have hne : (y.id == x.id) = false := by simp; omega
      rw [hne]
      exact ih h.2 hx
theorem fnd_del (L : List It) (a b : Int) : fnd (delL L a) b = if b = a then none else fnd L b := by
  unfold fnd delL
  induction L with
  | nil => simp
  | cons x L ih =>
    by_cases hx : x.id = a
    · have h1 : (x.id != a) = false := by simp [hx]
      rw [List.filter_cons, if_neg (by rw [h1]; decide), ih, List.find?_cons]
      split
      · rfl
      · rename_i hb
        have : (x.id == b) = false := by rw [hx]; simp; exact fun e => hb e.symm
        rw [this]
    · have h1 : (x.id != a) = true := by simp [hx]
      rw [List.filter_cons, if_pos h1, List.find?_cons, List.find?_cons]
      by_cases hb : x.id = b
      · have h2 : (x.id == b) = true := by simp [hb]
        rw [h2, if_neg (fun e => hx (by rw [hb, e]))]
      · have h2 : (x.id == b) = false := by simp [hb]
        rw [h2]
        exact ih
theorem asc_del {L : List It} (h : Asc L) (a : Int) : Asc (delL L a) := List.Pairwise.filter _ h
theorem len_del {L : List It} (h : Asc L) {a : Int} {x : It} (hx : fnd L a = some x) : (delL L a).length = L.length - 1 ∧ ∀ T, cntT (delL L a) T = if x.t = T then cntT L T - 1 else cntT L T := by
  induction L with
  | nil => cases hx
  | cons y L ih =>
    unfold Asc at h
    rw [List.pairwise_cons] at h
    unfold fnd at hx
    rw [List.find?_cons] at hx
    by_cases hy : y.id = a
    · have h1 : (y.id == a) = true := by simp [hy]
      rw [h1] at hx
      obtain rfl : y = x := Option.some.inj hx
      have h2 : delL (y :: L) a = L := by
        unfold delL
        rw [List.filter_cons_of_neg (by simp [hy])]
        exact List.filter_eq_self.2 (fun z hz => by have := h.1 z hz; simp; omega)
      rw [h2]
      refine ⟨by simp, fun T => ?_⟩
      unfold cntT
      by_cases ht : y.t = T
      · rw [if_pos ht, List.filter_cons_of_pos (by simp [ht])]; simp
      · rw [if_neg ht, List.filter_cons_of_neg (by simp [ht])]
    · have h1 : (y.id == a) = false := by simp [hy]
      rw [h1] at hx
      obtain ⟨i1, i2⟩ := ih h.2 hx
      have h3 := (fnd_mem hx).1
      have h4 : 0 < L.length := List.length_pos_of_mem h3
      have h2 : delL (y :: L) a = y :: delL L a := by
        unfold delL
        rw [List.filter_cons_of_pos (by simp [hy])]
      rw [h2]
      refine ⟨by rw [List.length_cons, List.length_cons, i1]; omega, fun T => ?_⟩
      have h5 := i2 T
      have h6 : x.t = T → 0 < cntT L T := fun e => List.length_pos_of_mem (List.mem_filter.2 ⟨h3, by simp [e]⟩)
      unfold cntT at h5 h6 ⊢
      by_cases ht : y.t = T
      · rw [List.filter_cons_of_pos (by simp [ht]), List.filter_cons_of_pos (by simp [ht]), List.length_cons, List.length_cons, h5]
        split
        · rename_i e; have := h6 e; omega
        · rfl
      · rw [List.filter_cons_of_neg (by simp [ht]), List.filter_cons_of_neg (by simp [ht]), h5]
/-- What a row of cells holds is kept. -/
structure KC (w w' : World) : Prop where
  os : w'.os = w.os
  tape : w'.tape = w.tape
  output : w'.output = w.output
  size : w.heap.size ≤ w'.heap.size
  block : ∀ (k : Nat) (cs : Array Value) (t : TypeId) (z : Nat × Nat), w.heap[k]? = some (.cells cs t z) → w'.heap[k]? = some (.cells cs t z)
theorem KC.refl (w : World) : KC w w := ⟨rfl, rfl, rfl, Nat.le_refl _, fun _ _ _ _ h => h⟩
theorem KC.trans {w w' w'' : World} (h : KC w w') (k : KC w' w'') : KC w w'' := ⟨k.os.trans h.os, k.tape.trans h.tape, k.output.trans h.output, Nat.le_trans h.size k.size, fun i cs t z e => k.block i cs t z (h.block i cs t z e)⟩
theorem KC.of_below {w w' : World} (h : Below w.heap.size w w') : KC w w' := ⟨h.os, h.tape, h.output, h.size, fun k cs t z e => by
  have hk : k < w.heap.size := (Array.getElem?_eq_some_iff.1 e).1
  rw [h.block k hk]; exact e⟩
theorem MB.block {w : World} {k : TypeId} {q : IntKind} {b n s : Nat} {f : Int → Option Value} (h : MB w k q b n s f) : ∃ es clock, w.heap[b]? = some (.map es clock) := by
  obtain ⟨D, ⟨es, clock, hb, _⟩, _⟩ := h
  exact ⟨es, clock, hb⟩
theorem MB.ne {w : World} {k : TypeId} {q : IntKind} {b n s j : Nat} {f : Int → Option Value} (h : MB w k q b n s f) {cs : Array Value} {t : TypeId} {z : Nat × Nat} (hj : w.heap[j]? = some (.cells cs t z)) : j ≠ b := by
  rintro rfl
  obtain ⟨es, clock, hb⟩ := h.block
  rw [hb] at hj
  cases hj
theorem KC.of_map {w w' : World} {k : TypeId} {q : IntKind} {b n s : Nat} {f : Int → Option Value} (h : MB w k q b n s f) (hg : w.grownBy w' (some b)) : KC w w' := ⟨hg.os, hg.tape, hg.output, hg.size, fun j cs t z e => by
  have hk : j < w.heap.size := (Array.getElem?_eq_some_iff.1 e).1
  rw [hg.block j hk (fun e2 => h.ne e (by injection e2))]; exact e⟩
theorem Blk.kc {w w' : World} {g : Nat} {t : TypeId} {cs : Array Value} (h : Blk w g t cs) (hc : KC w w') : Blk w' g t cs := hc.block _ _ _ _ h
theorem cell_kc {w w' : World} {b o : Nat} {v : Value} (hc : KC w w') (h : w.cell? ⟨b, o, none⟩ = some v) : w'.cell? ⟨b, o, none⟩ = some v := by
  unfold World.cell? at h ⊢
  simp only at h ⊢
  split at h
  · rename_i cs t z e
    rw [hc.block _ _ _ _ e]
    exact h
  · cases h
theorem Sds.kc {w w' : World} {A : Option Addr} {n : Nat} {R : List Sd} (h : Sds w A n R) (hc : KC w w') : Sds w' A n R := At.keep h hc.size fun _ _ _ _ e => cell_kc hc e
/-- The index: its struct, the maps behind it, all from block B on; L: what it holds. -/
structure IX (w : World) (B x : Nat) (M : Nat) (L : List It) : Prop where
  all : ∃ (bt bi : Nat) (g : Int → Nat), Blk w x 63 #[.map (some bt), .map (some bi)] ∧ B ≤ x ∧ B ≤ bt ∧ B ≤ bi ∧ bt ≠ bi ∧
    MB w 2 .i64 bi M L.length (fun a => (fnd L a).map (fun it => .int .i64 it.t)) ∧
    (∃ st, MB w 3 .i64 bt M st (fun T => if hasT L T = true then some (.map (some (g T))) else none)) ∧
    (∀ T, hasT L T = true → MB w 2 .i64 (g T) M (cntT L T) (fun a => match fnd L a with | some it => if it.t = T then some it.val else none | none => none) ∧ B ≤ g T ∧ g T ≠ bt ∧ g T ≠ bi ∧ ∀ T', hasT L T' = true → g T' = g T → T' = T)
  asc : Asc L
  sds : ∀ it ∈ L, Sds w it.A it.n it.R ∧ it.n ≤ it.c ∧ it.n ≤ 1000
  ok : ∀ it ∈ L, w64 it.id ∧ w64 it.t
  M : M < 1000000
theorem IX.below {w w' : World} {B x M : Nat} {L : List It} (h : IX w B x M L) (hb : Below w.heap.size w w') : IX w' B x M L := by
  obtain ⟨⟨bt, bi, g, h1, h2, h3, h4, h5, h6, ⟨st, h7⟩, h8⟩, h9, h10, h11, h12⟩ := h
  exact ⟨⟨bt, bi, g, h1.below hb, h2, h3, h4, h5, h6.below hb, ⟨st, h7.below hb⟩, fun T hT => ⟨(h8 T hT).1.below hb, (h8 T hT).2⟩⟩, h9, fun it hi => ⟨(h10 it hi).1.below hb, (h10 it hi).2⟩, h11, h12⟩
theorem zeroI (w : World) : (zeroValue 3).run Try.prog w = .ok (.int .i64 0) w := by kernel_rfl
theorem zeroM (w : World) : (zeroValue 64).run Try.prog w = .ok (.map none) w := by kernel_rfl
theorem zeroB (w : World) : (zeroValue 40).run Try.prog w = .ok (.agg #[.int .i64 0, .slice none 0 0]) w := by kernel_rfl
end Go.Proofs.Ytgenpldldgplhaa
