/- Four rows of bytes that grow side by side, in any order. -/
import Derived.Test.YtpnemkphdminnaaDoorOwn
import Derived.Test.YtpnemkphdminnaaDoorChi
namespace Go.Proofs.YtpnemkphdminnaaDoor
open Go.ChangeShapes Go.WideShapes Go.ChangeAt Go.RowKit Go.ChangeMaps

def cur (V0 : Nat → Value) (pI : Nat → Nat) (d : Nat → Bool) (vs : Nat → Value) (k : Nat) : Value := if d (pI k) = true then vs (pI k) else V0 k
def lst (L0 : Nat → List UInt8) (x : Nat → UInt8) (pI : Nat → Nat) (d : Nat → Bool) (k : Nat) : List UInt8 := if d (pI k) = true then L0 k ++ [x k] else L0 k
structure LI (w0 : World) (B0 : Nat) (V0 : Nat → Value) (L0 : Nat → List UInt8) (x : Nat → UInt8) (bI pI : Nat → Nat) (F : Nat → Prop) (d : Nat → Bool) (vs : Nat → Value) (w : World) : Prop where
  own : ∀ k, k < 4 → w.ownsRow B0 5 1 (cur V0 pI d vs k) (lst L0 x pI d k).length (bc (lst L0 x pI d k))
  apart : ∀ j k, j < 4 → k < 4 → j ≠ k → ∀ g, (cur V0 pI d vs j).ownBlock = some g → (cur V0 pI d vs k).ownBlock ≠ some g
  new : ∀ k, k < 4 → d (bI k) = true → ∃ g, vs (bI k) = .slice (some ⟨g, 0, none⟩) 1 1 ∧ Blk w g 5 (bc [x k]).toArray ∧ ∀ j, j < 4 → (cur V0 pI d vs j).ownBlock ≠ some g
  keep : ∀ g, F g → g < w.heap.size ∧ w.heap[g]? = w0.heap[g]? ∧ ∀ j, j < 4 → (cur V0 pI d vs j).ownBlock ≠ some g
  below : Below B0 w0 w
  base : B0 ≤ w.heap.size
section
variable {w0 w : World} {B0 : Nat} {V0 : Nat → Value} {L0 : Nat → List UInt8} {x : Nat → UInt8} {bI pI : Nat → Nat} {F : Nat → Prop} {d : Nat → Bool} {vs : Nat → Value}
theorem cur_other {i : Nat} {v : Value} (hi : ∀ k, k < 4 → pI k ≠ i) {k : Nat} (hk : k < 4) : cur V0 pI (upd d i true) (upd vs i v) k = cur V0 pI d vs k := by
  unfold cur
  rw [upd_other _ _ _ _ (hi k hk), upd_other _ _ _ _ (hi k hk)]
theorem lst_other {i : Nat} (hi : ∀ k, k < 4 → pI k ≠ i) {k : Nat} (hk : k < 4) : lst L0 x pI (upd d i true) k = lst L0 x pI d k := by
  unfold lst
  rw [upd_other _ _ _ _ (hi k hk)]
theorem LI.made (h : LI w0 B0 V0 L0 x bI pI F d vs w) {k : Nat} (hk : k < 4) (hp : ∀ j, j < 4 → pI j ≠ bI k) (hb : ∀ j, j < 4 → bI j = bI k → j = k) :
    LI w0 B0 V0 L0 x bI pI F (upd d (bI k) true) (upd vs (bI k) (.slice (some ⟨w.heap.size, 0, none⟩) 1 1)) (w.alloc (.cells (bc [x k]).toArray 5)) := by
  have lt : ∀ j, j < 4 → ∀ g, (cur V0 pI d vs j).ownBlock = some g → g < w.heap.size := fun j hj g e => ((h.own j hj).lt g e).2
  refine ⟨fun j hj => ?_, fun i j hi hj hij g e => ?_, fun j hj hd => ?_, fun g hg => ?_, h.below.alloc h.base _, Nat.le_trans h.base (by simp)⟩
  · rw [cur_other hp hj, lst_other hp hj]
    exact (h.own j hj).alloc _
  · rw [cur_other hp hi] at e
    rw [cur_other hp hj]
    exact h.apart i j hi hj hij g e
  · by_cases e : j = k
    · subst e
      refine ⟨w.heap.size, upd_same _ _ _, Blk.new _ _ _, fun i hi => ?_⟩
      rw [cur_other hp hi]
      exact fun e => Nat.lt_irrefl _ (lt i hi _ e)
    · have hne : bI j ≠ bI k := fun e2 => e (hb j hj e2)
      rw [upd_other _ _ _ _ hne] at hd
      obtain ⟨g, e1, hg, hn⟩ := h.new j hj hd
      refine ⟨g, by rw [upd_other _ _ _ _ hne]; exact e1, hg.alloc _, fun i hi => ?_⟩
      rw [cur_other hp hi]
      exact hn i hi
  · obtain ⟨h1, h2, h3⟩ := h.keep g hg
    refine ⟨Nat.lt_of_lt_of_le h1 (by simp), (Below.heap_alloc w _ g h1).trans h2, fun i hi => ?_⟩
    rw [cur_other hp hi]
    exact h3 i hi
theorem LI.grown (h : LI w0 B0 V0 L0 x bI pI F d vs w) {k : Nat} {v' : Value} {w' : World} (hk : k < 4) (h0 : d (pI k) = false) (hp : ∀ j, j < 4 → pI j = pI k → j = k) (hb : ∀ j, j < 4 → bI j ≠ pI k)
    (own' : w'.ownsRow B0 5 1 v' (L0 k ++ [x k]).length (bc (L0 k ++ [x k]))) (hg : w.grownBy w' (V0 k).ownBlock) (hm : Moved w (V0 k) v') :
    LI w0 B0 V0 L0 x bI pI F (upd d (pI k) true) (upd vs (pI k) v') w' := by
  have ck : cur V0 pI d vs k = V0 k := by unfold cur; rw [h0]; rfl
  have cn : ∀ j, j < 4 → j ≠ k → cur V0 pI (upd d (pI k) true) (upd vs (pI k) v') j = cur V0 pI d vs j := fun j hj hjk => by
    have hne : pI j ≠ pI k := fun e => hjk (hp j hj e)
    unfold cur
    rw [upd_other _ _ _ _ hne, upd_other _ _ _ _ hne]
  have ln : ∀ j, j < 4 → j ≠ k → lst L0 x pI (upd d (pI k) true) j = lst L0 x pI d j := fun j hj hjk => by
    have hne : pI j ≠ pI k := fun e => hjk (hp j hj e)
    unfold lst
    rw [upd_other _ _ _ _ hne]
  have cs : cur V0 pI (upd d (pI k) true) (upd vs (pI k) v') k = v' := by unfold cur; rw [upd_same, upd_same]; rfl
  have ls : lst L0 x pI (upd d (pI k) true) k = L0 k ++ [x k] := by unfold lst; rw [upd_same]; rfl
  have lt : ∀ j, j < 4 → ∀ g, (cur V0 pI d vs j).ownBlock = some g → g < w.heap.size := fun j hj g e => ((h.own j hj).lt g e).2
  have vn : ∀ g, g < w.heap.size → (V0 k).ownBlock ≠ some g → v'.ownBlock ≠ some g := fun g hgl hne e => by
    rcases hm with h1 | ⟨q, h1, h2⟩
    · exact hne (h1 ▸ e)
    · rw [h1] at e
      injection e with e
      omega
  refine ⟨fun j hj => ?_, fun i j hi hj hij g e => ?_, fun j hj hd => ?_, fun g hF => ?_, h.below.grown hg h.base (fun j hj => ?_), Nat.le_trans h.base hg.size⟩
  · by_cases e : j = k
    · subst e
      rw [cs, ls]
      exact own'
    · rw [cn j hj e, ln j hj e]
      refine (h.own j hj).kept hg ?_
      cases ho : (cur V0 pI d vs j).ownBlock with
      | none => exact .inl rfl
      | some g =>
        refine .inr fun e2 => ?_
        have := h.apart j k hj hk e g ho
        rw [ck] at this
        exact this e2.symm
  · by_cases ei : i = k
    · subst ei
      have hjk : j ≠ i := fun e => hij e.symm
      rw [cs] at e
      rw [cn j hj hjk]
      intro e2
      have hgl := lt j hj g e2
      refine vn g hgl (fun e3 => ?_) e
      have := h.apart j i hj hi hjk g e2
      rw [ck] at this
      exact this e3
    · rw [cn i hi ei] at e
      by_cases ej : j = k
      · subst ej
        rw [cs]
        refine vn g (lt i hi g e) ?_
        have := h.apart i j hi hj hij g e
        rw [ck] at this
        exact this
      · rw [cn j hj ej]
        exact h.apart i j hi hj hij g e
  · have hne := hb j hj
    rw [upd_other _ _ _ _ hne] at hd
    obtain ⟨g, e1, hgb, hn⟩ := h.new j hj hd
    have hk0 := hn k hk
    rw [ck] at hk0
    refine ⟨g, by rw [upd_other _ _ _ _ hne]; exact e1, (hg.block g hgb.lt (fun e => hk0 e.symm)).trans hgb, fun i hi => ?_⟩
    by_cases e : i = k
    · subst e
      rw [cs]
      exact vn g hgb.lt hk0
    · rw [cn i hi e]
      exact hn i hi
  · obtain ⟨h1, h2, h3⟩ := h.keep g hF
    have hk0 := h3 k hk
    rw [ck] at hk0
    refine ⟨Nat.lt_of_lt_of_le h1 hg.size, (hg.block g h1 (fun e => hk0 e.symm)).trans h2, fun i hi => ?_⟩
    by_cases e : i = k
    · subst e
      rw [cs]
      exact vn g h1 hk0
    · rw [cn i hi e]
      exact h3 i hi
  · have := (h.own k hk).lt j (by rw [ck]; exact hj)
    exact this.1
theorem LI.row (h : LI w0 B0 V0 L0 x bI pI F d vs w) {k : Nat} (hk : k < 4) (h0 : d (pI k) = false) : w.ownsRow B0 5 1 (V0 k) (L0 k).length (bc (L0 k)) := by
  have h1 := h.own k hk
  unfold cur lst at h1
  rw [h0] at h1
  exact h1
theorem LI.fin (h : LI w0 B0 V0 L0 x bI pI F d vs w) (hd : ∀ k, k < 4 → d (pI k) = true) : (∀ k, k < 4 → w.ownsRow B0 5 1 (vs (pI k)) (L0 k ++ [x k]).length (bc (L0 k ++ [x k]))) ∧ ∀ j k, j < 4 → k < 4 → j ≠ k → ∀ g, (vs (pI j)).ownBlock = some g → (vs (pI k)).ownBlock ≠ some g := by
  have ec : ∀ k, k < 4 → cur V0 pI d vs k = vs (pI k) := fun k hk => by unfold cur; rw [hd k hk]; rfl
  have el : ∀ k, k < 4 → lst L0 x pI d k = L0 k ++ [x k] := fun k hk => by unfold lst; rw [hd k hk]; rfl
  refine ⟨fun k hk => ?_, fun j k hj hk hjk g e => ?_⟩
  · have h1 := h.own k hk
    rw [ec k hk, el k hk] at h1
    exact h1
  · rw [← ec j hj] at e
    rw [← ec k hk]
    exact h.apart j k hj hk hjk g e
end
end Go.Proofs.YtpnemkphdminnaaDoor
