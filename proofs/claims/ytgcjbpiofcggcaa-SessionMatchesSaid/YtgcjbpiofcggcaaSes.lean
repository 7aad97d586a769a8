/- A session in memory. -/
import Derived.Test.YtgcjbpiofcggcaaMdl
namespace Go.Proofs.Ytgcjbpiofcggcaa
open Go.ChangeShapes Go.WideShapes Go.ChangeAt Go.RowKit Go.ChangeMaps

theorem Blk.set_ {w : World} {g : Nat} {t : TypeId} {cs : Array Value} (h : Blk w g t cs) (i : Nat) (u : Value) : Blk (w.setCell ⟨g, i, none⟩ u) g t (cs.setIfInBounds i u) := Joins.block_setCell h u
theorem grown_set (w : World) (g i : Nat) (u : Value) : w.grownBy (w.setCell ⟨g, i, none⟩ u) (some g) := ⟨rfl, rfl, rfl, by simp [World.setCell], fun k _ hk => Below.heap_setCell w _ u k (fun e => hk (by rw [e]))⟩
theorem grown_trans {a b c : World} {row : Option Nat} (h : a.grownBy b row) (k : b.grownBy c row) : a.grownBy c row :=
  ⟨k.os.trans h.os, k.tape.trans h.tape, k.output.trans h.output, Nat.le_trans h.size k.size, fun i hi hne => (k.block i (Nat.lt_of_lt_of_le hi h.size) hne).trans (h.block i hi hne)⟩
/-- A row of the call's own between two blocks. -/
def Lies (w : World) (B M : Nat) (e : TypeId) (size : Nat) (v : Value) (n : Nat) (xs : List Value) : Prop := w.ownsRow B e size v n xs ∧ ∀ k, v.ownBlock = some k → k < M
theorem Lies.grown {w w' : World} {B M : Nat} {e : TypeId} {size : Nat} {v : Value} {n : Nat} {xs : List Value} {q : Nat} (h : Lies w B M e size v n xs) (hg : w.grownBy w' (some q)) (hq : v.ownBlock ≠ some q) : Lies w' B M e size v n xs :=
  ⟨h.1.kept hg (.inr hq), h.2⟩
/-- The statement that comes next, and whether there is one. -/
def fs (K : List Int) (cur : Nat) : Nat := fst_ K.length (splitM K) cur
def nx (K : List Int) (cur ex : Nat) : Nat × Bool := if cur < (splitM K).length then (if fs K cur + ex ≤ endM K (fs K cur) then (fs K cur + ex, true) else (endM K (fs K cur), false)) else (0, false)
def Ses (w : World) (B M p num : Nat) (K : List Int) (cur ex : Nat) : Prop :=
  ∃ S T, Blk w p 70 #[.int .i64 (num : Int), S, T, .int .i64 (cur : Int), .int .i64 (ex : Int)] ∧ B ≤ p ∧ p < M ∧ Lies w B M 56 22 S K.length (stC K K.length) ∧ Lies w B M 31 2 T (splitM K).length (pC (splitM K)) ∧
    cur ≤ (splitM K).length ∧ ex ≤ K.length ∧ K.length ≤ 300000000000 ∧ num < 8
section
variable {w w' : World} {B M p num : Nat} {K : List Int} {cur ex : Nat}
theorem Ses.grown {q : Nat} (h : Ses w B M p num K cur ex) (hg : w.grownBy w' (some q)) (hq : M ≤ q ∨ q < B) : Ses w' B M p num K cur ex := by
  obtain ⟨S, T, hb, h1, h2, h3, h4, h5⟩ := h
  refine ⟨S, T, (hg.block p hb.lt (fun e => by injection e with e; omega)).trans hb, h1, h2, h3.grown hg (fun e => ?_), h4.grown hg (fun e => ?_), h5⟩
  · have := h3.1.lt _ e; have := h3.2 _ e; omega
  · have := h4.1.lt _ e; have := h4.2 _ e; omega
theorem Ses.below (h : Ses w B M p num K cur ex) (hb : Below w.heap.size w w') : Ses w' B M p num K cur ex := by
  obtain ⟨S, T, hk, h1, h2, h3, h4, h5⟩ := h
  exact ⟨S, T, hk.below hb, h1, h2, ⟨own_below h3.1 hb, h3.2⟩, ⟨own_below h4.1 hb, h4.2⟩, h5⟩
theorem Ses.lt (h : Ses w B M p num K cur ex) : p < w.heap.size := by obtain ⟨S, T, hk, _⟩ := h; exact hk.lt
/-- What a step that writes the session leaves. -/
def Upd (w : World) (B M p num : Nat) (K : List Int) (cur ex : Nat) (e : Ending) (w' : World) : Prop := e = .returned (.tuple #[]) ∧ w.grownBy w' (some p) ∧ Ses w' B M p num K cur ex
theorem Ses.set_ex (h : Ses w B M p num K cur ex) (x : Nat) (hx : x ≤ K.length) : Ses (w.setCell ⟨p, 4, none⟩ (.int .i64 (x : Int))) B M p num K cur x := by
  obtain ⟨S, T, hb, h1, h2, h3, h4, h5, h6, h7⟩ := h
  have hg := grown_set w p 4 (.int .i64 (x : Int))
  exact ⟨S, T, hb.set_ 4 _, h1, h2, h3.grown hg (own_blk_ne h3.1 hb (by decide)), h4.grown hg (own_blk_ne h4.1 hb (by decide)), h5, hx, h7⟩
theorem Ses.set_cur (h : Ses w B M p num K cur ex) (x : Nat) (hx : x ≤ (splitM K).length) : Ses (w.setCell ⟨p, 3, none⟩ (.int .i64 (x : Int))) B M p num K x ex := by
  obtain ⟨S, T, hb, h1, h2, h3, h4, h5, h6, h7⟩ := h
  have hg := grown_set w p 3 (.int .i64 (x : Int))
  exact ⟨S, T, hb.set_ 3 _, h1, h2, h3.grown hg (own_blk_ne h3.1 hb (by decide)), h4.grown hg (own_blk_ne h4.1 hb (by decide)), hx, h6, h7⟩
/-- The cells of a session. -/
theorem Ses.parts (h : Ses w B M p num K cur ex) : ∃ A a D d, At w A K.length 22 (stC K K.length) ∧ At w D (splitM K).length 2 (pC (splitM K)) ∧ w.cell? ⟨p, 0, none⟩ = some (.int .i64 (num : Int)) ∧ w.cell? ⟨p, 1, none⟩ = some (.slice A K.length a) ∧
    w.cell? ⟨p, 2, none⟩ = some (.slice D (splitM K).length d) ∧ w.cell? ⟨p, 3, none⟩ = some (.int .i64 (cur : Int)) ∧ w.cell? ⟨p, 4, none⟩ = some (.int .i64 (ex : Int)) ∧
    cur ≤ (splitM K).length ∧ ex ≤ K.length ∧ K.length ≤ 300000000000 ∧ num < 8 ∧ (splitM K).length ≤ K.length := by
  obtain ⟨S, T, hb, h1, h2, h3, h4, h5, h6, h7, h8⟩ := h
  obtain ⟨A, a, rfl, hA, _⟩ := At.of_own h3.1
  obtain ⟨D, d, rfl, hD, _⟩ := At.of_own h4.1
  exact ⟨A, a, D, d, hA, hD, hb.cell 0, hb.cell 1, hb.cell 2, hb.cell 3, hb.cell 4, h5, h6, h7, h8, splitM_len K⟩
end
end Go.Proofs.Ytgcjbpiofcggcaa
