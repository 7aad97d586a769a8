/- A drawn region: two operations that may come up at the same time, both making memory. -/
import Derived.Test.YtgenpldldgplhaaMix
namespace Go.Proofs.Ytgenpldldgplhaa
open Go.ChangeShapes Go.WideShapes Go.ChangeAt Go.RowKit Go.ChangeMaps

section
variable {P : Program} {ops : Array Oper} {Q : Exit → Act → World → Prop} {S : World → Prop}
theorem wpM_both {n f i j : Nat} {T : List Oper} {oi oj : Oper} {listed : Array Bool} {a : Act} {w : World} (ho : ops[i]? = some oi) (ho' : ops[j]? = some oj) (hr : Region.ready .any ops listed = [i, j]) (hin : i < n) (hjn : j < n)
    (h : ∀ K' : Act → World → Prop, Shut (∀ a w, S w → wpM P ops Q S n T f (listed.setIfInBounds i true) a w → K' a w) → if Region.wanted oi (yielded ops a.tmps) = true then Oper.wp P oi a w K' Q else K' (a.put oi.dst undef) w)
    (h' : ∀ K' : Act → World → Prop, Shut (∀ a w, S w → wpM P ops Q S n T f (listed.setIfInBounds j true) a w → K' a w) → if Region.wanted oj (yielded ops a.tmps) = true then Oper.wp P oj a w K' Q else K' (a.put oj.dst undef) w) : wpM P ops Q S n T (f + 1) listed a w := by
  have g : wpOp P ops Q i (fun a' w' => S w' ∧ wpM P ops Q S n T f (listed.setIfInBounds i true) a' w') a w := wpOp_step ho fun K' hK => h K' (fun a w hS hW => hK a w ⟨hS, hW⟩)
  have g' : wpOp P ops Q j (fun a' w' => S w' ∧ wpM P ops Q S n T f (listed.setIfInBounds j true) a' w') a w := wpOp_step ho' fun K' hK => h' K' (fun a w hS hW => hK a w ⟨hS, hW⟩)
  intro inv
  refine ⟨fun h0 => (by rw [hr] at h0; cases h0), fun k hk => ?_⟩
  have hk0 := hk
  rw [hr] at hk
  have hk' : k = i ∨ k = j := by simpa using hk
  rcases hk' with rfl | rfl
  · exact ⟨hin, wpOp_mono (fun a' w' h' => ⟨h'.1, h'.2 (inv.set hk0 hin)⟩) g⟩
  · exact ⟨hjn, wpOp_mono (fun a' w' h' => ⟨h'.1, h'.2 (inv.set hk0 hjn)⟩) g'⟩
/-- An operation that gives a value known ahead, whatever world it is carried out in, and keeps S. -/
def Makes (P : Program) (ops : Array Oper) (Q : Exit → Act → World → Prop) (S : World → Prop) (o : Oper) (v : Value) (a : Act) : Prop :=
  ∀ (w : World) (K : Act → World → Prop), S w → (∀ w', S w' → K (a.put o.dst v) w') → if Region.wanted o (yielded ops a.tmps) = true then Oper.wp P o a w K Q else K (a.put o.dst undef) w
theorem wpM_calls2 {n f i j : Nat} {T : List Oper} {oi oj : Oper} (vi vj : Value) {listed : Array Bool} {a : Act} {w : World} (hoi : ops[i]? = some oi) (hoj : ops[j]? = some oj) (hr : Region.ready .any ops listed = [i, j])
    (hri : Region.ready .any ops (listed.setIfInBounds i true) = [j]) (hrj : Region.ready .any ops (listed.setIfInBounds j true) = [i]) (hin : i < n) (hjn : j < n) (hij : i ≠ j) (hd : ∀ d, oi.dst = some d → oj.dst ≠ some d)
    (m1 : Makes P ops Q S oi vi a) (m2 : Makes P ops Q S oj vj (a.put oi.dst vi)) (m3 : Makes P ops Q S oj vj a) (m4 : Makes P ops Q S oi vi (a.put oj.dst vj)) (hS : S w)
    (h : ∀ w', S w' → wpM P ops Q S n T f ((listed.setIfInBounds i true).setIfInBounds j true) ((a.put oi.dst vi).put oj.dst vj) w') : wpM P ops Q S n T (f + 1 + 1) listed a w := by
  refine wpM_both hoi hoj hr hin hjn (fun K hK => m1 w K hS fun w1 h1 => hK.out _ _ h1 (wpM_step hoj hri hjn fun K2 hK2 => m2 w1 K2 h1 fun w2 h2 => hK2.out _ _ h2 (h w2 h2)))
    (fun K hK => m3 w K hS fun w1 h1 => hK.out _ _ h1 (wpM_step hoi hrj hin fun K2 hK2 => m4 w1 K2 h1 fun w2 h2 => hK2.out _ _ h2 ?_))
  rw [Array.setIfInBounds_comm _ _ (Ne.symm hij), Act.put_comm a vj vi (fun d e e' => hd d e' e)]
  exact h w2 h2
theorem wpM_listed {n f : Nat} {T : List Oper} {l l' : Array Bool} {a : Act} {w : World} (e : l' = l) (h : wpM P ops Q S n T f l a w) : wpM P ops Q S n T f l' a w := by rw [e]; exact h
end
theorem cut4 {R : World → Prop} {G : Prop} (P : World → Value → Value → Value → Prop) (h1 : (∀ W x y z, R W → P W x y z) → G) (h2 : ∀ W x y z, R W → P W x y z) : G := h1 h2
end Go.Proofs.Ytgenpldldgplhaa
