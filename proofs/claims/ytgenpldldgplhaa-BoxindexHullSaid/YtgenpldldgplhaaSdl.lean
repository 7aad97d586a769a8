/- Lists of sides. -/
import Derived.Test.YtgenpldldgplhaaSdm
import Derived.StillTail
import Derived.StillTactics
namespace Go.Proofs.Ytgenpldldgplhaa
open Go.ChangeShapes Go.WideShapes Go.ChangeAt Go.RowKit Go.ChangeMaps

def Sds (w : World) (A : Option Addr) (n : Nat) (R : List Sd) : Prop := At w A n 6 (R.flatMap Sd.cells)
theorem Sds.len {w : World} {A : Option Addr} {n : Nat} {R : List Sd} (h : Sds w A n R) : R.length = n := by
  have h1 := h.1
  rw [flat_len Sd.cells 6 (fun _ => rfl)] at h1
  omega
theorem Sds.below {w w' : World} {A : Option Addr} {n : Nat} {R : List Sd} (h : Sds w A n R) (hb : Below w.heap.size w w') : Sds w' A n R := At.below h hb
theorem Sds.at {w : World} {A : Option Addr} {n : Nat} {R : List Sd} (h : Sds w A n R) (hn : 0 < n) : ∃ b off, A = some ⟨b, off, none⟩ ∧ b < w.heap.size ∧ ∀ (W : World), Below w.heap.size w W → ∀ i (hi : i < R.length),
    W.cell? ⟨b, off + i * 6, none⟩ = some (.bool R[i].nu) ∧ W.cell? ⟨b, off + i * 6 + 1, none⟩ = some (.bool R[i].ot) ∧ W.cell? ⟨b, off + i * 6 + 2, none⟩ = some (.int .i64 R[i].lo) ∧ W.cell? ⟨b, off + i * 6 + 3, none⟩ = some (.int .i64 R[i].hi) ∧ W.cell? ⟨b, off + i * 6 + 4, none⟩ = some (.string R[i].fr) ∧ W.cell? ⟨b, off + i * 6 + 5, none⟩ = some (.string R[i].to) := by
  obtain ⟨b, off, e, hb, hc⟩ := h.2 hn
  refine ⟨b, off, e, hb, fun W hW i hi => ?_⟩
  have g : ∀ j u, j < 6 → (R[i].cells)[j]? = some u → W.cell? ⟨b, off + i * 6 + j, none⟩ = some u := fun j u hj hu => by
    rw [Nat.add_assoc]
    exact keepcell hW (hc _ _ ((flat_get Sd.cells 6 (fun _ => rfl) R i j hi hj).trans hu))
  exact ⟨g 0 _ (by decide) rfl, g 1 _ (by decide) rfl, g 2 _ (by decide) rfl, g 3 _ (by decide) rfl, g 4 _ (by decide) rfl, g 5 _ (by decide) rfl⟩
theorem drop_all {α : Type} (p : α → Bool) (R : List α) (k : Nat) (h : k < R.length) : (R.drop k).all p = (p R[k] && (R.drop (k + 1)).all p) := by
  rw [List.drop_eq_getElem_cons h]; rfl
def isZ (n : Nat) : Bool := n == 0
theorem region_tail {P : Program} {id : Nat} {Q : Exit → Act → World → Prop} {a : Act} {w : World} {l : List Oper} (n : Nat) (hm : P.follows .mixedOrders = true) (hB : Region.lexTailB .any l.toArray n = true)
    (h : ∀ D : World, Below w.heap.size w D → D.heap.size = w.heap.size → wpStill P l.toArray D (fun a' => wpList P l.toArray Q (l.drop n) a' D) (l.take n) a) : (Code.region id l.toArray true).wp P Q a w :=
  wp_region_still_tail n hm hB (h _ ⟨rfl, rfl, rfl, Nat.le_refl _, fun _ _ => rfl⟩ rfl)
def zipAll {α β : Type} (p : α → β → Bool) : List α → List β → Bool
  | a :: l, b :: m => p a b && zipAll p l m
  | _, _ => true
theorem zip_drop {α β : Type} (p : α → β → Bool) (R : List α) (S : List β) (k : Nat) (h : k < R.length) (g : k < S.length) : zipAll p (R.drop k) (S.drop k) = (p R[k] S[k] && zipAll p (R.drop (k + 1)) (S.drop (k + 1))) := by
  rw [List.drop_eq_getElem_cons h, List.drop_eq_getElem_cons g]; rfl
theorem zip_end {α β : Type} (p : α → β → Bool) (R : List α) (S : List β) (k : Nat) (h : R.length ≤ k) : zipAll p (R.drop k) (S.drop k) = true := by
  rw [List.drop_of_length_le h]; simp [zipAll]
def meetB (t u : Int) (R S : List Sd) : Bool := if t = u then if R.length = S.length then if R.length = 0 then false else zipAll Sd.meetB R S else false else false
end Go.Proofs.Ytgenpldldgplhaa
