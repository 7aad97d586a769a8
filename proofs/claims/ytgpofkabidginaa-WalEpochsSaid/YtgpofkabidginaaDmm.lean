/- A disk and its reference. -/
import Derived.Test.YtgpofkabidginaaRnw
namespace Go.Proofs.Ytgpofkabidginaa
open Go.ChangeShapes Go.WideShapes Go.ChangeAt Go.RowKit Go.ChangeMaps

def F4 (p q r t : Nat) : Nat → Prop := fun k => k = p ∨ k = q ∨ k = r ∨ k = t
structure DM (w : World) (p q r t : Nat) (s : St) : Prop where
  d : Dk w p q s
  rk : Rk (F4 p q r t) w r t s
  ne : r ≠ p ∧ r ≠ q ∧ t ≠ p ∧ t ≠ q
theorem F4_pq {p q r t k : Nat} (h : PQ p q k) : F4 p q r t k := by rcases h with h | h; (· exact .inl h); exact .inr (.inl h)
theorem F4_rt {p q r t k : Nat} (h : PQ r t k) : F4 p q r t k := by rcases h with h | h; (· exact .inr (.inr (.inl h))); exact .inr (.inr (.inr h))
section
variable {w w' : World} {p q r t : Nat} {s s' : St}
theorem Rk.lts {F : Nat → Prop} (h : Rk F w r t s) : r < w.heap.size ∧ t < w.heap.size := by
  obtain ⟨cap, cur, h1, h2, _⟩ := h
  exact ⟨h1.lt, h2.lt⟩
theorem DM.lt (hd : Dk w p q s) {F : Nat → Prop} (hr : Rk F w r t s') : ∀ k, F4 p q r t k → k < w.heap.size := fun k hk => by
  have h1 := hd.1.lt
  have h2 := hd.2.1.lt
  have h3 := hr.lts
  rcases hk with e | e | e | e <;> omega
theorem DM.below (h : DM w p q r t s) (hb : Below w.heap.size w w') : DM w' p q r t s := ⟨h.d.below hb, h.rk.below hb, h.ne⟩
theorem Rk.pq (h : Rk (F4 p q r t) w r t s) (hne : r ≠ p ∧ r ≠ q ∧ t ≠ p ∧ t ≠ q) (hc : Chg (PQ p q) w w') : Rk (F4 p q r t) w' r t s :=
  h.chg hc (fun _ => F4_pq) (fun e => by rcases e with e | e; (· exact hne.1 e); exact hne.2.1 e) (fun e => by rcases e with e | e; (· exact hne.2.2.1 e); exact hne.2.2.2 e)
theorem Dk.rt (h : Dk w p q s) (hne : r ≠ p ∧ r ≠ q ∧ t ≠ p ∧ t ≠ q) (hc : Chg (PQ r t) w w') : Dk w' p q s :=
  h.chg hc (fun e => by rcases e with e | e; (· exact hne.1 e.symm); exact hne.2.2.1 e.symm) (fun e => by rcases e with e | e; (· exact hne.2.1 e.symm); exact hne.2.2.2 e.symm)
end
section
variable (v0 : World) (p q r t o8 : Nat) (s : St) (sc : Int) (hne : r ≠ p ∧ r ≠ q ∧ t ≠ p ∧ t ≠ q) (hx : s.x < 1000000000) (x0 x2 x3 : Value) (KO : Blk v0 o8 48 #[x0, .int .i64 sc, x2, x3]) (ho : ¬ F4 p q r t o8)
include hne hx KO ho
omit hne hx in
end
end Go.Proofs.Ytgpofkabidginaa
