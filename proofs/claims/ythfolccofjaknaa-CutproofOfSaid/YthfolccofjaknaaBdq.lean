/- Division, rounded down. -/
import Derived.Test.YthfolccofjaknaaBdv
import Derived.Test.YthfolccofjaknaaMB
import Derived.Test.YthfolccofjaknaaBcp
import Derived.Deep.Cut
namespace Go.Proofs.Ythfolccofjaknaa
open Go.ChangeShapes Go.WideShapes Go.ChangeAt Go.RowKit Go.ChangeMaps

theorem results_c3 {fn : Func} {p q s : Tmp} {ty : TypeId} (h : fn.results = #[.cell p ty, .cell q ty, .tmp s]) (tmps : Array Value) (P : Program) (w : World) (g g2 : Nat) (X Y : Value)
    (hp : tmps.getD p undef = .pointer (some ⟨g, 0, none⟩)) (hq : tmps.getD q undef = .pointer (some ⟨g2, 0, none⟩)) (h1 : (loadVar ty ⟨g, 0, none⟩).run P w = .ok X w) (h2 : (loadVar ty ⟨g2, 0, none⟩).run P w = .ok Y w) : (results fn tmps).run P w = .ok (.tuple #[X, Y, tmps.getD s undef]) w := by
  have hp' : tmps[p]?.getD undef = .pointer (some ⟨g, 0, none⟩) := by simpa using hp
  have hq' : tmps[q]?.getD undef = .pointer (some ⟨g2, 0, none⟩) := by simpa using hq
  simp [results, h, hp', hq', asAddr, h1, h2, Sem.run_bind, Result.andThen]
/-- What the division gives for a divisor that is not zero. -/
def QR (z1 z2 q r : Int) : Prop := z1 = q * z2 + r ∧ ((0 ≤ r ∧ r < z2) ∨ (z2 < r ∧ r ≤ 0))
def DFPost (w : World) (z1 z2 : Int) (N : Nat) (e : Ending) (w' : World) : Prop := ∃ vq vr q r, e = .returned (.tuple #[vq, vr, .bool true]) ∧ NB w' w.heap.size vq q N ∧ NB w' w.heap.size vr r N ∧ QR z1 z2 q r ∧ Below w.heap.size w w'
theorem qr_same {s : Bool} {x y Q R : Nat} (h : x = Q * y + R) (hR : R < y) : QR (sgn s x) (sgn s y) (Q : Int) (sgn s R) := by
  subst h
  cases s
  · refine ⟨by simp [sgn], .inl ⟨by simp [sgn], by simp [sgn]; omega⟩⟩
  · refine ⟨by have := Int.mul_neg (Q : Int) (y : Int); simp [sgn]; omega, .inr ⟨by simp [sgn]; omega, by simp [sgn]⟩⟩
theorem qr_zero {s t : Bool} {x y Q : Nat} (h : x = Q * y + 0) (hy : 0 < y) (hst : s ≠ t) : QR (sgn s x) (sgn t y) (-(Q : Int)) 0 := by
  subst h
  have hm := Int.mul_neg (Q : Int) (y : Int)
  have hn := Int.neg_mul (Q : Int) (y : Int)
  have hp := Int.neg_mul_neg (Q : Int) (y : Int)
  cases s <;> cases t
  · exact absurd rfl hst
  · refine ⟨?_, .inr ⟨by simp [sgn]; omega, by omega⟩⟩
    simp only [sgn, if_neg (by decide : ¬ false = true)]
    push_cast
    omega
  · refine ⟨?_, .inl ⟨by omega, by simp [sgn]; omega⟩⟩
    simp only [sgn, if_neg (by decide : ¬ false = true)]
    push_cast
    omega
  · exact absurd rfl hst
theorem qr_diff {s t : Bool} {x y Q R : Nat} (h : x = Q * y + R) (hR : R < y) (h0 : R ≠ 0) (hst : s ≠ t) : QR (sgn s x) (sgn t y) (-(Q : Int) - 1) (sgn s R + sgn t y) := by
  subst h
  cases s <;> cases t
  · exact absurd rfl hst
  · refine ⟨?_, .inr ⟨by simp [sgn]; omega, by simp [sgn]; omega⟩⟩
    simp only [sgn, if_neg (by decide : ¬ false = true), Int.sub_mul, Int.neg_mul]
    push_cast
    have := Int.mul_neg (Q : Int) (y : Int)
    omega
  · refine ⟨?_, .inl ⟨by simp [sgn]; omega, by simp [sgn]; omega⟩⟩
    simp only [sgn, if_neg (by decide : ¬ false = true), Int.sub_mul, Int.neg_mul]
    push_cast
    have := Int.mul_neg (Q : Int) (y : Int)
    omega
  · exact absurd rfl hst
theorem Own.cellset {w : World} {base g : Nat} {A : Option Addr} {n : Nat} {D : List Nat} {cs : Array Value} (h : Own w base A n D) (hk : Blk w g 37 cs) (j : Nat) (u : Value) : Own (w.setCell ⟨g, j, none⟩ u) base A n D :=
  ⟨h.1, h.2.1, fun hn => by
    obtain ⟨g2, off, cs2, e, hg, hb, hc⟩ := h.2.2 hn
    refine ⟨g2, off, cs2, e, hg, (store_step hk j u).2.1 _ _ _ (fun e => ?_) hb, hc⟩
    subst e
    have := hb.symm.trans hk
    injection this with this
    injection this with _ e2
    exact absurd e2 (by decide)⟩
theorem NB.cellset {w : World} {base g N : Nat} {v : Value} {z : Int} {cs : Array Value} (h : NB w base v z N) (hk : Blk w g 37 cs) (j : Nat) (u : Value) : NB (w.setCell ⟨g, j, none⟩ u) base v z N :=
  let ⟨A, n, c, D, e, ho, hs, hn, hv, hN⟩ := h; ⟨A, n, c, D, e, ho.cellset hk j u, hs, hn, hv, hN⟩
end Go.Proofs.Ythfolccofjaknaa
