/- Torn sectors. -/
import Derived.Test.YthhpilkhcomhbaaDoorAwk
namespace Go.Proofs.YthhpilkhcomhbaaDoor
open Go.ChangeShapes Go.WideShapes Go.ChangeAt Go.RowKit Go.ChangeMaps

theorem pure_below {P : Program} {f : FuncId} {args : Array Value} {w : World} {e0 : Ending} (h : Calls P f args w fun e w' => e = e0 ∧ w = w') : Calls P f args w fun e w' => e = e0 ∧ Below w.heap.size w w' := h.mono fun _ _ ⟨a, b⟩ => ⟨a, by subst b; exact Below.refl _ _⟩
theorem BytesAt.take {w : World} {b off n k : Nat} {l : List UInt8} (h : BytesAt w (some ⟨b, off, none⟩) n l) (hk : k ≤ n) : BytesAt w (some ⟨b, off, none⟩) k (l.take k) :=
  ⟨by rw [List.length_take, h.1]; omega, fun hn => by
    obtain ⟨b', off', e, hl, hc⟩ := h.2 (by omega)
    cases e
    exact ⟨b, off, rfl, hl, fun i hi => by
      rw [List.length_take] at hi
      rw [hc i (by omega)]
      simp⟩⟩
theorem BytesAt.drop {w : World} {b off n k : Nat} {l : List UInt8} (h : BytesAt w (some ⟨b, off, none⟩) n l) (hk : k ≤ n) : BytesAt w (some ⟨b, off + k, none⟩) (n - k) (l.drop k) :=
  ⟨by rw [List.length_drop, h.1], fun hn => by
    obtain ⟨b', off', e, hl, hc⟩ := h.2 (by omega)
    cases e
    exact ⟨b, off + k, rfl, hl, fun i hi => by
      rw [List.length_drop] at hi
      rw [Nat.add_assoc, hc (k + i) (by omega)]
      simp⟩⟩
theorem BytesAt.some {w : World} {A : Option Addr} {n : Nat} {l : List UInt8} (h : BytesAt w A n l) (hn : 0 < n) : ∃ b off, A = .some ⟨b, off, none⟩ := by
  obtain ⟨b, off, e, _⟩ := h.2 hn
  exact ⟨b, off, e⟩
theorem BytesAt.nil (w : World) (A : Option Addr) (l : List UInt8) (h : l = []) : BytesAt w A 0 l := ⟨by rw [h]; rfl, fun h => absurd h (by omega)⟩
theorem torn_take {a b : List UInt8} {j k : Nat} (ha : a.length = 64) (hb : b.length = 64) (hk : k ≤ j) (hj : j ≤ 64) : (b.take j ++ a.drop j).take k = b.take k := by
  rw [List.take_append_of_le_length (by rw [List.length_take]; omega), List.take_take, Nat.min_eq_left hk]
theorem torn_drop {a b : List UInt8} {j : Nat} (ha : a.length = 64) (hb : b.length = 64) (hj : j ≤ 64) : (b.take j ++ a.drop j).drop j = a.drop j := by
  have h1 : (b.take j).length = j := by rw [List.length_take]; omega
  rw [List.drop_append_of_le_length (by omega), List.drop_of_length_le (by omega), List.nil_append]
end Go.Proofs.YthhpilkhcomhbaaDoor
