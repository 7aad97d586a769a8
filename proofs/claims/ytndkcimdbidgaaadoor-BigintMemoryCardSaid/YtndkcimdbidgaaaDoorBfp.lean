/- The decimal text of an integer, in pieces of nine digits (pure). -/
import Derived.Test.YtndkcimdbidgaaaDoorBnu
import Derived.Lib.ItoaNum
namespace Go.Proofs.YtndkcimdbidgaaaDoor
open Go.ChangeShapes Go.WideShapes Go.ChangeAt Go.RowKit Go.ChangeMaps

open Lib
/-- The last 'k' digits of a number. -/
def lastD : Nat → Nat → List UInt8
  | 0, _ => []
  | k + 1, r => lastD k (r / 10) ++ [UInt8.ofNat (48 + r % 10)]
theorem lastD_len : ∀ (k r : Nat), (lastD k r).length = k
  | 0, _ => rfl
  | k + 1, r => by rw [lastD, List.length_append, lastD_len k]; rfl
theorem lastD_mod : ∀ (k r : Nat), lastD k (r % 10 ^ k) = lastD k r
  | 0, _ => rfl
  | k + 1, r => by
    rw [lastD, lastD, Nat.pow_succ, Nat.mod_mod_of_dvd r (Nat.dvd_mul_left 10 (10 ^ k)), show r % (10 ^ k * 10) / 10 = r / 10 % 10 ^ k from by rw [Nat.mul_comm, Nat.mod_mul_right_div_self], lastD_mod k]
theorem decDigits_split : ∀ (k v : Nat), 10 ^ k ≤ v → decDigits v = decDigits (v / 10 ^ k) ++ lastD k v
  | 0, v, _ => by simp [lastD]
  | k + 1, v, h => by
    have h1 : 10 ^ k ≤ v / 10 := by rw [Nat.pow_succ] at h; omega
    have h2 : 1 ≤ 10 ^ k := Nat.one_le_pow _ _ (by decide)
    have h3 : ¬ v < 10 := by omega
    rw [decDigits, dif_neg h3, decDigits_split k (v / 10) h1, lastD, Nat.pow_succ, Nat.mul_comm, ← Nat.div_div_eq_div_mul, List.append_assoc]
theorem lastD_zero : ∀ (k : Nat), lastD k 0 = List.replicate k 48
  | 0 => rfl
  | k + 1 => by
    rw [lastD, Nat.zero_div, lastD_zero k, List.replicate_succ']
    rfl
theorem lastD_pad : ∀ (k v : Nat), v < 10 ^ k → 0 < k → lastD k v = List.replicate (k - (decDigits v).length) 48 ++ decDigits v
  | 0, _, _, h => absurd h (by decide)
  | k + 1, v, h, _ => by
    by_cases h3 : v < 10
    · rw [decDigits, dif_pos h3, lastD, Nat.div_eq_of_lt h3, lastD_zero, Nat.mod_eq_of_lt h3]
      rfl
    · have h0 : 0 < k := by
        rcases Nat.eq_zero_or_pos k with e | e
        · subst e; simp at h; omega
        · exact e
      rw [lastD, lastD_pad k (v / 10) (by rw [Nat.pow_succ] at h; omega) h0]
      rw [show decDigits v = decDigits (v / 10) ++ [UInt8.ofNat (48 + v % 10)] from by rw [decDigits, dif_neg h3]]
      rw [List.length_append, List.length_singleton, List.append_assoc, Nat.add_sub_add_right]
/-- The pieces of a number, the lowest first. -/
def pieces (v : Nat) : List (List UInt8) :=
  if h : v = 0 then [] else if v / 1000000000 = 0 then [decDigits v] else lastD 9 (v % 1000000000) :: pieces (v / 1000000000)
termination_by v
decreasing_by omega
theorem pieces_zero : pieces 0 = [] := by rw [pieces, dif_pos rfl]
theorem pieces_step {v : Nat} (h : v ≠ 0) : pieces v = (if v / 1000000000 = 0 then decDigits (v % 1000000000) else lastD 9 (v % 1000000000)) :: pieces (v / 1000000000) := by
  rw [pieces, dif_neg h]
  by_cases h2 : v / 1000000000 = 0
  · rw [if_pos h2, if_pos h2, h2, pieces_zero, Nat.mod_eq_of_lt (by omega)]
  · rw [if_neg h2, if_neg h2]
theorem pieces_text (v : Nat) (h : v ≠ 0) : (pieces v).reverse.flatten = decDigits v := by
  induction v using Nat.strongRecOn with
  | _ v ih =>
    rw [pieces_step h]
    by_cases h2 : v / 1000000000 = 0
    · rw [if_pos h2, h2, pieces_zero, Nat.mod_eq_of_lt (by omega)]; simp
    · rw [if_neg h2, List.reverse_cons, List.flatten_append, ih (v / 1000000000) (by omega) h2]
      have h3 := decDigits_split 9 v (by omega)
      have h4 := lastD_mod 9 v
      rw [show (10 : Nat) ^ 9 = 1000000000 from by decide] at h3 h4
      rw [h3, h4]
      simp
/-- The text of an integer. -/
def fmtZ (z : Int) : List UInt8 := if z < 0 then 45 :: decDigits z.natAbs else decDigits z.natAbs
end Go.Proofs.YtndkcimdbidgaaaDoor
