/- The bytes of integers are ordered as the integers. -/
import Derived.Test.YtdfkcibmmabjcaaPre
namespace Go.Proofs.Ytdfkcibmmabjcaa
open Go.ChangeShapes Go.WideShapes Go.ChangeAt Go.RowKit

def valr : List UInt8 → Int
  | [] => 0
  | x :: l => (x.toNat : Int) * 256 ^ l.length + valr l
theorem pow_pos' (n : Nat) : (0 : Int) < 256 ^ n := Int.pow_pos (by omega)
theorem valr_bd : ∀ l, 0 ≤ valr l ∧ valr l < 256 ^ l.length
  | [] => by simp [valr]
  | x :: l => by
    obtain ⟨p, q⟩ := valr_bd l
    have hx : x.toNat < 256 := x.toNat_lt
    have h1 := pow_pos' l.length
    have h2 : (x.toNat : Int) * 256 ^ l.length ≤ 255 * 256 ^ l.length := Int.mul_le_mul_of_nonneg_right (by omega) (by omega)
    have h3 : 0 ≤ (x.toNat : Int) * 256 ^ l.length := Int.mul_nonneg (by omega) (by omega)
    simp only [valr, List.length_cons, Int.pow_succ]
    omega
theorem val8_valr (l : List UInt8) : ∀ a : Int, l.foldl (fun a x => 256 * a + (x.toNat : Int)) a = a * 256 ^ l.length + valr l := by
  induction l with
  | nil => intro a; simp [valr]
  | cons x l ih => intro a; rw [List.foldl_cons, ih]; simp only [valr, List.length_cons, Int.pow_succ]; grind
theorem val8_is (l : List UInt8) : val8 l = valr l := by unfold val8; rw [val8_valr]; omega
theorem less_valr : ∀ l m : List UInt8, l.length = m.length → Op.bytesLess l m = decide (valr l < valr m)
  | [], [], _ => rfl
  | [], _ :: _, h => by simp at h
  | _ :: _, [], h => by simp at h
  | x :: l, y :: m, h => by
    have hl : l.length = m.length := by simpa using h
    rw [less_cons, less_valr l m hl]
    obtain ⟨p, q⟩ := valr_bd l
    obtain ⟨p', q'⟩ := valr_bd m
    have ex : valr (x :: l) = (x.toNat : Int) * 256 ^ m.length + valr l := by simp only [valr]; rw [hl]
    have ey : valr (y :: m) = (y.toNat : Int) * 256 ^ m.length + valr m := rfl
    rw [ex, ey]
    rw [hl] at q
    clear ex ey
    have hP := pow_pos' m.length
    generalize (256 : Int) ^ m.length = P at *
    rcases Nat.lt_trichotomy x.toNat y.toNat with c | c | c
    · have h1 : x < y := UInt8.lt_iff_toNat_lt.2 c
      have h2 : ((x.toNat : Int) + 1) * P ≤ (y.toNat : Int) * P := Int.mul_le_mul_of_nonneg_right (by omega) (by omega)
      rw [Int.add_mul] at h2
      have : decide ((x.toNat : Int) * P + valr l < (y.toNat : Int) * P + valr m) = true := decide_eq_true (by omega)
      simp [h1, this]
    · obtain rfl : x = y := UInt8.toNat.inj c
      have h1 : ¬ x < x := by intro h; have := UInt8.lt_iff_toNat_lt.1 h; omega
      simp [h1]
    · have h1 : ¬ x < y := by intro h; have := UInt8.lt_iff_toNat_lt.1 h; omega
      have h4 : (x == y) = false := by simp; intro e; subst e; omega
      have h2 : ((y.toNat : Int) + 1) * P ≤ (x.toNat : Int) * P := Int.mul_le_mul_of_nonneg_right (by omega) (by omega)
      rw [Int.add_mul] at h2
      have : decide ((x.toNat : Int) * P + valr l < (y.toNat : Int) * P + valr m) = false := decide_eq_false (by omega)
      simp [h1, h4, this]
theorem val8_num8 (m : Int) (h0 : 0 ≤ m) (h1 : m < 18446744073709551616) : val8 (num8 m) = m := by
  unfold val8 num8
  simp only [List.foldl_cons, List.foldl_nil, u8_val, u8_toNat (m / 72057594037927936) (by omega) (by omega)]
  omega
theorem valr_inj : ∀ l m : List UInt8, l.length = m.length → valr l = valr m → l = m
  | [], [], _, _ => rfl
  | [], _ :: _, h, _ => by simp at h
  | _ :: _, [], h, _ => by simp at h
  | x :: l, y :: m, h, e => by
    have hl : l.length = m.length := by simpa using h
    obtain ⟨p, q⟩ := valr_bd l
    obtain ⟨p', q'⟩ := valr_bd m
    simp only [valr] at e
    rw [hl] at q e
    have hP := pow_pos' m.length
    have c : x.toNat = y.toNat := by
      generalize (256 : Int) ^ m.length = P at *
      rcases Nat.lt_trichotomy x.toNat y.toNat with c | c | c
      · have h2 : ((x.toNat : Int) + 1) * P ≤ (y.toNat : Int) * P := Int.mul_le_mul_of_nonneg_right (by omega) (by omega)
        rw [Int.add_mul] at h2; omega
      · exact c
      · have h2 : ((y.toNat : Int) + 1) * P ≤ (x.toNat : Int) * P := Int.mul_le_mul_of_nonneg_right (by omega) (by omega)
        rw [Int.add_mul] at h2; omega
    obtain rfl : x = y := UInt8.toNat.inj c
    rw [valr_inj l m hl (by omega)]
theorem num8_val8 (l : List UInt8) (h : l.length = 8) : num8 (val8 l) = l := by
  obtain ⟨a, b⟩ := val8_all l h
  refine valr_inj _ _ (by rw [h]; rfl) ?_
  rw [← val8_is, ← val8_is, val8_num8 _ a b]
theorem less_num8 (a b : Int) (a0 : 0 ≤ a) (a1 : a < 18446744073709551616) (b0 : 0 ≤ b) (b1 : b < 18446744073709551616) : Op.bytesLess (num8 a) (num8 b) = decide (a < b) := by
  rw [less_valr (num8 a) (num8 b) rfl, ← val8_is, ← val8_is, val8_num8 a a0 a1, val8_num8 b b0 b1]
end Go.Proofs.Ytdfkcibmmabjcaa
