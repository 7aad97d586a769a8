/- The arithmetic of the checksum: the register as a natural number. -/
import Derived.Test.YthhpilkhcomhbaaDoorLaw
namespace Go.Proofs.YthhpilkhcomhbaaDoor
open Go.ChangeShapes Go.WideShapes Go.ChangeAt Go.RowKit Go.ChangeMaps

theorem xor_lt64 {a b : Nat} (ha : a < 18446744073709551616) (hb : b < 18446744073709551616) : a ^^^ b < 18446744073709551616 :=
  Nat.xor_lt_two_pow (n := 64) ha hb
theorem xor_half (a b : Nat) : (a ^^^ b) / 2 = a / 2 ^^^ b / 2 := by
  have := Nat.shiftRight_xor_distrib (a := a) (b := b) (i := 1)
  simpa [Nat.shiftRight_eq_div_pow] using this
theorem xor_div16 (a b : Nat) : (a ^^^ b) / 16 = a / 16 ^^^ b / 16 := by
  have := Nat.shiftRight_xor_distrib (a := a) (b := b) (i := 4)
  simpa [Nat.shiftRight_eq_div_pow] using this
theorem xor_div256 (a b : Nat) : (a ^^^ b) / 256 = a / 256 ^^^ b / 256 := by
  have := Nat.shiftRight_xor_distrib (a := a) (b := b) (i := 8)
  simpa [Nat.shiftRight_eq_div_pow] using this
theorem xor_mod16 (a b : Nat) : (a ^^^ b) % 16 = a % 16 ^^^ b % 16 := Nat.xor_mod_two_pow (n := 4)
theorem xor_mod256 (a b : Nat) : (a ^^^ b) % 256 = a % 256 ^^^ b % 256 := Nat.xor_mod_two_pow (n := 8)
theorem xor_mod2 (a b : Nat) : (a ^^^ b) % 2 = a % 2 ^^^ b % 2 := Nat.xor_mod_two_pow (n := 1)
def cP : Nat := 14514072000185962306
def half (r : Nat) : Nat := r / 2 ^^^ (if r % 2 = 1 then cP else 0)
theorem half_even (r : Nat) : half (2 * r) = r := by unfold half; rw [if_neg (by omega), Nat.xor_zero]; omega
theorem half_lt {r : Nat} (h : r < 18446744073709551616) : half r < 18446744073709551616 := by
  unfold half
  refine xor_lt64 (by omega) ?_
  split <;> decide
theorem half_xor (a b : Nat) : half (a ^^^ b) = half a ^^^ half b := by
  unfold half
  rw [xor_half, xor_mod2]
  rcases Nat.mod_two_eq_zero_or_one a with h | h <;> rcases Nat.mod_two_eq_zero_or_one b with h' | h' <;> rw [h, h']
  · rw [if_neg (by decide), if_neg (by decide)]; simp
  · rw [if_pos (by decide), if_neg (by decide), if_pos rfl]; simp only [Nat.xor_zero]; ac_rfl
  · rw [if_pos (by decide), if_pos rfl, if_neg (by decide)]; simp only [Nat.xor_zero]; ac_rfl
  · rw [if_neg (by decide), if_pos rfl]
    have e : (a / 2 ^^^ cP) ^^^ (b / 2 ^^^ cP) = (a / 2 ^^^ b / 2) ^^^ (cP ^^^ cP) := by ac_rfl
    rw [e, Nat.xor_self]
theorem half_ne {r : Nat} (h0 : r ≠ 0) (h : r < 18446744073709551616) : half r ≠ 0 := by
  intro e
  unfold half at e
  by_cases h1 : r % 2 = 1
  · rw [if_pos h1] at e
    have := congrArg (· / 2 ^ 63) e
    have e2 : (r / 2 ^^^ cP) / 2 ^ 63 = (r / 2) / 2 ^ 63 ^^^ cP / 2 ^ 63 := by
      have := Nat.shiftRight_xor_distrib (a := r / 2) (b := cP) (i := 63)
      simpa only [Nat.shiftRight_eq_div_pow] using this
    simp only [e2] at this
    rw [show (r / 2) / 2 ^ 63 = 0 by omega, show cP / 2 ^ 63 = 1 by decide] at this
    exact absurd this (by decide)
  · rw [if_neg h1, Nat.xor_zero] at e
    omega
def halves : Nat → Nat → Nat
  | 0, r => r
  | n + 1, r => halves n (half r)
theorem halves_add (m n r : Nat) : halves (m + n) r = halves n (halves m r) := by
  induction m generalizing r with
  | zero => rw [Nat.zero_add]; rfl
  | succ m ih => rw [Nat.succ_add]; exact ih (half r)
theorem halves_lt (n : Nat) {r : Nat} (h : r < 18446744073709551616) : halves n r < 18446744073709551616 := by
  induction n generalizing r with
  | zero => exact h
  | succ n ih => exact ih (half_lt h)
theorem halves_xor (n a b : Nat) : halves n (a ^^^ b) = halves n a ^^^ halves n b := by
  induction n generalizing a b with
  | zero => rfl
  | succ n ih => show halves n (half (a ^^^ b)) = _; rw [half_xor, ih]; rfl
theorem halves_ne (n : Nat) {r : Nat} (h0 : r ≠ 0) (h : r < 18446744073709551616) : halves n r ≠ 0 := by
  induction n generalizing r with
  | zero => exact h0
  | succ n ih => exact ih (half_ne h0 h) (half_lt h)
theorem halves_zero (n : Nat) : halves n 0 = 0 := by
  induction n with
  | zero => rfl
  | succ n ih => exact ih
theorem halves4_even (q : Nat) : halves 4 (16 * q) = q := by
  show half (half (half (half (16 * q)))) = q
  rw [show 16 * q = 2 * (2 * (2 * (2 * q))) by omega, half_even, half_even, half_even, half_even]
theorem halves8_even (q : Nat) : halves 8 (256 * q) = q := by
  rw [show 8 = 4 + 4 by rfl, halves_add, show 256 * q = 16 * (16 * q) by omega, halves4_even, halves4_even]
theorem xor_of16 (q l : Nat) (h : l < 16) : 16 * q ^^^ l = 16 * q + l := by
  have h1 := xor_div16 (16 * q) l
  have h2 := xor_mod16 (16 * q) l
  rw [show 16 * q / 16 = q by omega, show l / 16 = 0 by omega, Nat.xor_zero] at h1
  rw [show 16 * q % 16 = 0 by omega, show l % 16 = l by omega, Nat.zero_xor] at h2
  omega
theorem xor_of256 (q l : Nat) (h : l < 256) : 256 * q ^^^ l = 256 * q + l := by
  have h1 := xor_div256 (256 * q) l
  have h2 := xor_mod256 (256 * q) l
  rw [show 256 * q / 256 = q by omega, show l / 256 = 0 by omega, Nat.xor_zero] at h1
  rw [show 256 * q % 256 = 0 by omega, show l % 256 = l by omega, Nat.zero_xor] at h2
  omega
def cT (l : Nat) : Nat := halves 4 l
theorem halves4_eq (r : Nat) : halves 4 r = r / 16 ^^^ cT (r % 16) := by
  have e : r = 16 * (r / 16) ^^^ r % 16 := by rw [xor_of16 _ _ (Nat.mod_lt _ (by omega))]; omega
  conv => lhs; rw [e]
  rw [halves_xor, halves4_even]; rfl
/-- The register after a byte, and after bytes. -/
def turn (r c : Nat) : Nat := halves 8 (r ^^^ c)
def turns (r : Nat) (l : List UInt8) : Nat := l.foldl (fun r x => turn r x.toNat) r
theorem turn_lt {r c : Nat} (h : r < 18446744073709551616) (hc : c < 256) : turn r c < 18446744073709551616 := halves_lt _ (xor_lt64 h (by omega))
theorem turns_lt {r : Nat} (h : r < 18446744073709551616) (l : List UInt8) : turns r l < 18446744073709551616 := by
  induction l generalizing r with
  | nil => exact h
  | cons x l ih => exact ih (turn_lt h (UInt8.toNat_lt x))
theorem turns_append (r : Nat) (l m : List UInt8) : turns r (l ++ m) = turns (turns r l) m := List.foldl_append
theorem turns_snoc (r : Nat) (l : List UInt8) (x : UInt8) : turns r (l ++ [x]) = turn (turns r l) x.toNat := by rw [turns_append]; rfl
def cM : Nat := 18446744073709551615
def crc (sum : Nat) (l : List UInt8) : Nat := cM - turns (cM - sum) l
theorem crc_lt (sum : Nat) (l : List UInt8) : crc sum l < 18446744073709551616 := by unfold crc cM; omega
theorem crc_inv {sum : Nat} {l : List UInt8} : cM - crc sum l = turns (cM - sum) l := by
  have := turns_lt (r := cM - sum) (by unfold cM; omega) l
  unfold crc cM at *; omega
theorem crc_append (sum : Nat) (l m : List UInt8) : crc (crc sum l) m = crc sum (l ++ m) := by
  show cM - turns (cM - crc sum l) m = cM - turns (cM - sum) (l ++ m)
  rw [crc_inv, turns_append]
theorem crc_cat (l m : List UInt8) : crc (crc 0 l) m = crc 0 (l ++ m) := crc_append 0 l m
theorem not_xor (x : Nat) (h : x < 18446744073709551616) : cM - x = cM ^^^ x := by
  have := BitVec.toNat_not (x := BitVec.ofNat 64 x)
  rw [BitVec.toNat_ofNat, Nat.mod_eq_of_lt (by omega)] at this
  have e : (~~~ (BitVec.ofNat 64 x)) = BitVec.allOnes 64 ^^^ BitVec.ofNat 64 x := by rw [BitVec.allOnes_xor]
  rw [e, BitVec.toNat_xor, BitVec.toNat_allOnes, BitVec.toNat_ofNat, Nat.mod_eq_of_lt (a := x) (by omega)] at this
  show 18446744073709551615 - x = 18446744073709551615 ^^^ x
  have e2 : 2 ^ 64 - 1 = 18446744073709551615 := by decide
  rw [e2] at this
  omega
/-- The bytes of a number. -/
def le8 : Nat → Nat → List UInt8
  | 0, _ => []
  | k + 1, n => UInt8.ofNat (n % 256) :: le8 k (n / 256)
theorem le8_len (k n : Nat) : (le8 k n).length = k := by
  induction k generalizing n with
  | zero => rfl
  | succ k ih => simp [le8, ih]
theorem le8_succ (k n : Nat) : le8 (k + 1) n = le8 k n ++ [UInt8.ofNat (n / 256 ^ k % 256)] := by
  induction k generalizing n with
  | zero => simp [le8]
  | succ k ih =>
    show UInt8.ofNat (n % 256) :: le8 (k + 1) (n / 256) = (UInt8.ofNat (n % 256) :: le8 k (n / 256)) ++ _
    rw [ih, List.cons_append, Nat.div_div_eq_div_mul, Nat.pow_succ, Nat.mul_comm 256]
def leN : List UInt8 → Nat
  | [] => 0
  | x :: l => x.toNat + 256 * leN l
theorem leN_lt (l : List UInt8) : leN l < 256 ^ l.length := by
  induction l with
  | nil => decide
  | cons x l ih => show x.toNat + 256 * leN l < 256 ^ (l.length + 1); have := UInt8.toNat_lt x; rw [Nat.pow_succ]; omega
theorem leN_snoc (l : List UInt8) (x : UInt8) : leN (l ++ [x]) = leN l + 256 ^ l.length * x.toNat := by
  induction l with
  | nil => simp [leN]
  | cons y l ih => show y.toNat + 256 * leN (l ++ [x]) = y.toNat + 256 * leN l + 256 ^ (l.length + 1) * x.toNat; rw [ih, Nat.pow_succ]; grind
theorem le8_leN (l : List UInt8) : le8 l.length (leN l) = l := by
  induction l with
  | nil => rfl
  | cons x l ih =>
    have hx := UInt8.toNat_lt x
    show UInt8.ofNat ((x.toNat + 256 * leN l) % 256) :: le8 l.length ((x.toNat + 256 * leN l) / 256) = x :: l
    rw [show (x.toNat + 256 * leN l) % 256 = x.toNat by omega, show (x.toNat + 256 * leN l) / 256 = leN l by omega, ih, UInt8.ofNat_toNat]
theorem leN_le8 (k n : Nat) : leN (le8 k n) = n % 256 ^ k := by
  induction k generalizing n with
  | zero => simp [le8, leN, Nat.mod_one]
  | succ k ih =>
    show (UInt8.ofNat (n % 256)).toNat + 256 * leN (le8 k (n / 256)) = _
    rw [ih, UInt8.toNat_ofNat', show n % 256 ^ (k + 1) = n % 256 + 256 * (n / 256 % 256 ^ k) by rw [Nat.pow_succ, Nat.mul_comm (256 ^ k) 256, Nat.mod_mul]]
    generalize 256 * (n / 256 % 256 ^ k) = y
    omega
theorem turns_feed (r : Nat) (l : List UInt8) (h : l.length ≤ 8) : turns r l = halves (8 * l.length) (r ^^^ leN l) := by
  induction l generalizing r with
  | nil => simp [turns, leN, halves]
  | cons x l ih =>
    show turns (turn r x.toNat) l = halves (8 * (l.length + 1)) (r ^^^ (x.toNat + 256 * leN l))
    rw [ih _ (by simp at h; omega), show 8 * (l.length + 1) = 8 + 8 * l.length by omega, halves_add]
    congr 1
    rw [Nat.add_comm, ← xor_of256 _ _ (UInt8.toNat_lt x), Nat.xor_comm (256 * leN l), ← Nat.xor_assoc, halves_xor, halves8_even]; rfl
theorem turns_xor (a b : Nat) (l m : List UInt8) (h : l.length = m.length) : turns a l ^^^ turns b m = turns (a ^^^ b) (List.zipWith (· ^^^ ·) l m) := by
  induction l generalizing a b m with
  | nil => cases m with | nil => rfl | cons _ _ => cases h
  | cons x l ih =>
    cases m with
    | nil => cases h
    | cons y m =>
      show turns (turn a x.toNat) l ^^^ turns (turn b y.toNat) m = turns (turn (a ^^^ b) (x ^^^ y).toNat) (List.zipWith (· ^^^ ·) l m)
      rw [ih _ _ _ (by simpa using h)]
      congr 1
      unfold turn
      rw [← halves_xor, UInt8.toNat_xor]
      congr 1
      ac_rfl
end Go.Proofs.YthhpilkhcomhbaaDoor
