/- The reference of Format. -/
import Derived.Test.YtpnemkphdminnaaDoorCrc
namespace Go.Proofs.YtpnemkphdminnaaDoor
open Go.ChangeShapes Go.WideShapes Go.ChangeAt Go.RowKit Go.ChangeMaps

/-- A hexadecimal digit. -/
def hexd (n : Nat) : UInt8 := if n < 10 then UInt8.ofNat (48 + n) else UInt8.ofNat (87 + n)
/-- The last k hexadecimal digits. -/
def hexs : Nat → Nat → List UInt8
  | 0, _ => []
  | k + 1, n => hexs k (n / 16) ++ [hexd (n % 16)]
theorem hexs_len (k n : Nat) : (hexs k n).length = k := by
  induction k generalizing n with
  | zero => rfl
  | succ k ih => simp [hexs, ih]
theorem hexs_succ (k n : Nat) : hexs (k + 1) n = hexd (n / 16 ^ k % 16) :: hexs k n := by
  induction k generalizing n with
  | zero => simp [hexs]
  | succ k ih =>
    show hexs (k + 1) (n / 16) ++ [hexd (n % 16)] = hexd (n / 16 ^ (k + 1) % 16) :: (hexs k (n / 16) ++ [hexd (n % 16)])
    rw [ih, List.cons_append, Nat.div_div_eq_div_mul, Nat.pow_succ, Nat.mul_comm 16]
def hexT : ByteArray := ⟨#[48, 49, 50, 51, 52, 53, 54, 55, 56, 57, 97, 98, 99, 100, 101, 102]⟩
theorem hex_cut : ∀ i : Fin 16, hexT.extract i (i + 1) = ⟨#[hexd i]⟩ := by decide
theorem cons_app (h : UInt8) (q : List UInt8) : (⟨#[h]⟩ : ByteArray) ++ ⟨q.toArray⟩ = ⟨(h :: q).toArray⟩ := by
  apply ByteArray.ext; simp [ByteArray.data_append]
set_option maxHeartbeats 1000000 in
theorem Text_any (s : Nat) (w : World) (hs : s < 18446744073709551616) :
    Calls Tryd.prog 22 #[.int .u64 (s : Int)] w fun e w' => e = .returned (.string ⟨(hexs 16 s).toArray⟩) ∧ w = w' := by
  go_enter Tryd.func22, Tryd.ntmps22
  go_wp2
  go_loop [0, 4, 5] (fun u v i => ∃ k : Nat, k ≤ 16 ∧ i = .int .i64 k ∧ u = .int .u64 ((s / 16 ^ k : Nat) : Int) ∧ v = .string ⟨(hexs k s).toArray⟩) (fun _ _ i => 16 - (intOf i).toNat)
  case atStart => exact ⟨0, by omega, rfl, int_eq (by rw [Nat.pow_zero, Nat.div_one]), rfl⟩
  case round =>
    obtain ⟨k, hk, rfl, rfl, rfl⟩ := hrel
    by_cases hlt : k < 16
    · have H1 := Lib.hid (hexs_succ k s)
      have hx : s / 16 ^ k < 18446744073709551616 := Nat.lt_of_le_of_lt (Nat.div_le_self _ _) hs
      have H2 := Lib.hid (show s / 16 ^ (k + 1) = s / 16 ^ k / 16 by rw [Nat.pow_succ, Nat.div_div_eq_div_mul])
      have hlen : (hexs k s).length ≤ 16 := by rw [hexs_len]; omega
      generalize hexs k s = q at *
      generalize s / 16 ^ k = x at *
      have H3 := Lib.hid (hex_cut ⟨x % 16, Nat.mod_lt _ (by omega)⟩)
      go_wp2
      go_round
      case rel => exact ⟨k + 1, by omega, by go_num, by rw [H2.out]; exact int_eq (Int.natCast_ediv x 16).symm, by rw [H1.out]; exact congrArg Value.string ((congrArg (· ++ (⟨q.toArray⟩ : ByteArray)) H3.out).trans (cons_app _ _))⟩
      case measure => simp [intOf]; omega
    · obtain rfl : k = 16 := by omega
      go_wp2
      go_ret
      exact ⟨rfl, rfl⟩
end Go.Proofs.YtpnemkphdminnaaDoor
