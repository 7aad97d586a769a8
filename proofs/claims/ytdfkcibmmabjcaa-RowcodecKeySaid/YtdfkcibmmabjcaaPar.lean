/- The integer of eight bytes. -/
import Derived.Test.YtdfkcibmmabjcaaNum
import Derived.Laws.BitsAllLaws
import Derived.Laws.OwnMore
import Derived.OwnWalk
namespace Go.Proofs.Ytdfkcibmmabjcaa
open Go.ChangeShapes Go.WideShapes Go.ChangeAt Go.RowKit

def val8 (l : List UInt8) : Int := l.foldl (fun a x => 256 * a + (x.toNat : Int)) 0
theorem val8_snoc (l : List UInt8) (x : UInt8) : val8 (l ++ [x]) = 256 * val8 l + (x.toNat : Int) := by unfold val8; rw [List.foldl_append]; rfl
theorem take_snoc (l : List UInt8) (k : Nat) (h : k < l.length) : l.take (k + 1) = l.take k ++ [l[k]] := by
  rw [List.take_succ_eq_append_getElem h]
theorem val8_bd : ∀ (l : List UInt8) (a : Int), 0 ≤ a → 0 ≤ l.foldl (fun a x => 256 * a + (x.toNat : Int)) a ∧ l.foldl (fun a x => 256 * a + (x.toNat : Int)) a < 256 ^ l.length * (a + 1)
  | [], a, h => by simp; omega
  | x :: l, a, h => by
    have hx : x.toNat < 256 := x.toNat_lt
    obtain ⟨p, q⟩ := val8_bd l (256 * a + (x.toNat : Int)) (by omega)
    refine ⟨p, ?_⟩
    simp only [List.foldl_cons, List.length_cons]
    refine Int.lt_of_lt_of_le q ?_
    have e : (256 : Int) ^ (l.length + 1) * (a + 1) = 256 ^ l.length * (256 * (a + 1)) := by rw [Int.pow_succ, Int.mul_assoc]
    rw [e]
    refine Int.mul_le_mul_of_nonneg_left (by omega) ?_
    exact Int.le_of_lt (Int.pow_pos (by omega))

theorem val8_lt (l : List UInt8) (k : Nat) (h : k < 8) : 0 ≤ val8 (l.take k) ∧ val8 (l.take k) < 72057594037927936 := by
  obtain ⟨p, q⟩ := val8_bd (l.take k) 0 (by omega)
  refine ⟨p, ?_⟩
  have hk : (l.take k).length ≤ 7 := by simp; omega
  refine Int.lt_of_lt_of_le q ?_
  have : (256 : Nat) ^ (l.take k).length ≤ 256 ^ 7 := Nat.pow_le_pow_right (by omega) hk
  generalize (l.take k).length = n at *
  have h2 : ((256 ^ n : Nat) : Int) ≤ ((256 ^ 7 : Nat) : Int) := by exact_mod_cast this
  simpa using h2
theorem val8_all (l : List UInt8) (h : l.length = 8) : 0 ≤ val8 l ∧ val8 l < 18446744073709551616 := by
  obtain ⟨p, q⟩ := val8_bd l 0 (by omega)
  refine ⟨p, ?_⟩
  rw [h] at q
  exact Int.lt_of_lt_of_le q (by decide)

theorem or_byte (a x : Int) (h0 : 0 ≤ a) (h1 : a < 72057594037927936) (x0 : 0 ≤ x) (x1 : x < 256) : bits .or .u64 (a * 256) x = 256 * a + x := by
  rw [u64_or _ _ (by omega) (by omega) (by omega) (by omega), nat_join 8 _ _ (by omega) (by omega)]
  omega

theorem int_eq {k : IntKind} {a b : Int} (h : a = b) : Value.int k a = .int k b := by rw [h]
theorem ret_int {k : IntKind} {a b : Int} (h : a = b) : Ending.returned (.int k a) = .returned (.int k b) := by rw [h]

theorem number_any (a : Addr) (cap : Nat) (l : List UInt8) (w : World) (hl : l.length = 8) (hc : ∀ j (h : j < l.length), w.cell? (a.add j) = some (.int .u8 (l[j].toNat : Int))) :
    Calls Try.prog 37 #[.slice (some a) 8 cap] w fun e w' => e = .returned (.int .i64 (val8 l - 9223372036854775808)) ∧ w = w' := by
  go_enter Try.func37, Try.ntmps37
  go_wp2
  go_loop [3, 8] (fun m i => ∃ k : Nat, k ≤ 8 ∧ i = .int .i64 k ∧ m = .int .u64 (val8 (l.take k))) (fun _ i => 8 - (intOf i).toNat)
  case atStart => exact ⟨0, Nat.zero_le _, rfl, rfl⟩
  case round =>
    obtain ⟨k, hk, rfl, rfl⟩ := hrel
    by_cases hlt : k < 8
    · obtain ⟨v0, v1⟩ := val8_lt l k hlt
      have hcell := hc k (by omega)
      have hx : l[k].toNat < 256 := l[k].toNat_lt
      have hs := or_byte (val8 (l.take k)) l[k].toNat v0 v1 (by omega) (by omega)
      have H := Lib.hid ((congrArg val8 (take_snoc l k (by omega))).trans (val8_snoc _ _))
      go_wp2
      go_round
      case rel => exact ⟨k + 1, by omega, by go_num, int_eq H.out.symm⟩
      case measure => simp [intOf]; omega
    · obtain rfl : k = 8 := by omega
      have e : l.take 8 = l := List.take_of_length_le (by omega)
      obtain ⟨v0, v1⟩ := val8_all l hl
      go_wp2
      go_ret
      refine ⟨ret_int ?_, rfl⟩
      simp only [IntKind.wrap_u64, wrap64]
      omega

theorem ParseNumber_ok (s : ByteArray) (w : World) (hs : s.size = 8) :
    Calls Try.prog 28 #[.string s] w fun e w' => e = .returned (.tuple #[.int .i64 (val8 s.data.toList - 9223372036854775808), .int .i64 0]) ∧ Below w.heap.size w w' := by
  have hl : s.data.toList.length = 8 := by simpa using hs
  have H := Lib.hid hs
  have hcv := run_bytes_of_string (P := Try.prog) w 9 28 5 s Try.underlying9 Try.underlying28 Try.underlying5
  rw [hs] at hcv
  obtain ⟨c, hcc⟩ : ∃ c, grownCap w 8 0 5 = c := ⟨_, rfl⟩
  rw [hcc] at hcv
  clear hcc
  go_enter Try.func28, Try.ntmps28
  go_wp2_with (go_at_call 37; refine (number_any _ _ _ _ hl ?_).mono ?_)
  · intro j hj
    have hj' : j < s.data.size := by simpa using hj
    rw [add_plain, Nat.zero_add]
    refine (World.cell?_alloc_mark _ _ _ _ _).trans ?_
    rw [bytesRow_at s c j hj']
    simp
  rintro e w' ⟨rfl, rfl⟩
  go_wp2
  go_ret2
  exact ⟨rfl, (Below.refl _ _).drew.alloc (Nat.le_refl _) _⟩

theorem ParseNumber_bad (s : ByteArray) (w : World) (hs : s.size ≠ 8) (_hm : s.size ≤ 9223372036854775807) :
    Calls Try.prog 28 #[.string s] w fun e w' => e = .returned (.tuple #[.int .i64 0, .int .i64 2]) ∧ w = w' := by
  have h2 : decide ((s.size : Int) = 8) = false := by simp; omega
  go_enter Try.func28, Try.ntmps28
  go_wp2
  go_ret2
  exact ⟨rfl, rfl⟩

theorem xor_low (a : Nat) (h : a < 2 ^ 63) : a ^^^ 2 ^ 63 = 2 ^ 63 + a := by
  apply Nat.eq_of_testBit_eq
  intro i
  rw [Nat.testBit_xor, Nat.testBit_two_pow]
  rcases Nat.lt_trichotomy i 63 with hi | hi | hi
  · rw [Nat.testBit_two_pow_add_gt hi, decide_eq_false (by omega)]; simp
  · subst hi
    rw [Nat.testBit_two_pow_add_eq]; simp
  · have h2 : 2 ^ 63 + a < 2 ^ i := Nat.lt_of_lt_of_le (by omega) (Nat.pow_le_pow_right (n := 2) (by omega) (show 64 ≤ i by omega))
    rw [Nat.testBit_lt_two_pow h2, Nat.testBit_lt_two_pow (by omega), decide_eq_false (by omega)]; rfl
theorem xor_top (a : Nat) (h : a < 2 ^ 64) : a ^^^ 2 ^ 63 = (a + 2 ^ 63) % 2 ^ 64 := by
  by_cases h2 : a < 2 ^ 63
  · rw [xor_low a h2]; omega
  · obtain ⟨b, rfl⟩ : ∃ b, a = 2 ^ 63 + b := ⟨a - 2 ^ 63, by omega⟩
    rw [← xor_low b (by omega), Nat.xor_assoc, Nat.xor_self, Nat.xor_zero, xor_low b (by omega)]; omega
theorem xor_sign (n : Int) (h1 : -9223372036854775808 ≤ n) (h2 : n ≤ 9223372036854775807) : bits .xor .u64 (IntKind.u64.wrap n) 9223372036854775808 = n + 9223372036854775808 := by
  rw [IntKind.wrap_u64, u64_xor _ _ (by omega) (by omega) (by omega) (by omega)]
  have := xor_top (n % 18446744073709551616).toNat (by omega)
  rw [show (9223372036854775808 : Int).toNat = 2 ^ 63 by decide, this]
  omega

theorem num8_cells (m : Int) (h0 : 0 ≤ m) (h1 : m < 18446744073709551616) : ((num8 m).map fun x => Value.int .u8 (x.toNat : Int)).toArray = #[.int .u8 (m / 256 / 256 / 256 / 256 / 256 / 256 / 256 % 256), .int .u8 (m / 256 / 256 / 256 / 256 / 256 / 256 % 256), .int .u8 (m / 256 / 256 / 256 / 256 / 256 % 256), .int .u8 (m / 256 / 256 / 256 / 256 % 256), .int .u8 (m / 256 / 256 / 256 % 256), .int .u8 (m / 256 / 256 % 256), .int .u8 (m / 256 % 256), .int .u8 (m % 256)] := by
  unfold num8
  simp only [List.map_cons, List.map_nil, u8_val, u8_toNat (m / 72057594037927936) (by omega) (by omega)]
  have e1 : m / 72057594037927936 = m / 256 / 256 / 256 / 256 / 256 / 256 / 256 % 256 := by omega
  have e2 : m / 281474976710656 % 256 = m / 256 / 256 / 256 / 256 / 256 / 256 % 256 := by omega
  have e3 : m / 1099511627776 % 256 = m / 256 / 256 / 256 / 256 / 256 % 256 := by omega
  have e4 : m / 4294967296 % 256 = m / 256 / 256 / 256 / 256 % 256 := by omega
  have e5 : m / 16777216 % 256 = m / 256 / 256 / 256 % 256 := by omega
  have e6 : m / 65536 % 256 = m / 256 / 256 % 256 := by omega
  rw [e1, e2, e3, e4, e5, e6]

theorem refnumber_any (n : Int) (w : World) (h1 : -9223372036854775808 ≤ n) (h2 : n ≤ 9223372036854775807) :
    Calls Try.prog 31 #[.int .i64 n] w fun e w' => e = .returned (.slice (some ⟨w.heap.size, 0, none⟩) 8 8) ∧ w' = w.alloc (.cells ((num8 (n + 9223372036854775808)).map fun x => Value.int .u8 (x.toNat : Int)).toArray 5) := by
  have hmk : ∀ w, (Instr.makeSlice 28 (.int .i64 8) (.int .i64 8)).run Try.prog w = .ok (.slice (some ⟨w.heap.size, 0, none⟩) 8 8) (w.alloc (.cells #[.int .u8 0, .int .u8 0, .int .u8 0, .int .u8 0, .int .u8 0, .int .u8 0, .int .u8 0, .int .u8 0] 5)) := fun _ => by kernel_rfl
  have hx := xor_sign n h1 h2
  obtain ⟨m, hm⟩ : ∃ m : Int, n + 9223372036854775808 = m := ⟨_, rfl⟩
  rw [hm] at hx
  have m0 : 0 ≤ m := by omega
  have m1 : m < 18446744073709551616 := by omega
  have HM := Lib.hid hm
  have HC := Lib.hid (num8_cells m m0 m1)
  clear hm h1 h2
  go_enter Try.func31, Try.ntmps31
  go_wp2
  refine wp_loop_rounds 9 ?_
  iterate 9 (rw [rounds_succ]; go_wp2)
  go_ret
  rw [HM.out, HC.out]
  exact ⟨rfl, rfl⟩
end Go.Proofs.Ytdfkcibmmabjcaa
