/- The functions on residues and classes compute remainders, absolute values and greatest common divisors: one contract for each function. -/
import Derived.Test.YtgicdfhhaefibaaLaw
import Derived.Lib.Hide
import Derived.IntWalk
import Derived.BigQuiet
import Derived.Deep.QuietTactic
namespace Go.Proofs.Ytgicdfhhaefibaa
open Go.ChangeShapes Go.WideShapes Go.ChangeAt Go.RowKit

theorem ret_int {k : IntKind} {a b : Int} (h : a = b) : Ending.returned (.int k a) = .returned (.int k b) := by rw [h]
theorem ret_bool {a b : Bool} (h : a = b) : Ending.returned (.bool a) = .returned (.bool b) := by rw [h]

theorem mod_neg (n m : Int) (hm : 1 ≤ m) (h : n.tmod m < 0) : n.tmod m + m = n % m := by
  have := Int.emod_nonneg n (show m ≠ 0 by omega)
  have hl := Int.emod_lt_of_pos n (show 0 < m by omega)
  rw [Int.tmod_eq_emod] at *
  split at h <;> rename_i hc
  · omega
  · rw [if_neg hc]; have : (m.natAbs : Int) = m := by omega
    omega
theorem mod_pos (n m : Int) (hm : 1 ≤ m) (h : 0 ≤ n.tmod m) : n.tmod m = n % m := by
  have := Int.emod_nonneg n (show m ≠ 0 by omega)
  have hl := Int.emod_lt_of_pos n (show 0 < m by omega)
  rw [Int.tmod_eq_emod] at *
  split at h <;> rename_i hc
  · rw [if_pos hc]; omega
  · have : (m.natAbs : Int) = m := by omega
    omega
theorem tmod_bd (n m : Int) (hm : 1 ≤ m) : -m < n.tmod m ∧ n.tmod m < m := by
  have := Int.emod_nonneg n (show m ≠ 0 by omega)
  have hl := Int.emod_lt_of_pos n (show 0 < m by omega)
  rw [Int.tmod_eq_emod]
  split <;> rename_i hc
  · omega
  · have h0 : n % m ≠ 0 := fun h => hc (.inr (Int.dvd_of_emod_eq_zero h))
    have : (m.natAbs : Int) = m := by omega
    omega

theorem mod_any (n m : Int) (w : World) (hm : 1 ≤ m) (hm2 : m ≤ 9223372036854775807) :
    Calls Try.prog 35 #[.int .i64 n, .int .i64 m] w fun e w' => e = .returned (.int .i64 (n % m)) ∧ w = w' := by
  obtain ⟨b1, b2⟩ := tmod_bd n m hm
  by_cases h : 0 ≤ n.tmod m
  · have H := Lib.hid (mod_pos n m hm h)
    go_enter Try.func35, Try.ntmps35
    go_wp2
    go_ret
    exact ⟨ret_int H.out, rfl⟩
  · have h' : n.tmod m < 0 := by omega
    have H := Lib.hid (mod_neg n m hm h')
    clear h
    go_enter Try.func35, Try.ntmps35
    go_wp2
    go_ret
    exact ⟨ret_int H.out, rfl⟩

theorem refmod_any (n m : Int) (w : World) (hm : 1 ≤ m) (hm2 : m ≤ 9223372036854775807) :
    Calls Try.prog 30 #[.int .i64 n, .int .i64 m] w fun e w' => e = .returned (.int .i64 (n % m)) ∧ w = w' := by
  obtain ⟨b1, b2⟩ := tmod_bd n m hm
  by_cases h : 0 ≤ n.tmod m
  · have H := Lib.hid (mod_pos n m hm h)
    go_enter Try.func30, Try.ntmps30
    go_wp2
    go_ret
    exact ⟨ret_int H.out, rfl⟩
  · have h' : n.tmod m < 0 := by omega
    have H := Lib.hid (mod_neg n m hm h')
    clear h
    go_enter Try.func30, Try.ntmps30
    go_wp2
    go_ret
    exact ⟨ret_int H.out, rfl⟩

/-- The absolute value, where the least integer counts as its successor. -/
def absl (n : Int) : Int := if n = -9223372036854775808 then 9223372036854775807 else if n < 0 then -n else n

theorem absl_bd (n : Int) (h1 : -9223372036854775808 ≤ n) (h2 : n ≤ 9223372036854775807) : 0 ≤ absl n ∧ absl n ≤ 9223372036854775807 := by
  unfold absl; split
  · omega
  · split <;> omega

theorem absolute_any (n : Int) (w : World) (h1 : -9223372036854775808 ≤ n) (h2 : n ≤ 9223372036854775807) :
    Calls Try.prog 43 #[.int .i64 n] w fun e w' => e = .returned (.int .i64 (absl n)) ∧ w = w' := by
  by_cases h : n = -9223372036854775808
  · subst h
    go_enter Try.func43, Try.ntmps43
    go_wp2
    go_ret
    exact ⟨rfl, rfl⟩
  · have hb : (n == -9223372036854775808) = false := by simpa using h
    by_cases h0 : n < 0
    · have H := Lib.hid (show absl n = wrap64 (-n) by rw [IntWalk.wrap64_in _ (by omega)]; simp [absl, h, h0])
      clear h
      go_enter Try.func43, Try.ntmps43
      go_wp2
      go_ret
      exact ⟨ret_int H.out.symm, rfl⟩
    · have H := Lib.hid (show absl n = n by simp [absl, h, h0])
      clear h
      go_enter Try.func43, Try.ntmps43
      go_wp2
      go_ret
      exact ⟨ret_int H.out.symm, rfl⟩

theorem refabs_any (n : Int) (w : World) (h1 : -9223372036854775808 ≤ n) (h2 : n ≤ 9223372036854775807) :
    Calls Try.prog 34 #[.int .i64 n] w fun e w' => e = .returned (.int .i64 (absl n)) ∧ w = w' := by
  by_cases h : n = -9223372036854775808
  · subst h
    go_enter Try.func34, Try.ntmps34
    go_wp2
    go_ret
    exact ⟨rfl, rfl⟩
  · have hb : (n == -9223372036854775808) = false := by simpa using h
    by_cases h0 : n < 0
    · have H := Lib.hid (show absl n = wrap64 (-n) by rw [IntWalk.wrap64_in _ (by omega)]; simp [absl, h, h0])
      clear h
      go_enter Try.func34, Try.ntmps34
      go_wp2
      go_ret
      exact ⟨ret_int H.out.symm, rfl⟩
    · have H := Lib.hid (show absl n = n by simp [absl, h, h0])
      clear h
      go_enter Try.func34, Try.ntmps34
      go_wp2
      go_ret
      exact ⟨ret_int H.out.symm, rfl⟩

theorem limit_any (w : World) : Calls Try.prog 36 #[] w fun e w' => e = .returned (.int .i64 4611686018427387904) ∧ w = w' := by
  go_enter Try.func36, Try.ntmps36
  go_wp2
  go_ret
  exact ⟨rfl, rfl⟩

def vld (r m : Int) : Bool := decide (1 ≤ m ∧ m ≤ 4611686018427387904 ∧ 0 ≤ r ∧ r < m)
theorem vld_yes {r m : Int} (h : vld r m = true) : 1 ≤ m ∧ m ≤ 4611686018427387904 ∧ 0 ≤ r ∧ r < m := by simpa [vld] using h
theorem vld_no {r m : Int} (h : vld r m = false) : m < 1 ∨ 4611686018427387904 < m ∨ r < 0 ∨ m ≤ r := by
  have h2 : ¬ (1 ≤ m ∧ m ≤ 4611686018427387904 ∧ 0 ≤ r ∧ r < m) := by simpa [vld] using h
  omega

theorem vld_parts (r m : Int) : vld r m = (decide (1 ≤ m) && decide (m ≤ 4611686018427387904) && decide (0 ≤ r) && decide (r < m)) := by
  rw [Bool.eq_iff_iff]; simp [vld]; omega

theorem valid_any (r m : Int) (w : World) : Calls Try.prog 37 #[.agg #[.int .i64 r, .int .i64 m]] w fun e w' => e = .returned (.bool (vld r m)) ∧ Below w.heap.size w w' := by
  rw [vld_parts]
  cases h1 : decide (1 ≤ m)
  · go_enter Try.func37, Try.ntmps37
    go_wp2
    go_ret
    exact ⟨rfl, (Below.refl _ _).alloc (Nat.le_refl _) _⟩
  cases h2 : decide (m ≤ 4611686018427387904)
  · go_enter Try.func37, Try.ntmps37
    go_wp2
    go_ret
    exact ⟨rfl, (Below.refl _ _).alloc (Nat.le_refl _) _⟩
  cases h3 : decide (0 ≤ r)
  · go_enter Try.func37, Try.ntmps37
    go_wp2
    go_ret
    exact ⟨rfl, (Below.refl _ _).alloc (Nat.le_refl _) _⟩
  cases h4 : decide (r < m)
  all_goals
    go_enter Try.func37, Try.ntmps37
    go_wp2
    go_ret
    exact ⟨rfl, (Below.refl _ _).alloc (Nat.le_refl _) _⟩

theorem bcell {W w1 : World} (hb : Below W.heap.size W w1) : (∀ b o, b < W.heap.size → w1.cell? ⟨b, o, none⟩ = W.cell? ⟨b, o, none⟩) ∧ (∀ b o, b < W.heap.size → w1.frozen? ⟨b, o, none⟩ = W.frozen? ⟨b, o, none⟩) :=
  ⟨fun b o h => hb.cell (p := ⟨b, o, none⟩) h, fun b o h => hb.frozen (p := ⟨b, o, none⟩) h⟩

theorem flip {P : Program} {f : FuncId} {args : Array Value} {w : World} {v : Value} (h : Calls P f args w fun e w' => e = .returned v ∧ w = w') : Calls P f args w fun e w' => e = .returned v ∧ w' = w :=
  h.mono fun _ _ ⟨a, b⟩ => ⟨a, b.symm⟩

theorem below_drewN {B : Nat} {a w : World} (h : Below B a w) (n : Nat) : Below B a (w.drewN n) := ⟨h.os, h.tape, h.output, h.size, h.block⟩

theorem refvalid_any (r m : Int) (w : World) : Calls Try.prog 20 #[.agg #[.int .i64 r, .int .i64 m]] w fun e w' => e = .returned (.bool (vld r m)) ∧ Below w.heap.size w w' := by
  rw [vld_parts]
  cases h1 : decide (1 ≤ m)
  · skip
    go_enter Try.func20, Try.ntmps20
    go_wp2
    go_quiet ((go_at_call 36; exact Calls.quiet_of_same (flip (limit_any _))))
    go_wp2
    go_ret
    exact ⟨rfl, below_drewN ((Below.refl _ _).alloc (Nat.le_refl _) _) _⟩
  cases h2 : decide (m ≤ 4611686018427387904)
  · skip
    go_enter Try.func20, Try.ntmps20
    go_wp2
    go_quiet ((go_at_call 36; exact Calls.quiet_of_same (flip (limit_any _))))
    go_wp2
    go_ret
    exact ⟨rfl, below_drewN ((Below.refl _ _).alloc (Nat.le_refl _) _) _⟩
  cases h3 : decide (0 ≤ r)
  · skip
    go_enter Try.func20, Try.ntmps20
    go_wp2
    go_quiet ((go_at_call 36; exact Calls.quiet_of_same (flip (limit_any _))))
    go_wp2
    go_ret
    exact ⟨rfl, below_drewN ((Below.refl _ _).alloc (Nat.le_refl _) _) _⟩
  cases h4 : decide (r < m)
  all_goals
    go_enter Try.func20, Try.ntmps20
    go_wp2
    go_quiet ((go_at_call 36; exact Calls.quiet_of_same (flip (limit_any _))))
    go_wp2
    go_ret
    exact ⟨rfl, below_drewN ((Below.refl _ _).alloc (Nat.le_refl _) _) _⟩

theorem gcd_step (x y : Int) (hx : 0 ≤ x) (hy : 0 ≤ y) : Int.gcd y (x % y) = Int.gcd x y := by
  obtain ⟨a, rfl⟩ := Int.eq_ofNat_of_zero_le hx
  obtain ⟨b, rfl⟩ := Int.eq_ofNat_of_zero_le hy
  show Nat.gcd b _ = Nat.gcd a b
  rw [Nat.gcd_comm a b, Nat.gcd_rec b a, Nat.gcd_comm]
  rfl

theorem gcd_zero_r (x : Int) (hx : 0 ≤ x) : ((Int.gcd x 0 : Nat) : Int) = x := by
  obtain ⟨a, rfl⟩ := Int.eq_ofNat_of_zero_le hx
  simp

theorem gcd_any (a b : Int) (w : World) (ha : 0 ≤ a) (hb : 0 ≤ b) (ha2 : a ≤ 9223372036854775807) (hb2 : b ≤ 9223372036854775807) :
    Calls Try.prog 38 #[.int .i64 a, .int .i64 b] w fun e w' => e = .returned (.int .i64 (Int.gcd a b : Nat)) ∧ ∃ n, w' = w.drewN n := by
  go_enter Try.func38, Try.ntmps38
  go_wp2
  go_loopw [0, 1] (fun x y wr => ∃ p q : Int, 0 ≤ p ∧ 0 ≤ q ∧ p ≤ 9223372036854775807 ∧ q ≤ 9223372036854775807 ∧ Int.gcd p q = Int.gcd a b ∧ x = .int .i64 p ∧ y = .int .i64 q ∧ ∃ n, wr = w.drewN n) (fun _ y _ => (intOf y).toNat)
  case atStart => exact ⟨a, b, ha, hb, ha2, hb2, rfl, rfl, rfl, 0, rfl⟩
  case round =>
    obtain ⟨p, q, hp, hq, hp2, hq2, hg, rfl, rfl, n, rfl⟩ := hrel
    by_cases h0 : q = 0
    · subst h0
      have H := Lib.hid hg
      clear hg
      go_wp2
      go_ret
      exact ⟨ret_int (by rw [← H.out]; exact (gcd_zero_r p hp).symm), n, rfl⟩
    · have hq1 : 1 ≤ q := by omega
      have hb0 : (q != 0) = true := by simpa using h0
      have H := Lib.hid ((gcd_step p q hp hq).trans hg)
      have e1 := Int.emod_nonneg p h0
      have e2 := Int.emod_lt_of_pos p (show 0 < q by omega)
      clear hg h0
      go_wp2
      go_quiet (fail)
      go_wp2
      go_roundw
      case rel => exact ⟨q, p % q, hq, e1, hq2, by omega, H.out, rfl, rfl, _, World.drewN_drewN _ _ _⟩
      case measure => simp [intOf]; omega

theorem refgcd_any (a b : Int) (w : World) (ha : -9223372036854775808 ≤ a) (ha2 : a ≤ 9223372036854775807) (hb : -9223372036854775808 ≤ b) (hb2 : b ≤ 9223372036854775807) :
    Calls Try.prog 29 #[.int .i64 a, .int .i64 b] w fun e w' => e = .returned (.int .i64 (Int.gcd (absl a) (absl b) : Nat)) ∧ ∃ n, w' = w.drewN n := by
  obtain ⟨a1, a2⟩ := absl_bd a ha ha2
  obtain ⟨b1, b2⟩ := absl_bd b hb hb2
  go_enter Try.func29, Try.ntmps29
  go_wp2_with (go_at_call 34; first | ((with_reducible refine (refabs_any a _ ha ha2).mono ?_); rintro e w' ⟨rfl, rfl⟩) | ((with_reducible refine (refabs_any b _ hb hb2).mono ?_); rintro e w' ⟨rfl, rfl⟩))
  go_loopw [0, 1] (fun x y wr => ∃ p q : Int, 0 ≤ p ∧ 0 ≤ q ∧ p ≤ 9223372036854775807 ∧ q ≤ 9223372036854775807 ∧ Int.gcd p q = Int.gcd (absl a) (absl b) ∧ x = .int .i64 p ∧ y = .int .i64 q ∧ ∃ n, wr = w.drewN n) (fun _ y _ => (intOf y).toNat)
  case atStart => exact ⟨absl a, absl b, a1, b1, a2, b2, rfl, rfl, rfl, 0, rfl⟩
  case round =>
    obtain ⟨p, q, hp, hq, hp2, hq2, hg, rfl, rfl, n, rfl⟩ := hrel
    by_cases h0 : q = 0
    · subst h0
      have H := Lib.hid hg
      clear hg
      go_wp2
      go_ret
      exact ⟨ret_int (by rw [← H.out]; exact (gcd_zero_r p hp).symm), n, rfl⟩
    · have hq1 : 1 ≤ q := by omega
      have hb0 : (q != 0) = true := by simpa using h0
      have H := Lib.hid ((gcd_step p q hp hq).trans hg)
      have e1 := Int.emod_nonneg p h0
      have e2 := Int.emod_lt_of_pos p (show 0 < q by omega)
      clear hg h0
      go_wp2
      go_quiet (fail)
      go_wp2
      go_roundw
      case rel => exact ⟨q, p % q, hq, e1, hq2, by omega, H.out, rfl, rfl, _, World.drewN_drewN _ _ _⟩
      case measure => simp [intOf]; omega

theorem GCD_any (a b : Int) (w : World) (ha : -9223372036854775808 ≤ a) (ha2 : a ≤ 9223372036854775807) (hb : -9223372036854775808 ≤ b) (hb2 : b ≤ 9223372036854775807) :
    Calls Try.prog 33 #[.int .i64 a, .int .i64 b] w fun e w' => e = .returned (.int .i64 (Int.gcd (absl a) (absl b) : Nat)) ∧ ∃ n, w' = w.drewN n := by
  obtain ⟨a1, a2⟩ := absl_bd a ha ha2
  obtain ⟨b1, b2⟩ := absl_bd b hb hb2
  go_enter Try.func33, Try.ntmps33
  go_wp2_with (first | (go_at_call 43; first | ((with_reducible refine (absolute_any a _ ha ha2).mono ?_); rintro e w' ⟨rfl, rfl⟩) | ((with_reducible refine (absolute_any b _ hb hb2).mono ?_); rintro e w' ⟨rfl, rfl⟩)) | (go_at_call 38; refine (gcd_any _ _ _ a1 b1 a2 b2).mono ?_; rintro e w' ⟨rfl, n, rfl⟩))
  go_ret
  exact ⟨rfl, _, rfl⟩

theorem New_bad (r m : Int) (w : World) (h : m < 1 ∨ 4611686018427387904 < m) : Calls Try.prog 13 #[.int .i64 r, .int .i64 m] w fun e w' => e = .returned (.tuple #[.agg #[.int .i64 0, .int .i64 0], .int .i64 1]) ∧ Below w.heap.size w w' := by
  rcases h with h1 | h1
  · go_enter Try.func13, Try.ntmps13
    go_wp2
    exact bodyPost_ret (v := .tuple #[.agg #[.int .i64 0, .int .i64 0], .int .i64 1]) (by simp [results, Try.results13, go_sem]) rfl ⟨rfl, (by repeat (first | exact Below.refl _ _ | refine below_drewN ?_ _ | refine Below.alloc ?_ (by simp) _ | refine Below.setCell ?_ (by simp) _))⟩
  · have h2 : 1 ≤ m := by omega
    go_enter Try.func13, Try.ntmps13
    go_wp2
    exact bodyPost_ret (v := .tuple #[.agg #[.int .i64 0, .int .i64 0], .int .i64 1]) (by simp [results, Try.results13, go_sem]) rfl ⟨rfl, (by repeat (first | exact Below.refl _ _ | refine below_drewN ?_ _ | refine Below.alloc ?_ (by simp) _ | refine Below.setCell ?_ (by simp) _))⟩

theorem New_ok (r m : Int) (w : World) (h1 : 1 ≤ m) (h2 : m ≤ 4611686018427387904) : Calls Try.prog 13 #[.int .i64 r, .int .i64 m] w fun e w' => e = .returned (.tuple #[.agg #[.int .i64 (r % m), .int .i64 m], .int .i64 0]) ∧ Below w.heap.size w w' := by
  go_enter Try.func13, Try.ntmps13
  go_wp2_with (first | (go_at_call 35; refine (mod_any _ _ _ h1 (by omega)).mono ?_; rintro e w' ⟨rfl, rfl⟩))
  exact bodyPost_ret (v := .tuple #[.agg #[.int .i64 (r % m), .int .i64 m], .int .i64 0]) (by simp [results, Try.results13, go_sem]) rfl ⟨rfl, (by repeat (first | exact Below.refl _ _ | refine below_drewN ?_ _ | refine Below.alloc ?_ (by simp) _ | refine Below.setCell ?_ (by simp) _))⟩

theorem refNew_bad (r m : Int) (w : World) (h : m < 1 ∨ 4611686018427387904 < m) : Calls Try.prog 14 #[.int .i64 r, .int .i64 m] w fun e w' => e = .returned (.tuple #[.agg #[.int .i64 0, .int .i64 0], .int .i64 1]) ∧ Below w.heap.size w w' := by
  rcases h with h1 | h1
  · go_enter Try.func14, Try.ntmps14
    go_wp2_with (go_at_call 36; refine (limit_any _).mono ?_; rintro e w' ⟨rfl, rfl⟩)
    exact bodyPost_ret (v := .tuple #[.agg #[.int .i64 0, .int .i64 0], .int .i64 1]) (by simp [results, Try.results14, go_sem]) rfl ⟨rfl, (by repeat (first | exact Below.refl _ _ | refine below_drewN ?_ _ | refine Below.alloc ?_ (by simp) _ | refine Below.setCell ?_ (by simp) _))⟩
  · have h2 : 1 ≤ m := by omega
    go_enter Try.func14, Try.ntmps14
    go_wp2_with (go_at_call 36; refine (limit_any _).mono ?_; rintro e w' ⟨rfl, rfl⟩)
    exact bodyPost_ret (v := .tuple #[.agg #[.int .i64 0, .int .i64 0], .int .i64 1]) (by simp [results, Try.results14, go_sem]) rfl ⟨rfl, (by repeat (first | exact Below.refl _ _ | refine below_drewN ?_ _ | refine Below.alloc ?_ (by simp) _ | refine Below.setCell ?_ (by simp) _))⟩

theorem refNew_ok (r m : Int) (w : World) (h1 : 1 ≤ m) (h2 : m ≤ 4611686018427387904) : Calls Try.prog 14 #[.int .i64 r, .int .i64 m] w fun e w' => e = .returned (.tuple #[.agg #[.int .i64 (r % m), .int .i64 m], .int .i64 0]) ∧ Below w.heap.size w w' := by
  go_enter Try.func14, Try.ntmps14
  go_wp2_with (first | (go_at_call 30; refine (refmod_any _ _ _ h1 (by omega)).mono ?_; rintro e w' ⟨rfl, rfl⟩) | (go_at_call 36; refine (limit_any _).mono ?_; rintro e w' ⟨rfl, rfl⟩))
  exact bodyPost_ret (v := .tuple #[.agg #[.int .i64 (r % m), .int .i64 m], .int .i64 0]) (by simp [results, Try.results14, go_sem]) rfl ⟨rfl, (by repeat (first | exact Below.refl _ _ | refine below_drewN ?_ _ | refine Below.alloc ?_ (by simp) _ | refine Below.setCell ?_ (by simp) _))⟩


theorem of_any (r m : Int) (w : World) : Calls Try.prog 15 #[.agg #[.int .i64 r, .int .i64 m]] w fun e w' => e = .returned (.agg #[.int .i64 r, .int .i64 m]) ∧ Below w.heap.size w w' := by
  go_enter Try.func15, Try.ntmps15
  go_wp2
  exact bodyPost_ret (v := .agg #[.int .i64 r, .int .i64 m]) (by simp [results, Try.results15, go_sem]) rfl ⟨rfl, (by repeat (first | exact Below.refl _ _ | refine below_drewN ?_ _ | refine Below.alloc ?_ (by simp) _ | refine Below.setCell ?_ (by simp) _))⟩

theorem to_any (r m : Int) (w : World) : Calls Try.prog 17 #[.agg #[.int .i64 r, .int .i64 m]] w fun e w' => e = .returned (.agg #[.int .i64 r, .int .i64 m]) ∧ Below w.heap.size w w' := by
  go_enter Try.func17, Try.ntmps17
  go_wp2
  exact bodyPost_ret (v := .agg #[.int .i64 r, .int .i64 m]) (by simp [results, Try.results17, go_sem]) rfl ⟨rfl, (by repeat (first | exact Below.refl _ _ | refine below_drewN ?_ _ | refine Below.alloc ?_ (by simp) _ | refine Below.setCell ?_ (by simp) _))⟩
end Go.Proofs.Ytgicdfhhaefibaa
