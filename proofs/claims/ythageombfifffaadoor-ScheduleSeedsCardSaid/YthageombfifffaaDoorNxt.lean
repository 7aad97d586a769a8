/- The pseudorandom numbers. -/
import Derived.Test.YthageombfifffaaDoorRrb
import Derived.Laws.Bits64
namespace Go.Proofs.YthageombfifffaaDoor
open Go.ChangeShapes Go.WideShapes Go.ChangeAt Go.RowKit Go.ChangeMaps

theorem u64_bd {n : Int} (h : (Lit.int .u64 n).wf = true) : 0 ≤ n ∧ n ≤ 18446744073709551615 := by
  have h1 : IntKind.u64.min = 0 := rfl
  have h2 : IntKind.u64.max = 18446744073709551615 := rfl
  simp only [Lit.wf, Bool.and_eq_true, decide_eq_true_eq, h1, h2] at h
  exact h
def nS (s : Int) : Int := IntKind.u64.wrap (s + 11400714819323198485)
def nA (y : Int) : Int := IntKind.u64.wrap (bits BinOp.xor IntKind.u64 y (y / 1073741824) * 13787848793156543929)
def nB (y : Int) : Int := IntKind.u64.wrap (bits BinOp.xor IntKind.u64 y (y / 134217728) * 10723151780598845931)
def nC (y : Int) : Int := bits BinOp.xor IntKind.u64 y (y / 2147483648)
def nZ (s : Int) : Int := nC (nB (nA (nS s)))
theorem nS_eq (s : Int) : IntKind.u64.wrap (s + 11400714819323198485) = nS s := rfl
theorem nA_eq (y : Int) : IntKind.u64.wrap (bits BinOp.xor IntKind.u64 y (y / 1073741824) * 13787848793156543929) = nA y := rfl
theorem nB_eq (y : Int) : IntKind.u64.wrap (bits BinOp.xor IntKind.u64 y (y / 134217728) * 10723151780598845931) = nB y := rfl
theorem nC_eq (y : Int) : bits BinOp.xor IntKind.u64 y (y / 2147483648) = nC y := rfl
theorem wrap_u64_bd (x : Int) : 0 ≤ IntKind.u64.wrap x ∧ IntKind.u64.wrap x < 18446744073709551616 := by
  rw [IntKind.wrap_u64]; omega
theorem nC_bd (y : Int) (h0 : 0 ≤ y) (h1 : y < 18446744073709551616) : 0 ≤ nC y ∧ nC y < 18446744073709551616 := by
  obtain ⟨X, rfl⟩ := Int.eq_ofNat_of_zero_le h0
  have hX : X < 18446744073709551616 := by omega
  have e : nC (X : Int) = ((X ^^^ X / 2147483648 : Nat) : Int) := xorShift_u64 X 2147483648 hX
  have : X ^^^ X / 2147483648 < 2 ^ 64 := Nat.xor_lt_two_pow hX (by omega)
  rw [e]; omega
theorem nS_bd (s : Int) : 0 ≤ nS s ∧ nS s < 18446744073709551616 := wrap_u64_bd _
theorem nZ_bd (s : Int) : 0 ≤ nZ s ∧ nZ s < 18446744073709551616 := nC_bd _ (wrap_u64_bd _).1 (wrap_u64_bd _).2
set_option maxHeartbeats 1000000 in
theorem next27 (s : Int) (w : World) (h0 : 0 ≤ s) (h1 : s < 18446744073709551616) :
    Calls Tryd.prog 27 #[.int .u64 s] w fun e w' => e = .returned (.tuple #[.int .u64 (nS s), .int .u64 (nZ s)]) ∧ w = w' := by
  go_enter Tryd.func27, Tryd.ntmps27
  go_wp2
  go_ret2
  exact ⟨rfl, rfl⟩
def nR (s n : Int) : Int := (nZ s) % n
theorem nR_bd (s n : Int) (h : 0 < n) : 0 ≤ nR s n ∧ nR s n < n := ⟨Int.emod_nonneg _ (by omega), Int.emod_lt_of_pos _ h⟩
theorem nR_eq (s n : Int) (h : 0 < n) (h1 : n ≤ 1000) : wrap64 ((nZ s).tmod n) = nR s n := by
  rw [Int.tmod_eq_emod_of_nonneg (nZ_bd s).1]
  have := nR_bd s n h
  unfold nR at *
  unfold wrap64; omega
theorem next26 (s n : Int) (b : Nat) (w : World) (h0 : 0 ≤ s) (h1 : s < 18446744073709551616) (hn : 0 < n) (hn1 : n ≤ 1000) (hc : w.cell? ⟨b, 0, none⟩ = some (.int .u64 s)) (hf : w.frozen? ⟨b, 0, none⟩ = false) :
    Calls Tryd.prog 26 #[.pointer (some ⟨b, 0, none⟩), .int .i64 n] w fun e w' => e = .returned (.int .i64 (nR s n)) ∧ w' = w.setCell ⟨b, 0, none⟩ (.int .u64 (nS s)) := by
  go_enter Tryd.func26, Tryd.ntmps26
  go_wp2
  go_ret
  exact ⟨ret_int (nR_eq s n hn hn1), rfl⟩
end Go.Proofs.YthageombfifffaaDoor
