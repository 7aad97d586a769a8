/- The eight bytes of an integer, and the integer of eight bytes. -/
import Derived.Test.YtdfkcibmmabjcaaLaw
import Derived.Lib.Hide
import Derived.IntWalk
import Derived.LoopN
import Derived.WalkLawsBesides
import Derived.WalkSpells
import Derived.Laws.IdiomStrings
import Derived.ShutString
namespace Go.Proofs.Ytdfkcibmmabjcaa
open Go.ChangeShapes Go.WideShapes Go.ChangeAt Go.RowKit

/-- A byte of a number. -/
def u8 (n : Int) : UInt8 := UInt8.ofNat n.toNat
theorem u8_toNat (n : Int) (h0 : 0 ≤ n) (h1 : n < 256) : ((u8 n).toNat : Int) = n := by
  unfold u8; rw [UInt8.toNat_ofNat']; omega
/-- The eight bytes of a number below 2^64, the greatest first. -/
def num8 (m : Int) : List UInt8 := [u8 (m / 72057594037927936), u8 (m / 281474976710656 % 256), u8 (m / 1099511627776 % 256), u8 (m / 4294967296 % 256), u8 (m / 16777216 % 256), u8 (m / 65536 % 256), u8 (m / 256 % 256), u8 (m % 256)]
theorem num8_len (m : Int) : (num8 m).length = 8 := rfl
theorem u8_val (m : Int) : ((u8 (m % 256)).toNat : Int) = m % 256 := u8_toNat _ (by omega) (by omega)

theorem ret_str {a b : List UInt8} (h : a = b) : Ending.returned (.string ⟨a.toArray⟩) = .returned (.string ⟨b.toArray⟩) := by rw [h]

theorem Number_any (n : Int) (w : World) (h1 : -9223372036854775808 ≤ n) (h2 : n ≤ 9223372036854775807) :
    Calls Try.prog 27 #[.int .i64 n] w fun e w' => e = .returned (.string ⟨(num8 (n + 9223372036854775808)).toArray⟩) ∧ Below w.heap.size w w' := by
  have hmk : ∀ w, (Instr.makeSlice 28 (.int .i64 8) (.int .i64 8)).run Try.prog w = .ok (.slice (some ⟨w.heap.size, 0, none⟩) 8 8) (w.alloc (.cells #[.int .u8 0, .int .u8 0, .int .u8 0, .int .u8 0, .int .u8 0, .int .u8 0, .int .u8 0, .int .u8 0] 5)) := fun _ => by kernel_rfl
  have hw : IntKind.u64.wrap (IntKind.u64.wrap n + 9223372036854775808) = n + 9223372036854775808 := by simp [IntKind.wrap, IntKind.bits, IntKind.signed]; omega
  obtain ⟨m, hm⟩ : ∃ m : Int, n + 9223372036854775808 = m := ⟨_, rfl⟩
  rw [hm] at hw
  have hm0 : 0 ≤ m := by omega
  have hm1 : m < 18446744073709551616 := by omega
  have HM := Lib.hid hm
  clear hm h1 h2
  have back : ∀ w : World, (convert 28 9 (.slice (some ⟨w.heap.size, 0, none⟩) 8 8)).run Try.prog (w.alloc (.cells #[.int .u8 (m / 72057594037927936), .int .u8 (m / 281474976710656 % 256), .int .u8 (m / 1099511627776 % 256), .int .u8 (m / 4294967296 % 256), .int .u8 (m / 16777216 % 256), .int .u8 (m / 65536 % 256), .int .u8 (m / 256 % 256), .int .u8 (m % 256)] 5)) = .ok (.string ⟨(num8 m).toArray⟩) (w.alloc (.cells #[.int .u8 (m / 72057594037927936), .int .u8 (m / 281474976710656 % 256), .int .u8 (m / 1099511627776 % 256), .int .u8 (m / 4294967296 % 256), .int .u8 (m / 16777216 % 256), .int .u8 (m / 65536 % 256), .int .u8 (m / 256 % 256), .int .u8 (m % 256)] 5)) := by
    intro w
    refine run_convert_bytes_back _ 28 9 5 ⟨w.heap.size, 0, none⟩ 8 (num8 m) Try.underlying28 Try.underlying5 Try.underlying9 ?_
    intro j hj
    rw [num8_len] at hj
    match j, hj with
    | 0, _ => simp [Addr.add, World.cell?_alloc_at _ _ _ _ rfl, num8, u8_toNat (m / 72057594037927936) (by omega) (by omega)]
    | 1, _ => simp [Addr.add, World.cell?_alloc_at _ _ _ _ rfl, num8, u8_val]
    | 2, _ => simp [Addr.add, World.cell?_alloc_at _ _ _ _ rfl, num8, u8_val]
    | 3, _ => simp [Addr.add, World.cell?_alloc_at _ _ _ _ rfl, num8, u8_val]
    | 4, _ => simp [Addr.add, World.cell?_alloc_at _ _ _ _ rfl, num8, u8_val]
    | 5, _ => simp [Addr.add, World.cell?_alloc_at _ _ _ _ rfl, num8, u8_val]
    | 6, _ => simp [Addr.add, World.cell?_alloc_at _ _ _ _ rfl, num8, u8_val]
    | 7, _ => simp [Addr.add, World.cell?_alloc_at _ _ _ _ rfl, num8, u8_val]
  go_enter Try.func27, Try.ntmps27
  go_wp2
  refine wp_loop_rounds 9 ?_
  iterate 9 (rw [rounds_succ]; go_wp2)
  go_ret
  exact ⟨ret_str (by rw [HM.out]), (Below.refl _ _).alloc (Nat.le_refl _) _⟩
end Go.Proofs.Ytdfkcibmmabjcaa
