/- A string has a prefix exactly if its bytes begin with the prefix's. -/
import Derived.Test.YtdfkcibmmabjcaaPre
import Derived.Lib.Strings
namespace Go.Proofs.Ytdfkcibmmabjcaa
open Go.ChangeShapes Go.WideShapes Go.ChangeAt Go.RowKit

theorem ret_bool {a b : Bool} (h : a = b) : Ending.returned (.bool a) = .returned (.bool b) := by rw [h]
theorem pre_take (p s : List UInt8) : (s.take p.length == p) = List.isPrefixOf p s := by
  rw [Bool.eq_iff_iff, List.isPrefixOf_iff_prefix, beq_iff_eq, List.prefix_iff_eq_take]
  exact ⟨fun h => h.symm, fun h => h.symm⟩
def preB (p s : ByteArray) : Bool := List.isPrefixOf p.data.toList s.data.toList
theorem has36_any (s p : ByteArray) (w : World) (hs : s.size ≤ 9223372036854775807) (hp : p.size ≤ 9223372036854775807) :
    Calls Try.prog 36 #[.string s, .string p] w fun e w' => e = .returned (.bool (preB p s)) ∧ w = w' := by
  have hl : p.data.toList.length = p.size := by simp
  have hl2 : s.data.toList.length = s.size := by simp
  by_cases h : p.size ≤ s.size
  · have H : Hid (((s.extract 0 p.size).toList == p.toList) = preB p s) := by
      refine Lib.hid ?_
      rw [ByteArray.toList_eq, ByteArray.toList_eq, Lib.extract_data, List.drop_zero, Nat.sub_zero, hl.symm, pre_take]
      rfl
    clear hl hl2
    go_enter Try.func36, Try.ntmps36
    go_wp2
    go_ret
    exact ⟨ret_bool H.out, rfl⟩
  · have H : Hid (false = preB p s) := by
      refine Lib.hid ?_
      unfold preB
      rw [eq_comm, Bool.eq_false_iff]
      intro e
      have := (List.isPrefixOf_iff_prefix.1 e).length_le
      omega
    clear hl hl2
    go_enter Try.func36, Try.ntmps36
    go_wp2
    go_ret
    exact ⟨ret_bool H.out, rfl⟩
theorem has_any (s p : ByteArray) (w : World) (hs : s.size ≤ 9223372036854775807) (hp : p.size ≤ 9223372036854775807) :
    Calls Try.prog 22 #[.string s, .string p] w fun e w' => e = .returned (.bool (preB p s)) ∧ w = w' := by
  go_enter Try.func22, Try.ntmps22
  go_wp2_with (go_at_call 36; refine (has36_any _ _ _ hs hp).mono ?_; rintro e w' ⟨rfl, rfl⟩)
  go_ret
  exact ⟨rfl, rfl⟩
theorem refNumber_any (n : Int) (w : World) (h1 : -9223372036854775808 ≤ n) (h2 : n ≤ 9223372036854775807) :
    Calls Try.prog 29 #[.int .i64 n] w fun e w' => e = .returned (.string ⟨(num8 (n + 9223372036854775808)).toArray⟩) ∧ Below w.heap.size w w' := by
  obtain ⟨m, hm⟩ : ∃ m : Int, n + 9223372036854775808 = m := ⟨_, rfl⟩
  have C : ∀ w, Calls Try.prog 31 #[.int .i64 n] w fun e w' => e = .returned (.slice (some ⟨w.heap.size, 0, none⟩) 8 8) ∧ w' = w.alloc (.cells ((num8 m).map fun x => Value.int .u8 (x.toNat : Int)).toArray 5) := fun w => by rw [← hm]; exact refnumber_any n w h1 h2
  have back : ∀ w : World, (convert 28 9 (.slice (some ⟨w.heap.size, 0, none⟩) 8 8)).run Try.prog (w.alloc (.cells ((num8 m).map fun x => Value.int .u8 (x.toNat : Int)).toArray 5)) = .ok (.string ⟨(num8 m).toArray⟩) (w.alloc (.cells ((num8 m).map fun x => Value.int .u8 (x.toNat : Int)).toArray 5)) := by
    intro w
    refine run_convert_bytes_back _ 28 9 5 ⟨w.heap.size, 0, none⟩ 8 (num8 m) Try.underlying28 Try.underlying5 Try.underlying9 ?_
    intro j hj
    rw [add_plain, Nat.zero_add, World.cell?_alloc_at _ _ _ _ rfl]
    simp [List.getElem?_eq_getElem hj]
  have HM := Lib.hid hm
  have HC := Lib.hid C
  clear hm C
  go_enter Try.func29, Try.ntmps29
  go_wp2_with (go_at_call 31; refine (HC.out _).mono ?_; rintro e w' ⟨rfl, rfl⟩)
  go_ret
  exact ⟨ret_str (by rw [HM.out]), (Below.refl _ _).alloc (Nat.le_refl _) _⟩
end Go.Proofs.Ytdfkcibmmabjcaa
