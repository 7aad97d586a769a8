/- The least string that is greater than all strings with a prefix. -/
import Derived.Test.YtdfkcibmmabjcaaPar
import Derived.RegionTactic
namespace Go.Proofs.Ytdfkcibmmabjcaa
open Go.ChangeShapes Go.WideShapes Go.ChangeAt Go.RowKit

/-- The length without the bytes 255 at the end. -/
def stripN (l : List UInt8) : Nat → Nat
  | 0 => 0
  | n + 1 => if l[n]? = some 255 then stripN l n else n + 1
theorem stripN_le (l : List UInt8) : ∀ n, stripN l n ≤ n
  | 0 => Nat.le_refl _
  | n + 1 => by unfold stripN; split; exact Nat.le_succ_of_le (stripN_le l n); exact Nat.le_refl _
def endS (l : List UInt8) : List UInt8 := if stripN l l.length = 0 then [] else l.take (stripN l l.length - 1) ++ [l.getD (stripN l l.length - 1) 0 + 1]
def endB (l : List UInt8) : Bool := decide (stripN l l.length ≠ 0)


theorem back1 (x : Int) (h0 : 0 ≤ x) (h1 : x < 256) (w : World) : (convert 28 9 (.slice (some ⟨w.heap.size, 0, none⟩) 1 1)).run Try.prog (w.alloc (.cells #[.int .u8 x] 5)).drew = .ok (.string ⟨#[u8 x]⟩) (w.alloc (.cells #[.int .u8 x] 5)).drew := by
  refine run_convert_bytes_back _ 28 9 5 ⟨w.heap.size, 0, none⟩ 1 [u8 x] Try.underlying28 Try.underlying5 Try.underlying9 ?_
  intro j hj
  match j, hj with
  | 0, _ =>
    show (w.alloc (.cells #[.int .u8 x] 5)).cell? _ = _
    simp [Addr.add, World.cell?_alloc_at _ _ _ _ rfl, u8_toNat x h0 h1]
theorem at_data (s : ByteArray) (k : Nat) (h : k < s.size) : s.data.toList[k]? = some s[k] := by
  rw [Array.getElem?_toList, Array.getElem?_eq_getElem h]; rfl
theorem strip_yes (s : ByteArray) (k : Nat) (h : k < s.size) (hx : ((s[k].toNat : Int) == 255) = true) : stripN s.data.toList (k + 1) = stripN s.data.toList k := by
  have e : s[k] = 255 := by
    have : s[k].toNat = 255 := by simp at hx; omega
    exact UInt8.toNat.inj this
  unfold stripN
  rw [at_data s k h, e]; simp only [if_true]; cases k <;> rfl
theorem strip_no (s : ByteArray) (k : Nat) (h : k < s.size) (hx : ((s[k].toNat : Int) == 255) = false) : stripN s.data.toList (k + 1) = k + 1 := by
  have e : s[k] ≠ 255 := by
    intro h2; rw [h2] at hx; simp at hx
  unfold stripN
  rw [at_data s k h, if_neg (by simpa using e)]
theorem end_none (s : ByteArray) (h : stripN s.data.toList s.size = 0) : (⟨(endS s.data.toList).toArray⟩ : ByteArray) = ⟨#[]⟩ ∧ endB s.data.toList = false := by
  have e : s.data.toList.length = s.size := by simp
  unfold endS endB
  rw [e, h]; exact ⟨rfl, rfl⟩
theorem end_some (s : ByteArray) (k : Nat) (h : k < s.size) (hs : stripN s.data.toList s.size = k + 1) : s.extract 0 k ++ (⟨#[u8 (((s[k].toNat : Int) + 1) % 256)]⟩ : ByteArray) = (⟨(endS s.data.toList).toArray⟩ : ByteArray) ∧ endB s.data.toList = true := by
  have e : s.data.toList.length = s.size := by simp
  unfold endS endB
  rw [e, hs]
  refine ⟨?_, by simp⟩
  rw [if_neg (by omega), Nat.add_sub_cancel]
  have ex : u8 (((s[k].toNat : Int) + 1) % 256) = s[k] + 1 := by
    apply UInt8.toNat.inj
    have := u8_toNat (((s[k].toNat : Int) + 1) % 256) (by omega) (by omega)
    rw [UInt8.toNat_add]
    simp; omega
  have ey : s.data.toList.getD k 0 = s[k] := by rw [List.getD_eq_getElem?_getD, at_data s k h]; rfl
  rw [ex, ey]
  apply ByteArray.ext
  apply Array.ext'
  simp [ByteArray.data_append, ByteArray.data_extract]

theorem End_any (s : ByteArray) (w : World) (hm : s.size ≤ 9223372036854775806) :
    Calls Try.prog 25 #[.string s] w fun e w' => e = .returned (.tuple #[.string ⟨(endS s.data.toList).toArray⟩, .bool (endB s.data.toList)]) ∧ Below w.heap.size w w' := by
  go_enter Try.func25, Try.ntmps25
  go_wp2
  go_loop [4] (fun i => ∃ k : Nat, k ≤ s.size ∧ i = .int .i64 k ∧ stripN s.data.toList s.size = stripN s.data.toList k) (fun i => (intOf i).toNat)
  case atStart => exact ⟨s.size, Nat.le_refl _, rfl, rfl⟩
  case round =>
    obtain ⟨k, hk, rfl, hs⟩ := hrel
    rcases k with _ | k
    · have H := Lib.hid (end_none s hs)
      clear hs
      go_wp2
      go_ret2
      rw [H.out.1, H.out.2]
      exact ⟨rfl, Below.refl _ _⟩
    · have hk' : k < s.size := by omega
      cases hx : ((s[k].toNat : Int) == 255)
      · have H := Lib.hid (end_some s k hk' (hs.trans (strip_no s k hk' hx)))
        have hb := fun w => back1 (((s[k].toNat : Int) + 1) % 256) (by omega) (by omega) w
        have hl : s[k].toNat < 256 := s[k].toNat_lt
        clear hs
        have hi := IntWalk.i64_in (k : Int) (by omega)
        go_wp2
        go_region
        all_goals
          go_wp2
          go_ret2
          rw [H.out.1, H.out.2]
          exact ⟨rfl, ((Below.refl _ _).alloc (Nat.le_refl _) _).drew⟩
      · have H := Lib.hid (hs.trans (strip_yes s k hk' hx))
        clear hs
        go_wp2
        go_round
        case rel => exact ⟨k, by omega, rfl, H.out⟩
        case measure => simp [intOf]
theorem refEnd_any (s : ByteArray) (w : World) (hm : s.size ≤ 9223372036854775806) :
    Calls Try.prog 26 #[.string s] w fun e w' => e = .returned (.tuple #[.string ⟨(endS s.data.toList).toArray⟩, .bool (endB s.data.toList)]) ∧ Below w.heap.size w w' := by
  go_enter Try.func26, Try.ntmps26
  go_wp2
  go_loop [4] (fun i => ∃ k : Nat, k ≤ s.size ∧ i = .int .i64 k ∧ stripN s.data.toList s.size = stripN s.data.toList k) (fun i => (intOf i).toNat)
  case atStart => exact ⟨s.size, Nat.le_refl _, rfl, rfl⟩
  case round =>
    obtain ⟨k, hk, rfl, hs⟩ := hrel
    rcases k with _ | k
    · have H := Lib.hid (end_none s hs)
      clear hs
      go_wp2
      go_ret2
      rw [H.out.1, H.out.2]
      exact ⟨rfl, Below.refl _ _⟩
    · have hk' : k < s.size := by omega
      cases hx : ((s[k].toNat : Int) == 255)
      · have H := Lib.hid (end_some s k hk' (hs.trans (strip_no s k hk' hx)))
        have hb := fun w => back1 (((s[k].toNat : Int) + 1) % 256) (by omega) (by omega) w
        have hl : s[k].toNat < 256 := s[k].toNat_lt
        clear hs
        have hi := IntWalk.i64_in (k : Int) (by omega)
        go_wp2
        go_region
        all_goals
          go_wp2
          go_ret2
          rw [H.out.1, H.out.2]
          exact ⟨rfl, ((Below.refl _ _).alloc (Nat.le_refl _) _).drew⟩
      · have H := Lib.hid (hs.trans (strip_yes s k hk' hx))
        clear hs
        go_wp2
        go_round
        case rel => exact ⟨k, by omega, rfl, H.out⟩
        case measure => simp [intOf]
end Go.Proofs.Ytdfkcibmmabjcaa
