/- Numbers in bytes, the most significant one first. -/
import Derived.Test.YthhpilkhcomhbaaDoorSmx
import Derived.Test.YthhpilkhcomhbaaDoorAwk
import Derived.Handy
namespace Go.Proofs.YthhpilkhcomhbaaDoor
open Go.ChangeShapes Go.WideShapes Go.ChangeAt Go.RowKit Go.ChangeMaps

theorem be_get : ∀ (k n i : Nat), i < k → (be k n)[i]? = some (UInt8.ofNat (n / 256 ^ (k - 1 - i)))
  | 0, _, _, h => by omega
  | k + 1, n, 0, _ => by rw [be]; simp
  | k + 1, n, i + 1, h => by
    rw [be, List.getElem?_cons_succ, be_get k n i (by omega)]
    congr 4
    omega
theorem splice_step {l bs : List UInt8} {off k : Nat} {x : UInt8} (hx : bs[k]? = some x) (h : off + bs.length ≤ l.length) : (splice l off (bs.take k)).set (off + k) x = splice l off (bs.take (k + 1)) := by
  have hk : k < bs.length := (List.getElem?_eq_some_iff.1 hx).1
  apply List.ext_getElem?
  intro j
  unfold splice
  rw [List.getElem?_set]
  simp only [List.length_append, List.length_take, List.length_drop, List.getElem?_append, List.getElem?_take, List.getElem?_drop]
  have e1 : min off l.length = off := by omega
  have e2 : min k bs.length = k := by omega
  have e3 : min (k + 1) bs.length = k + 1 := by omega
  rw [e1, e2, e3]
  by_cases hj : off + k = j
  · subst hj
    have h5 : off + k - off = k := by omega
    have h6 : off + k < off + k + (l.length - (off + k)) := by omega
    simp only [if_true, h5, hx, h6, show ¬ off + k < off by omega, show k < k + 1 by omega, if_false]
    simp; omega
  · rw [if_neg hj]
    by_cases h1 : j < off
    · simp [h1]
    · by_cases h2 : j < off + k
      · simp [h1, show j - off < k by omega, show j - off < k + 1 by omega]
      · simp only [h1, if_false, show ¬ j - off < k by omega, show ¬ j - off < k + 1 by omega]
        congr 1
        omega
theorem splice_nil (l : List UInt8) (off : Nat) : splice l off [] = l := by unfold splice; simp
theorem shr_step {n sz k : Nat} (h : k < sz) (hs : sz ≤ 8) : ∃ (t m : Nat) (x : UInt8), (sz : Int) - 1 - (k : Int) = (t : Int) ∧ t ≤ 7 ∧ 8 * (t : Int) = (m : Int) ∧ m ≤ 56 ∧ IntKind.u8.wrap ((n : Int) / 2 ^ m) = (x.toNat : Int) ∧ (be sz n)[k]? = some x := by
  refine ⟨sz - 1 - k, 8 * (sz - 1 - k), UInt8.ofNat (n / 256 ^ (sz - 1 - k)), by omega, by omega, by omega, by omega, ?_, be_get sz n k h⟩
  rw [IntKind.wrap_u8, UInt8.toNat_ofNat']
  have : (2 : Int) ^ (8 * (sz - 1 - k)) = ((256 ^ (sz - 1 - k) : Nat) : Int) := by rw [show (256 : Nat) = 2 ^ 8 by rfl, ← Nat.pow_mul]; simp
  rw [this]
  omega
set_option maxRecDepth 100000 in
theorem put_any (w : World) (g off m c sz n : Nat) (l : List UInt8) (h : Blk w g 5 (bc l).toArray) (hl : off + sz ≤ l.length) (hm : sz ≤ m) (hs : sz ≤ 8) :
    Calls Tryd.prog 49 #[.slice (some ⟨g, off, none⟩) m c, .int .u64 (n : Int), .int .i64 (sz : Int)] w fun e w' => e = .returned (.tuple #[]) ∧ Blk w' g 5 (bc (splice l off (be sz n))).toArray ∧ Chg (fun k => k = g) w w' := by
  have HB := Lib.hid h
  have HL := Lib.hid hl
  clear h hl
  go_enter Tryd.func49, Tryd.ntmps49
  go_wp2
  go_loopw [8] (fun iv wr => ∃ k : Nat, iv = .int .i64 (k : Int) ∧ k ≤ sz ∧ Blk wr g 5 (bc (splice l off ((be sz n).take k))).toArray ∧ Chg (fun k => k = g) w wr) (fun iv _ => sz - (intOf iv).toNat)
  case atStart => exact ⟨0, rfl, by omega, by rw [List.take_zero, splice_nil]; exact HB.out, Chg.refl _ _⟩
  case round =>
    obtain ⟨k, rfl, hk, hb, hc⟩ := hrel
    have HK := Lib.hid hb
    have HC := Lib.hid hc
    clear hb hc
    by_cases hlt : k < sz
    · obtain ⟨t, s8, x, e1, ht, e2, h56, e3, hx⟩ := shr_step (n := n) hlt hs
      have HX := Lib.hid hx
      clear hx
      have hlen : (splice l off ((be sz n).take k)).length = l.length := by unfold splice; simp [be_len]; have := HL.out; omega
      have hin : off + k < (splice l off ((be sz n).take k)).length := by rw [hlen]; have := HL.out; omega
      have c0 : wr.cell? ⟨g, off + k, none⟩ = some (.int .u8 ((splice l off ((be sz n).take k))[off + k].toNat : Int)) := by rw [HK.out.cell, List.getElem?_toArray, bc_at _ _ hin]
      have f0 : ∀ j, wr.frozen? ⟨g, j, none⟩ = false := fun j => Joins.unfrozen_of_block HK.out j
      have HST := Lib.hid (splice_step (l := l) (off := off) HX.out (by rw [be_len]; exact HL.out))
      generalize (splice l off ((be sz n).take k))[off + k].toNat = y at c0
      clear hlen hin HX
      go_wp2
      go_roundw
      case rel =>
        refine ⟨k + 1, by go_num, by omega, ?_, HC.out.set_ rfl⟩
        rw [← HST.out, ← bc_set]
        exact Joins.block_setCell HK.out _
      case measure => simp [intOf]; omega
    · obtain rfl : k = sz := by omega
      go_wp2
      go_returns
      exact ⟨rfl, by have := HK.out; rwa [List.take_of_length_le (by rw [be_len]; omega)] at this, HC.out⟩
theorem or_byte {a x : Nat} (ha : a < 72057594037927936) (hx : x < 256) : bits BinOp.or IntKind.u64 (a * 256 : Int) (x : Int) = ((256 * a + x : Nat) : Int) := by
  have h1 : (BitVec.ofInt 64 ((a : Int) * 256)).toNat = a * 256 := by
    rw [show (a : Int) * 256 = ((a * 256 : Nat) : Int) by omega, BitVec.ofInt_natCast, BitVec.toNat_ofNat]; exact Nat.mod_eq_of_lt (by omega)
  have h2 : (BitVec.ofInt 64 (x : Int)).toNat = x := by
    rw [BitVec.ofInt_natCast, BitVec.toNat_ofNat]; exact Nat.mod_eq_of_lt (by omega)
  show IntKind.u64.wrap ((BitVec.ofInt 64 ((a : Int) * 256) ||| BitVec.ofInt 64 (x : Int)).toNat : Int) = _
  have h3 : a * 256 ||| x = 256 * a + x := by
    rw [Nat.mul_comm, show (256 : Nat) = 2 ^ 8 by rfl, ← Nat.two_pow_add_eq_or_of_lt (by omega : x < 2 ^ 8)]
  rw [BitVec.toNat_or, h1, h2, IntKind.wrap_u64, h3]
  omega
theorem val_step {l : List UInt8} {k : Nat} (hk : k < l.length) (h8 : l.length ≤ 8) : ∃ (a x : Nat), val (l.take k) = a ∧ a < 72057594037927936 ∧ l[k].toNat = x ∧ x < 256 ∧ IntKind.u64.wrap ((a : Int) * 256) = a * 256 ∧ bits BinOp.or IntKind.u64 (a * 256 : Int) (x : Int) = ((val (l.take (k + 1)) : Nat) : Int) := by
  have hl := val_lt (l.take k)
  rw [List.length_take, Nat.min_eq_left (by omega)] at hl
  have h2 : 256 ^ k ≤ 256 ^ 7 := Nat.pow_le_pow_right (by omega) (by omega)
  have h3 : (256 : Nat) ^ 7 = 72057594037927936 := by decide
  have hx := l[k].toNat_lt
  refine ⟨_, _, rfl, by omega, rfl, hx, by rw [IntKind.wrap_u64]; omega, ?_⟩
  rw [or_byte (by omega) hx, List.take_succ_eq_append_getElem hk, val_snoc]
set_option maxRecDepth 100000 in
theorem get_any (A : Option Addr) (n c : Nat) (l : List UInt8) (w : World) (hb : BytesAt w A n l) (hn : n ≤ 8) :
    Calls Tryd.prog 47 #[.slice A n c] w fun e w' => e = .returned (.int .u64 ((val l : Nat) : Int)) ∧ w = w' := by
  go_enter Tryd.func47, Tryd.ntmps47
  go_wp2
  go_loop [3, 8] (fun v i => ∃ k : Nat, k ≤ n ∧ i = .int .i64 k ∧ v = .int .u64 ((val (l.take k) : Nat) : Int)) (fun _ i => n - (intOf i).toNat)
  case atStart => exact ⟨0, by omega, rfl, by rw [List.take_zero]; rfl⟩
  case round =>
    obtain ⟨k, hk, rfl, rfl⟩ := hrel
    by_cases hlt : k < n
    · have hkl : k < l.length := by rw [hb.1]; exact hlt
      obtain ⟨b, off, rfl, _, hc⟩ := hb.2 (by omega)
      have c0 := hc k hkl
      obtain ⟨a, x, e1, ha, e2, hx, e3, e4⟩ := val_step hkl (by rw [hb.1]; exact hn)
      have H4 := Lib.hid hc
      have H5 := Lib.hid hb
      rw [e2] at c0
      rw [e1]
      obtain ⟨z, hz⟩ : ∃ z, val (l.take (k + 1)) = z := ⟨_, rfl⟩
      rw [hz] at e4
      have HZ := Lib.hid hz
      clear hc hb e1 e2 hkl hz
      go_wp2
      go_round
      case rel => exact ⟨k + 1, by omega, by go_num, by rw [HZ.out]⟩
      case measure => simp [intOf]; omega
    · obtain rfl : k = n := by omega
      have H4 := Lib.hid (show l.take k = l by rw [← hb.1]; exact List.take_length)
      go_wp2
      go_ret
      exact ⟨by rw [H4.out]; rfl, rfl⟩
end Go.Proofs.YthhpilkhcomhbaaDoor
