/- The checksum and its reference. -/
import Derived.Test.YthhpilkhcomhbaaDoorByt
import Derived.Test.YthhpilkhcomhbaaDoorMth
import Derived.Laws.Bits64
namespace Go.Proofs.YthhpilkhcomhbaaDoor
open Go.ChangeShapes Go.WideShapes Go.ChangeAt Go.RowKit Go.ChangeMaps

structure Env (w : World) : Prop where
  steps : ∀ i, i < 16 → w.cell? ⟨0, i, none⟩ = some (.int .u64 ((cT i : Nat) : Int))
  big : 0 < w.heap.size
theorem Env.below {w w' : World} (h : Env w) (hb : Below w.heap.size w w') : Env w' := ⟨fun i hi => keepcell hb (h.steps i hi), Nat.lt_of_lt_of_le h.big hb.size⟩
theorem u64_bd {n : Int} (h : (Lit.int .u64 n).wf = true) : 0 ≤ n ∧ n ≤ 18446744073709551615 := by
  have h1 : IntKind.u64.min = 0 := rfl
  have h2 : IntKind.u64.max = 18446744073709551615 := rfl
  simp only [Lit.wf, Bool.and_eq_true, decide_eq_true_eq, h1, h2] at h
  exact h
theorem halves_succ (k r : Nat) : halves (k + 1) r = half (halves k r) := by
  rw [halves_add k 1]; rfl
theorem half_odd {x : Nat} (h : x < 18446744073709551616) (h1 : x % 2 = 1) : bits BinOp.xor IntKind.u64 ((x : Int) / 2) 14514072000185962306 = ((half x : Nat) : Int) := by
  have := bits_xor_u64_nat (x / 2) cP (by omega) (by decide)
  unfold half
  rw [if_pos h1, ← this, Int.natCast_ediv]; rfl
theorem half_ev {x : Nat} (h1 : x % 2 = 0) : (x : Int) / 2 = ((half x : Nat) : Int) := by
  unfold half
  rw [if_neg (by omega), Nat.xor_zero, Int.natCast_ediv]; rfl
theorem ixor {a b : Nat} (ha : a < 18446744073709551616) (hb : b < 18446744073709551616) : bits BinOp.xor IntKind.u64 (a : Int) (b : Int) = ((a ^^^ b : Nat) : Int) := bits_xor_u64_nat a b ha hb
theorem inot {a : Nat} (ha : a < 18446744073709551616) : bits BinOp.xor IntKind.u64 IntKind.u64.max (a : Int) = ((cM - a : Nat) : Int) := by
  rw [not_xor a ha]
  exact bits_xor_u64_nat cM a (by decide) ha
set_option maxHeartbeats 1000000 in
theorem turn_any (r c : Nat) (w : World) (hr : r < 18446744073709551616) (hc : c < 256) :
    Calls Tryd.prog 52 #[.int .u64 (r : Int), .int .u8 (c : Int)] w fun e w' => e = .returned (.int .u64 ((turn r c : Nat) : Int)) ∧ w = w' := by
  have H1 := Lib.hid (ixor hr (show c < 18446744073709551616 by omega))
  have hy := xor_lt64 hr (show c < 18446744073709551616 by omega)
  have H2 := Lib.hid (show turn r c = halves 8 (r ^^^ c) from rfl)
  generalize turn r c = t at *
  generalize r ^^^ c = y at *
  go_enter Tryd.func52, Tryd.ntmps52
  go_wp2
  go_loop [0, 5] (fun v i => ∃ k : Nat, k ≤ 8 ∧ i = .int .i64 k ∧ v = .int .u64 ((halves k y : Nat) : Int)) (fun _ i => 8 - (intOf i).toNat)
  case atStart => exact ⟨0, by omega, rfl, int_eq H1.out⟩
  case round =>
    obtain ⟨k, hk, rfl, rfl⟩ := hrel
    have hx := halves_lt k hy
    by_cases hlt : k < 8
    · have H3 := Lib.hid (halves_succ k y)
      generalize halves k y = x at *
      rcases Nat.mod_two_eq_zero_or_one x with h | h
      · have H4 := Lib.hid (half_ev h)
        have h5 : ((x : Int) % 2 == 1) = false := by simp; omega
        clear h
        go_wp2
        go_round
        case rel => exact ⟨k + 1, by omega, by go_num, by rw [H3.out]; exact int_eq H4.out⟩
        case measure => simp [intOf]; omega
      · have H4 := Lib.hid (half_odd hx h)
        have h5 : ((x : Int) % 2 == 1) = true := by simp; omega
        clear h
        go_wp2
        go_round
        case rel => exact ⟨k + 1, by omega, by go_num, by rw [H3.out]; exact int_eq H4.out⟩
        case measure => simp [intOf]; omega
    · obtain rfl : k = 8 := by omega
      go_wp2
      go_ret
      exact ⟨ret_int (by rw [H2.out]), rfl⟩
theorem Update_ref (s : Nat) (A : Option Addr) (n c : Nat) (l : List UInt8) (w : World) (hs : s < 18446744073709551616) (hb : BytesAt w A n l) (hn : n ≤ 9223372036854775807) :
    Calls Tryd.prog 51 #[.int .u64 (s : Int), .slice A n c] w fun e w' => e = .returned (.int .u64 ((crc s l : Nat) : Int)) ∧ w = w' := by
  have H1 := Lib.hid (inot hs)
  have hr : cM - s < 18446744073709551616 := by unfold cM; omega
  have H2 := Lib.hid (show crc s l = cM - turns (cM - s) l from rfl)
  generalize crc s l = z at *
  generalize cM - s = r at *
  go_enter Tryd.func51, Tryd.ntmps51
  go_wp2
  go_loop [5, 6] (fun v i => ∃ k : Nat, k ≤ n ∧ i = .int .i64 k ∧ v = .int .u64 ((turns r (l.take k) : Nat) : Int)) (fun _ i => n - (intOf i).toNat)
  case atStart => exact ⟨0, by omega, rfl, int_eq H1.out⟩
  case round =>
    obtain ⟨k, hk, rfl, rfl⟩ := hrel
    have hx := turns_lt hr (l.take k)
    by_cases hlt : k < n
    · have hkl : k < l.length := by rw [hb.1]; exact hlt
      obtain ⟨b, off, rfl, _, hc⟩ := hb.2 (by omega)
      have c0 := hc k hkl
      have H3 := Lib.hid (show turns r (l.take (k + 1)) = turn (turns r (l.take k)) l[k].toNat by rw [List.take_succ_eq_append_getElem hkl, turns_snoc])
      have H4 := Lib.hid hc
      have H5 := Lib.hid hb
      clear hc hb
      have hu := UInt8.toNat_lt l[k]
      generalize turns r (l.take k) = x at *
      generalize l[k].toNat = u at *
      go_wp2_with (go_at_call 52; refine (turn_any x u _ hx hu).mono ?_; rintro e w' ⟨rfl, rfl⟩)
      go_round
      case rel => exact ⟨k + 1, by omega, by go_num, by rw [H3.out]⟩
      case measure => simp [intOf]; omega
    · obtain rfl : k = n := by omega
      have H3 := Lib.hid (inot hx)
      have H4 := Lib.hid (show l.take k = l by rw [← hb.1]; exact List.take_length)
      go_wp2
      go_ret
      exact ⟨ret_int (by rw [H3.out, H2.out, H4.out]), rfl⟩
theorem Sum_ref (A : Option Addr) (n c : Nat) (l : List UInt8) (w : World) (hb : BytesAt w A n l) (hn : n ≤ 9223372036854775807) :
    Calls Tryd.prog 45 #[.slice A n c] w fun e w' => e = .returned (.int .u64 ((crc 0 l : Nat) : Int)) ∧ w = w' := by
  go_enter Tryd.func45, Tryd.ntmps45
  go_wp2_with (go_at_call 51; refine (Update_ref 0 _ _ _ l _ (by omega) hb hn).mono ?_; rintro e w' ⟨rfl, rfl⟩)
  go_ret
  exact ⟨rfl, rfl⟩
theorem iand15 {a : Nat} (ha : a < 18446744073709551616) : bits BinOp.and IntKind.u64 (a : Int) 15 = ((a % 16 : Nat) : Int) := by
  have hx : a &&& 15 = a % 16 := Nat.and_two_pow_sub_one_eq_mod a 4
  have h1 : (BitVec.ofInt 64 (a : Int)).toNat = a := by
    rw [BitVec.ofInt_natCast, BitVec.toNat_ofNat]; exact Nat.mod_eq_of_lt (by omega)
  have h2 : (BitVec.ofInt 64 (15 : Int)).toNat = 15 := by decide
  show IntKind.u64.wrap ((BitVec.ofInt 64 (a : Int) &&& BitVec.ofInt 64 (15 : Int)).toNat : Int) = _
  rw [BitVec.toNat_and, h1, h2, IntKind.wrap_u64, hx]
  omega
theorem nib_step {y : Nat} (hy : y < 18446744073709551616) : ∃ m q t z : Nat, m < 16 ∧ bits BinOp.and IntKind.u64 (y : Int) 15 = (m : Int) ∧ cT m = t ∧ (y : Int) / 16 = (q : Int) ∧ bits BinOp.xor IntKind.u64 (q : Int) (t : Int) = (z : Int) ∧ z < 18446744073709551616 ∧ z = halves 4 y := by
  have ht : cT (y % 16) < 18446744073709551616 := halves_lt 4 (by omega)
  refine ⟨y % 16, y / 16, cT (y % 16), halves 4 y, Nat.mod_lt _ (by omega), iand15 hy, rfl, by rw [Int.natCast_ediv]; rfl, ?_, halves_lt 4 hy, rfl⟩
  rw [ixor (by omega) ht, halves4_eq]
set_option maxHeartbeats 1000000 in
theorem Update_any (s : Nat) (A : Option Addr) (n c : Nat) (l : List UInt8) (w : World) (hs : s < 18446744073709551616) (hb : BytesAt w A n l) (hn : n ≤ 9223372036854775807) (he : Env w) :
    Calls Tryd.prog 48 #[.int .u64 (s : Int), .slice A n c] w fun e w' => e = .returned (.int .u64 ((crc s l : Nat) : Int)) ∧ w = w' := by
  have H1 := Lib.hid (inot hs)
  have hr : cM - s < 18446744073709551616 := by unfold cM; omega
  have H2 := Lib.hid (show crc s l = cM - turns (cM - s) l from rfl)
  generalize crc s l = z at *
  generalize cM - s = r at *
  go_enter Tryd.func48, Tryd.ntmps48
  go_wp2
  go_loop [5, 12] (fun v i => ∃ k : Nat, k ≤ n ∧ i = .int .i64 k ∧ v = .int .u64 ((turns r (l.take k) : Nat) : Int)) (fun _ i => n - (intOf i).toNat)
  case atStart => exact ⟨0, by omega, rfl, int_eq H1.out⟩
  case round =>
    obtain ⟨k, hk, rfl, rfl⟩ := hrel
    have hx := turns_lt hr (l.take k)
    by_cases hlt : k < n
    · have hkl : k < l.length := by rw [hb.1]; exact hlt
      obtain ⟨b, off, rfl, _, hc⟩ := hb.2 (by omega)
      have c0 := hc k hkl
      have H3 := Lib.hid (show turns r (l.take (k + 1)) = turn (turns r (l.take k)) l[k].toNat by rw [List.take_succ_eq_append_getElem hkl, turns_snoc])
      have H4 := Lib.hid hc
      have H5 := Lib.hid hb
      clear hc hb
      have hu := UInt8.toNat_lt l[k]
      generalize turns r (l.take k) = x at *
      generalize l[k].toNat = u at *
      have e0 := ixor hx (show u < 18446744073709551616 by omega)
      have hy := xor_lt64 hx (show u < 18446744073709551616 by omega)
      have H6 := Lib.hid (show turn x u = halves 4 (halves 4 (x ^^^ u)) from (halves_add 4 4 _))
      generalize x ^^^ u = y at *
      obtain ⟨m, q, t, z1, hm, e1, e2, e3, e4, hz1, e5⟩ := nib_step hy
      rw [← e5] at H6
      have d1 := he.steps m hm
      rw [e2] at d1
      obtain ⟨m2, q2, t2, z2, hm2, f1, f2, f3, f4, hz2, f5⟩ := nib_step hz1
      rw [← f5] at H6
      have d2 := he.steps m2 hm2
      rw [f2] at d2
      have H7 := Lib.hid he
      clear e2 e5 f2 f5 he
      go_wp2
      go_round
      case rel => exact ⟨k + 1, by omega, by go_num, by rw [H3.out, H6.out]⟩
      case measure => simp [intOf]; omega
    · obtain rfl : k = n := by omega
      have H3 := Lib.hid (inot hx)
      have H4 := Lib.hid (show l.take k = l by rw [← hb.1]; exact List.take_length)
      go_wp2
      go_ret
      exact ⟨ret_int (by rw [H3.out, H2.out, H4.out]), rfl⟩
end Go.Proofs.YthhpilkhcomhbaaDoor
