/- Append. -/
import Derived.Test.YtpnemkphdminnaaDoorOwn
namespace Go.Proofs.YtpnemkphdminnaaDoor
open Go.ChangeShapes Go.WideShapes Go.ChangeAt Go.RowKit Go.ChangeMaps

theorem own_room (w : World) (m : Nat) (hm : m ≤ 1000) : (w.alloc (.cells (madeCells #[.int .u8 0] m) 5)).ownsRow w.heap.size 5 1 (.slice (some ⟨w.heap.size, 0, none⟩) 0 m) 0 [] :=
  ⟨rfl, .inr ⟨w.heap.size, m, _, rfl, Nat.le_refl _, heap_alloc_new w _, Nat.zero_le _, by unfold maxLen; omega, by rw [size_madeCells, Nat.mul_one], by simp⟩⟩
theorem run_room (n : Nat) (hn : n ≤ 300) (w : World) : (Instr.makeSlice 22 (.int .i64 0) (.int .i64 ((n : Int) + 8))).run Tryd.prog w = .ok (.slice (some ⟨w.heap.size, 0, none⟩) 0 (n + 8)) (w.alloc (.cells (madeCells #[.int .u8 0] (n + 8)) 5)) := by
  obtain ⟨i0, hi, hz0, hz1, hz2⟩ := info_parts Tryd.info5
  have hr := run_make (P := Tryd.prog) w 22 5 i0 _ Tryd.underlying22 hi hz0 .i64 .i64 0 ((n : Int) + 8) (by omega) (by omega) (by rw [hz2]; omega) (by omega)
  rw [hz1] at hr
  simpa [Value.cells, show ((n : Int) + 8).toNat = n + 8 by omega] using hr
set_option maxHeartbeats 1000000 in
theorem Append_any (A : Option Addr) (n c : Nat) (l : List UInt8) (w : World) (hb : BytesAt w A n l) (hn : n ≤ 300) (he : Env w) :
    Calls Tryd.prog 17 #[.slice A n c] w (Gives w (l ++ le8 8 (crc 0 l))) := by
  obtain ⟨i0, hi, hz0, hz1, hz2⟩ := info_parts Tryd.info5
  have hmk := run_room n hn
  have B1 : Below w.heap.size w (w.alloc (.cells (madeCells #[.int .u8 0] (n + 8)) 5)) := (Below.refl _ _).alloc (Nat.le_refl _) _
  have hb2 := hb.below B1
  have O := own_room w (n + 8) (by omega)
  have G := Grows.refl (E := 5) (B := w.heap.size) (l := []) O B1.size
  have hcl := crc_lt 0 l
  have C := Lib.hid (fun w hb he => Sum_any A n c l w hb (by omega) he)
  generalize crc 0 l = s at *
  have hl := hb.1
  go_enter Tryd.func17, Tryd.ntmps17
  go_wp2_with (first
    | (at_builtin; refine wpList_app rfl (.tmp 10) (.tmp 11) 22 22 rfl w.heap.size _ _ 5 i0 Tryd.underlying22 hi hz0 hz1 hz2 _ [] rfl G _ n l rfl (src_at hb2) (by simp; omega) ?_; intro v2 w2 G2 z2 k2)
    | (go_at_call 12; refine (C.out _ (hb.below (B1.trans (G2.below_of O B1.size))) (he.below (B1.trans (G2.below_of O B1.size)))).mono ?_; rintro e w' ⟨rfl, rfl⟩))
  go_loopw [3, 15] (fun v i wr => ∃ k : Nat, k ≤ 8 ∧ i = .int .i64 k ∧ Grows 5 w.heap.size (w.alloc (.cells (madeCells #[.int .u8 0] (n + 8)) 5)) (.slice (some ⟨w.heap.size, 0, none⟩) 0 (n + 8)) (l ++ le8 k s) v wr) (fun _ i _ => 8 - (intOf i).toNat)
  case atStart => exact ⟨0, by omega, rfl, by simpa [le8] using G2⟩
  case round =>
    obtain ⟨k, hk, rfl, hG⟩ := hrel
    by_cases hlt : k < 8
    · have H1 := Lib.hid (le8_snoc k s)
      have hx : s / 256 ^ k < 18446744073709551616 := Nat.lt_of_le_of_lt (Nat.div_le_self _ _) hcl
      have hlen : (l ++ le8 k s).length ≤ 308 := by rw [List.length_append, le8_len]; omega
      have HG := Lib.hid hG
      clear hG G G2
      have hsh : (s : Int) / 2 ^ (8 * (k : Int)).toNat = ((s / 256 ^ k : Nat) : Int) := by
        have e : (2 : Int) ^ (8 * k) = ((256 ^ k : Nat) : Int) := by rw [show (256 : Nat) = 2 ^ 8 by rfl, ← Nat.pow_mul]; simp
        rw [show (8 * (k : Int)).toNat = 8 * k by omega, e, Int.natCast_ediv]
      generalize s / 256 ^ k = x at *
      have hv : ((x : Int) % 256) = ((UInt8.ofNat (x % 256)).toNat : Int) := by rw [UInt8.toNat_ofNat']; omega
      have HN := Lib.hid (byte_new wr (UInt8.ofNat (x % 256)) _ hv)
      have HV := Lib.hid hv
      clear hv
      generalize UInt8.ofNat (x % 256) = y at *
      go_wp2_with (at_builtin; refine wpList_app rfl (.tmp 18) (.tmp 24) 22 22 rfl w.heap.size _ _ 5 i0 Tryd.underlying22 hi hz0 hz1 hz2 _ _ rfl (HG.out.alloc _) _ 1 [y] rfl (src_news [y] rfl HN.out) (by omega) ?_; intro v3 w3 G3 z3 k3)
      clear k3 z3
      have HG3 := Lib.hid G3
      clear G3 hsh
      go_roundw
      case rel => exact ⟨k + 1, by omega, by go_num, by rw [H1.out, ← List.append_assoc]; exact HG3.out⟩
      case measure => simp [intOf]; omega
    · obtain rfl : k = 8 := by omega
      have HG := Lib.hid hG
      clear hG G G2
      go_wp2
      go_ret
      exact ⟨_, rfl, HG.out.1, B1.trans (HG.out.below_of O B1.size)⟩
end Go.Proofs.YtpnemkphdminnaaDoor
