/- Copies; Append and Check. -/
import Derived.Test.YtpnemkphdminnaaDoorCrc
namespace Go.Proofs.YtpnemkphdminnaaDoor
open Go.ChangeShapes Go.WideShapes Go.ChangeAt Go.RowKit Go.ChangeMaps

theorem Sum_any (A : Option Addr) (n c : Nat) (l : List UInt8) (w : World) (hb : BytesAt w A n l) (hn : n ≤ 9223372036854775807) (he : Env w) :
    Calls Tryd.prog 12 #[.slice A n c] w fun e w' => e = .returned (.int .u64 ((crc 0 l : Nat) : Int)) ∧ w = w' := by
  go_enter Tryd.func12, Tryd.ntmps12
  go_wp2_with (go_at_call 15; refine (Update_any 0 _ _ _ l _ (by omega) hb hn he).mono ?_; rintro e w' ⟨rfl, rfl⟩)
  go_ret
  exact ⟨rfl, rfl⟩
/-- A new row of bytes. -/
def Gives (w : World) (l : List UInt8) (e : Ending) (w' : World) : Prop := ∃ v, e = .returned v ∧ w'.ownsRow w.heap.size 5 1 v l.length (bc l) ∧ Below w.heap.size w w'
theorem Tryd.info5 : (Tryd.prog.info? 5).map (fun i => (i.zero, i.size, i.bytes)) = some (some (.int .u8 0), 1, 1) := by kernel_rfl
theorem own_empty (w : World) : (w.alloc (.cells #[] 5)).ownsRow w.heap.size 5 1 (.slice (some ⟨w.heap.size, 0, none⟩) 0 0) 0 [] :=
  ⟨rfl, .inr ⟨w.heap.size, 0, #[], rfl, Nat.le_refl _, heap_alloc_new w _, Nat.le_refl _, by decide, rfl, rfl⟩⟩
theorem src_news {W : World} {g n c : Nat} {t : TypeId} (l : List UInt8) (hl : l.length = n) (hg : W.heap[g]? = some (.cells (bc l).toArray t (0, 0))) : Src Tryd.prog 1 22 (.slice (some ⟨g, 0, none⟩) n c) n (bc l) W := by
  refine Src.ofSlice _ Tryd.underlying22 _ _ _ _ (by rw [bc_len, hl, Nat.mul_one]) (fun j u hu => ?_) (bc_one l)
  rw [add_plain, Nat.zero_add, cell_of_row W g j _ t (0, 0) hg]
  simpa using hu
theorem byte_new (W : World) (x : UInt8) (n : Int) (hn : n = (x.toNat : Int)) : (W.alloc (.cells #[.int .u8 n] 5)).heap[W.heap.size]? = some (.cells (bc [x]).toArray 5 (0, 0)) := by
  rw [hn]; exact heap_alloc_new W _
theorem cp_any (A : Option Addr) (n c : Nat) (l : List UInt8) (w : World) (hb : BytesAt w A n l) (hn : n ≤ 308) :
    Calls Tryd.prog 13 #[.slice A n c] w (Gives w l) := by
  obtain ⟨i0, hi, hz0, hz1, hz2⟩ := info_parts Tryd.info5
  have B1 : Below w.heap.size w (w.alloc (.cells #[] 5)) := (Below.refl _ _).alloc (Nat.le_refl _) _
  have hb2 := hb.below B1
  have O := own_empty w
  have G := Grows.refl (E := 5) (B := w.heap.size) (l := []) O B1.size
  go_enter Tryd.func13, Tryd.ntmps13
  go_wp2_with (at_builtin; refine wpList_app rfl (.tmp 3) (.tmp 4) 22 22 rfl w.heap.size _ _ 5 i0 Tryd.underlying22 hi hz0 hz1 hz2 _ [] rfl G _ n l rfl (src_at hb2) (by simp; omega) ?_; intro v2 w2 G2 z2 k2)
  go_ret
  exact ⟨_, rfl, G2.1, B1.trans (G2.below_of O B1.size)⟩
theorem le8_snoc (k s : Nat) : le8 (k + 1) s = le8 k s ++ [UInt8.ofNat (s / 256 ^ k % 256)] := le8_succ k s
set_option maxHeartbeats 1000000 in
theorem Append_ref (A : Option Addr) (n c : Nat) (l : List UInt8) (w : World) (hb : BytesAt w A n l) (hn : n ≤ 300) :
    Calls Tryd.prog 19 #[.slice A n c] w (Gives w (l ++ le8 8 (crc 0 l))) := by
  obtain ⟨i0, hi, hz0, hz1, hz2⟩ := info_parts Tryd.info5
  have B1 : Below w.heap.size w (w.alloc (.cells #[] 5)) := (Below.refl _ _).alloc (Nat.le_refl _) _
  have hb2 := hb.below B1
  have O := own_empty w
  have G := Grows.refl (E := 5) (B := w.heap.size) (l := []) O B1.size
  have hcl := crc_lt 0 l
  have C := Lib.hid (fun w hb => Sum_ref A n c l w hb (by omega))
  generalize crc 0 l = s at *
  have hl := hb.1
  go_enter Tryd.func19, Tryd.ntmps19
  go_wp2_with (first
    | (at_builtin; refine wpList_app rfl (.tmp 6) (.tmp 7) 22 22 rfl w.heap.size _ _ 5 i0 Tryd.underlying22 hi hz0 hz1 hz2 _ [] rfl G _ n l rfl (src_at hb2) (by simp; omega) ?_; intro v2 w2 G2 z2 k2)
    | (go_at_call 14; refine (C.out _ (hb.below (B1.trans (G2.below_of O B1.size)))).mono ?_; rintro e w' ⟨rfl, rfl⟩))
  go_loopw [3, 4, 5] (fun v u i wr => ∃ k : Nat, k ≤ 8 ∧ i = .int .i64 k ∧ u = .int .u64 ((s / 256 ^ k : Nat) : Int) ∧ Grows 5 w.heap.size (w.alloc (.cells #[] 5)) (.slice (some ⟨w.heap.size, 0, none⟩) 0 0) (l ++ le8 k s) v wr) (fun _ _ i _ => 8 - (intOf i).toNat)
  case atStart => exact ⟨0, by omega, rfl, int_eq (by rw [Nat.pow_zero, Nat.div_one]), by simpa [le8] using G2⟩
  case round =>
    obtain ⟨k, hk, rfl, rfl, hG⟩ := hrel
    by_cases hlt : k < 8
    · have H1 := Lib.hid (le8_snoc k s)
      have hx : s / 256 ^ k < 18446744073709551616 := Nat.lt_of_le_of_lt (Nat.div_le_self _ _) hcl
      have H2 := Lib.hid (show s / 256 ^ (k + 1) = s / 256 ^ k / 256 by rw [Nat.pow_succ, Nat.div_div_eq_div_mul])
      have hlen : (l ++ le8 k s).length ≤ 308 := by rw [List.length_append, le8_len]; omega
      have HG := Lib.hid hG
      clear hG G G2
      generalize s / 256 ^ k = x at *
      have hv : ((x : Int) % 256) = ((UInt8.ofNat (x % 256)).toNat : Int) := by rw [UInt8.toNat_ofNat']; omega
      have HN := Lib.hid (byte_new wr (UInt8.ofNat (x % 256)) _ hv)
      have HV := Lib.hid hv
      clear hv
      generalize UInt8.ofNat (x % 256) = y at *
      go_wp2_with (at_builtin; refine wpList_app rfl (.tmp 15) (.tmp 19) 22 22 rfl w.heap.size _ _ 5 i0 Tryd.underlying22 hi hz0 hz1 hz2 _ _ rfl (HG.out.alloc _) _ 1 [y] rfl (src_news [y] rfl HN.out) (by omega) ?_; intro v3 w3 G3 z3 k3)
      clear k3 z3
      have HG3 := Lib.hid G3
      clear G3
      go_roundw
      case rel => exact ⟨k + 1, by omega, by go_num, by rw [H2.out]; exact int_eq (Int.natCast_ediv x 256).symm, by rw [H1.out, ← List.append_assoc]; exact HG3.out⟩
      case measure => simp [intOf]; omega
    · obtain rfl : k = 8 := by omega
      have HG := Lib.hid hG
      clear hG G G2
      go_wp2
      go_ret
      exact ⟨_, rfl, HG.out.1, B1.trans (HG.out.below_of O B1.size)⟩
end Go.Proofs.YtpnemkphdminnaaDoor
