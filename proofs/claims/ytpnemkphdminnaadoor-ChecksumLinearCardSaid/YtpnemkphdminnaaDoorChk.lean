/- Check. -/
import Derived.Test.YtpnemkphdminnaaDoorApn
namespace Go.Proofs.YtpnemkphdminnaaDoor
open Go.ChangeShapes Go.WideShapes Go.ChangeAt Go.RowKit Go.ChangeMaps

/-- A row of bytes and a code. -/
def GivesC (w : World) (l : List UInt8) (z : Int) (e : Ending) (w' : World) : Prop := ∃ v, e = .returned (.tuple #[v, .int .i64 z]) ∧ w'.ownsRow w.heap.size 5 1 v l.length (bc l) ∧ Below w.heap.size w w'
theorem GivesC.none_ {w : World} {z : Int} {w' : World} (hb : Below w.heap.size w w') : GivesC w [] z (.returned (.tuple #[.slice none 0 0, .int .i64 z])) w' := ⟨_, rfl, World.ownsRow_nil _ _ _ _, hb⟩
theorem BytesAt.drop {w : World} {b off n : Nat} {l : List UInt8} (h : BytesAt w (some ⟨b, off, none⟩) n l) (m : Nat) (hm : m < n) : BytesAt w (some ⟨b, off + m, none⟩) (n - m) (l.drop m) := by
  refine ⟨by rw [List.length_drop, h.1], fun _ => ?_⟩
  obtain ⟨b', off', e, hl, hc⟩ := h.2 (by omega)
  injection e with e
  injection e with e1 e2
  subst e1; subst e2
  refine ⟨_, _, rfl, hl, fun i hi => ?_⟩
  rw [List.length_drop] at hi
  rw [Nat.add_assoc, hc (m + i) (by omega)]
  simp
theorem BytesAt.take {w : World} {A : Option Addr} {n : Nat} {l : List UInt8} (h : BytesAt w A n l) (m : Nat) (hm : m ≤ n) : BytesAt w A m (l.take m) := by
  refine ⟨by rw [List.length_take, h.1]; omega, fun h0 => ?_⟩
  obtain ⟨b, off, e, hl, hc⟩ := h.2 (by omega)
  refine ⟨_, _, e, hl, fun i hi => ?_⟩
  rw [List.length_take] at hi
  rw [hc i (by omega)]
  simp
theorem or_step {a x k : Nat} (hk : k < 8) (ha : a < 256 ^ k) (hx : x < 256) : bits BinOp.or IntKind.u64 (a : Int) (IntKind.u64.wrap ((x : Int) * 2 ^ (8 * (k : Int)).toNat)) = ((a + 256 ^ k * x : Nat) : Int) := by
  have e : (2 : Int) ^ (8 * k) = ((256 ^ k : Nat) : Int) := by rw [show (256 : Nat) = 2 ^ 8 by rfl, ← Nat.pow_mul]; simp
  have hp : 256 ^ (k + 1) ≤ 256 ^ 8 := Nat.pow_le_pow_right (by omega) (by omega)
  have hb : 256 ^ k * x + a < 256 ^ (k + 1) := by
    rw [Nat.pow_succ]
    have : 256 ^ k * x ≤ 256 ^ k * 255 := Nat.mul_le_mul_left _ (by omega)
    have e2 : 256 ^ k * 256 = 256 ^ k * 255 + 256 ^ k := by omega
    omega
  have h8 : (256 : Nat) ^ 8 = 18446744073709551616 := by decide
  have hy : 256 ^ k * x < 18446744073709551616 := by omega
  have hor : a ||| 256 ^ k * x = a + 256 ^ k * x := by
    have := Nat.two_pow_add_eq_or_of_lt (i := 8 * k) (b := a) (by rw [Nat.pow_mul]; exact ha) x
    rw [Nat.pow_mul] at this
    rw [Nat.or_comm, Nat.add_comm a]; exact this.symm
  rw [show (8 * (k : Int)).toNat = 8 * k by omega, e, show (x : Int) * ((256 ^ k : Nat) : Int) = ((256 ^ k * x : Nat) : Int) by rw [Nat.mul_comm]; simp, IntKind.wrap_u64,
    show (((256 ^ k * x : Nat) : Int)) % 18446744073709551616 = ((256 ^ k * x : Nat) : Int) by omega]
  generalize 256 ^ k * x = y at *
  have h1 : (BitVec.ofInt 64 (a : Int)).toNat = a := by
    rw [BitVec.ofInt_natCast, BitVec.toNat_ofNat]; exact Nat.mod_eq_of_lt (by omega)
  have h2 : (BitVec.ofInt 64 (y : Int)).toNat = y := by
    rw [BitVec.ofInt_natCast, BitVec.toNat_ofNat]; exact Nat.mod_eq_of_lt (by omega)
  show IntKind.u64.wrap ((BitVec.ofInt 64 (a : Int) ||| BitVec.ofInt 64 (y : Int)).toNat : Int) = _
  rw [BitVec.toNat_or, h1, h2, IntKind.wrap_u64, hor]
  omega
def ckOk (l : List UInt8) : Bool := leN (l.drop (l.length - 8)) == crc 0 (l.take (l.length - 8))
theorem Check_short (A : Option Addr) (n c : Nat) (w : World) (hn : n < 8) :
    Calls Tryd.prog 18 #[.slice A n c] w (GivesC w [] 2) := by
  go_enter Tryd.func18, Tryd.ntmps18
  go_wp2
  go_ret2
  exact GivesC.none_ (Below.refl _ _)
set_option maxHeartbeats 1000000 in
theorem Check_long (A : Option Addr) (m c : Nat) (l : List UInt8) (w : World) (hb : BytesAt w A (m + 8) l) (hn : m ≤ 300) (hc : m + 8 ≤ c) (hc2 : c ≤ 9223372036854775807) (he : Env w) :
    Calls Tryd.prog 18 #[.slice A ((m + 8 : Nat)) c] w (if ckOk l = true then GivesC w (l.take m) 0 else GivesC w [] 17) := by
  obtain ⟨i0, hi, hz0, hz1, hz2⟩ := info_parts Tryd.info5
  have hl := hb.1
  obtain ⟨b, off, rfl, hbl, hcell⟩ := hb.2 (by omega)
  have hD := hb.drop m (by omega)
  have hT := hb.take m (by omega)
  rw [show m + 8 - m = 8 by omega] at hD
  obtain ⟨_, o2, eA, _, hcD⟩ := hD.2 (by omega)
  injection eA with eA
  injection eA with e1 e2
  subst e1; subst e2
  have HB := Lib.hid hb
  have HT := Lib.hid hT
  have HE := Lib.hid he
  have HC := Lib.hid hcD
  have HK := Lib.hid (show ckOk l = (leN (l.drop m) == crc 0 (l.take m)) by unfold ckOk; rw [hl]; rfl)
  have HDl := Lib.hid hD.1
  have C := Lib.hid (Sum_any _ _ c _ w hT (by omega) he)
  have HL := Lib.hid (show (l.take m).length = m by rw [List.length_take]; omega)
  clear hb hT he hcD hD hcell hl
  generalize l.drop m = t at *
  generalize l.take m = f at *
  generalize crc 0 f = z at *
  generalize ckOk l = q at *
  go_enter Tryd.func18, Tryd.ntmps18
  go_wp2
  go_loop [5, 17] (fun v i => ∃ k : Nat, k ≤ 8 ∧ i = .int .i64 k ∧ v = .int .u64 ((leN (t.take k) : Nat) : Int)) (fun _ i => 8 - (intOf i).toNat)
  case atStart => exact ⟨0, by omega, rfl, by simp [leN]⟩
  case round =>
    obtain ⟨k, hk, rfl, rfl⟩ := hrel
    by_cases hlt : k < 8
    · have hkt : k < t.length := by rw [HDl.out]; exact hlt
      have c0 := HC.out k hkt
      have ha := leN_lt (t.take k)
      rw [List.length_take, Nat.min_eq_left (by omega)] at ha
      have hu := UInt8.toNat_lt t[k]
      have H3 := Lib.hid (show leN (t.take (k + 1)) = leN (t.take k) + 256 ^ k * t[k].toNat by rw [List.take_succ_eq_append_getElem hkt, leN_snoc, List.length_take, Nat.min_eq_left (by omega)])
      generalize leN (t.take k) = a at *
      generalize t[k].toNat = u at *
      have H4 := Lib.hid (or_step hlt ha hu)
      clear ha
      go_wp2
      go_round
      case rel => exact ⟨k + 1, by omega, by go_num, by rw [H3.out]; exact int_eq H4.out⟩
      case measure => simp [intOf]; omega
    · obtain rfl : k = 8 := by omega
      have H3 := Lib.hid (show t.take 8 = t by rw [← HDl.out]; exact List.take_length)
      rw [H3.out] at *
      generalize leN t = y at *
      rcases q with _ | _
      · have h5 : ((y : Int) == (z : Int)) = false := by have := HK.out; simp at this ⊢; omega
        have h6 : ((y : Int) != (z : Int)) = true := by rw [bne, h5]; rfl
        go_wp2_with (go_at_call 12; refine C.out.mono ?_; rintro e w' ⟨rfl, rfl⟩)
        go_ret2
        exact (if_neg (by decide) : (if false = true then GivesC w f 0 else GivesC w [] 17) = _) ▸ GivesC.none_ (Below.refl _ _)
      · have h5 : ((y : Int) == (z : Int)) = true := by have := HK.out; simp at this ⊢; omega
        have h6 : ((y : Int) != (z : Int)) = false := by rw [bne, h5]; rfl
        go_wp2_with (first
          | (go_at_call 12; refine C.out.mono ?_; rintro e w' ⟨rfl, rfl⟩)
          | (at_builtin; refine wpList_app rfl (.const (.slice none 0 0)) (.tmp 38) 22 22 rfl w.heap.size w _ 5 i0 Tryd.underlying22 hi hz0 hz1 hz2 _ [] rfl (Grows.none_ (Nat.le_refl _)) _ m f rfl (src_at HT.out) (by simp; omega) ?_; intro v2 w2 G2 z2 k2))
        go_ret2
        exact (if_pos rfl : (if true = true then GivesC w f 0 else GivesC w [] 17) = _) ▸ (⟨_, rfl, G2.1, G2.is_below rfl⟩ : GivesC w f 0 _ _)
end Go.Proofs.YtpnemkphdminnaaDoor
