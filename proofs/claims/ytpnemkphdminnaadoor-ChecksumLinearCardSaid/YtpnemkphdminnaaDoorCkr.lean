/- The reference of Check. -/
import Derived.Test.YtpnemkphdminnaaDoorChk
import Derived.Deep.RegionLaw
namespace Go.Proofs.YtpnemkphdminnaaDoor
open Go.ChangeShapes Go.WideShapes Go.ChangeAt Go.RowKit Go.ChangeMaps

theorem own_mono {w : World} {base base' : Nat} {e : TypeId} {size : Nat} {v : Value} {n : Nat} {xs : List Value} (h : w.ownsRow base e size v n xs) (hb : base' ≤ base) : w.ownsRow base' e size v n xs :=
  ⟨h.1, h.2.imp id fun ⟨g, cap, cur, h1, h2, h3⟩ => ⟨g, cap, cur, h1, Nat.le_trans hb h2, h3⟩⟩
theorem le8_ok {f t : List UInt8} (ht : t.length = 8) : (leN t == crc 0 f) = true ↔ f ++ le8 8 (crc 0 f) = f ++ t := by
  have h8 : (256 : Nat) ^ 8 = 18446744073709551616 := by decide
  constructor
  · intro h
    have h : leN t = crc 0 f := by simpa using h
    rw [← h, ← ht, le8_leN]
  · intro h
    have h := List.append_cancel_left h
    rw [← h, leN_le8, h8, Nat.mod_eq_of_lt (crc_lt 0 f)]
    simp
theorem CheckRef_short (A : Option Addr) (n c : Nat) (w : World) (hn : n < 8) :
    Calls Tryd.prog 20 #[.slice A n c] w (GivesC w [] 2) := by
  go_enter Tryd.func20, Tryd.ntmps20
  go_wp2
  go_ret2
  exact GivesC.none_ (Below.refl _ _)
set_option maxHeartbeats 1000000 in
theorem CheckRef_long (A : Option Addr) (m c : Nat) (l : List UInt8) (w : World) (hb : BytesAt w A (m + 8) l) (hn : m ≤ 300) (hc : m + 8 ≤ c) (hc2 : c ≤ 9223372036854775807) :
    Calls Tryd.prog 20 #[.slice A ((m + 8 : Nat)) c] w (if ckOk l = true then GivesC w (l.take m) 0 else GivesC w [] 17) := by
  obtain ⟨i0, hi, hz0, hz1, hz2⟩ := info_parts Tryd.info5
  have hl := hb.1
  obtain ⟨b, off, rfl, hbl, hcell⟩ := hb.2 (by omega)
  have hT := hb.take m (by omega)
  have HB := Lib.hid hb
  have HT := Lib.hid hT
  have HK := Lib.hid (show ckOk l = true ↔ (l.take m) ++ le8 8 (crc 0 (l.take m)) = l by
    have := le8_ok (f := l.take m) (t := l.drop m) (by rw [List.length_drop]; omega)
    rw [List.take_append_drop] at this
    unfold ckOk
    rw [hl]
    exact this)
  have C := Lib.hid (fun (w : World) hb => Append_ref (some ⟨b, off, none⟩) m c (l.take m) w hb hn)
  have HL := Lib.hid (show (l.take m).length = m by rw [List.length_take]; omega)
  clear hb hT hcell hl
  generalize l.take m = f at *
  generalize f ++ le8 8 (crc 0 f) = g at *
  generalize ckOk l = q at *
  have B1 := (Below.refl w.heap.size w).drew
  have q0 := string_at (c := c) (HB.out.below B1)
  rcases q with _ | _
  · have h5 : (g == l) = false := by
      rw [Bool.eq_false_iff]; intro h
      exact absurd (HK.out.2 (by simpa using h)) (by decide)
    go_enter Tryd.func20, Tryd.ntmps20
    go_wp2_with fail
    go_region_law (go_simp; go_at_call 19; refine (C.out _ (HT.out.below B1)).mono ?_; rintro e w3 ⟨v3, rfl, o3, hb⟩; have B1 := more_below B1 hb; have q0 := string_at (c := c) (HB.out.below B1); have q3 := run_string_own w3 22 9 5 _ v3 _ Tryd.underlying22 Tryd.underlying5 Tryd.underlying9 o3)
    all_goals
      clear q0 q3 o3 hb
      have HB1 := Lib.hid B1
      clear B1
      go_wp2
      go_ret2
      exact (if_neg (by decide) : (if false = true then GivesC w f 0 else GivesC w [] 17) = _) ▸ GivesC.none_ HB1.out
  · have h5 : (g == l) = true := by simpa using HK.out.1 rfl
    go_enter Tryd.func20, Tryd.ntmps20
    go_wp2_with fail
    go_region_law (go_simp; go_at_call 19; refine (C.out _ (HT.out.below B1)).mono ?_; rintro e w3 ⟨v3, rfl, o3, hb⟩; have B1 := more_below B1 hb; have q0 := string_at (c := c) (HB.out.below B1); have q3 := run_string_own w3 22 9 5 _ v3 _ Tryd.underlying22 Tryd.underlying5 Tryd.underlying9 o3)
    all_goals
      clear q0 q3 o3 hb
      have hT3 := HT.out.below B1
      have O := own_empty w3
      have G := Grows.refl (E := 5) (B := w3.heap.size) (l := []) O (by simp)
      have hT4 := hT3.below ((Below.refl _ _).alloc (Nat.le_refl _) (.cells #[] 5))
      have HB1 := Lib.hid B1
      clear B1
      go_wp2_with (at_builtin; refine wpList_app rfl (.tmp 19) (.tmp 20) 22 22 rfl w3.heap.size _ _ 5 i0 Tryd.underlying22 hi hz0 hz1 hz2 _ [] rfl G _ m f rfl (src_at hT4) (by simp; omega) ?_; intro v4 w4 G4 z4 k4)
      go_ret2
      have B4 := ((Below.refl w3.heap.size w3).alloc (Nat.le_refl _) (.cells #[] 5)).trans (G4.below_of O (by simp))
      exact (if_pos rfl : (if true = true then GivesC w f 0 else GivesC w [] 17) = _) ▸ (⟨_, rfl, own_mono G4.1 HB1.out.size, more_below HB1.out B4⟩ : GivesC w f 0 _ _)
end Go.Proofs.YtpnemkphdminnaaDoor
