/- Law RowcodecDecoding: for every input the call returns true, and its arguments read afterwards as before. -/
import Derived.Test.YtdfkcibmmabjcaaOpr
import Derived.Test.YtdfkcibmmabjcaaSnd
import Derived.Deep.RegionLaw
namespace Go.Proofs.Ytdfkcibmmabjcaa
open Go.ChangeShapes Go.WideShapes Go.ChangeAt Go.RowKit Go.ChangeMaps

theorem more_below {w W W' : World} (h : Below w.heap.size w W) (hb : Below W.heap.size W W') : Below w.heap.size w W' := h.trans (hb.mono h.size)

theorem rowcodecDecoding_long (A : Option Addr) (n c : Nat) (l : List UInt8) (w : World) (hr : BytesAt w A n l) (hnc : n ≤ c) (hc2 : c ≤ 9223372036854775807) (h : 600 < n) :
    Calls Try.prog 4 #[.slice A n c] w fun e w' => e = .returned (.bool true) ∧ Below w.heap.size w w' := by
  go_enter Try.func4, Try.ntmps4
  go_wp2_with fail
  refine (awake_any _).mono ?_
  rintro e w1 ⟨rfl, b1⟩
  go_wp2_with fail
  refine (awake_any _).mono ?_
  rintro e w2 ⟨rfl, b2⟩
  go_wp2
  go_ret
  exact ⟨rfl, more_below b1 b2⟩

theorem rowcodecDecoding_none (A : Option Addr) (n c : Nat) (l : List UInt8) (w : World) (hr : BytesAt w A n l) (hnc : n ≤ c) (hc2 : c ≤ 9223372036854775807) (h : n ≤ 600) (hd : decA l = none) :
    Calls Try.prog 4 #[.slice A n c] w fun e w' => e = .returned (.bool true) ∧ Below w.heap.size w w' := by
  have K1 := Lib.hid (fun w (hr : BytesAt w A n l) => DecodeRow_any A n c l w hr (by omega) hnc hc2)
  have K2 := Lib.hid (fun w (hr : BytesAt w A n l) => Decode_any A n c l w hr (by omega) hnc hc2)
  have HD := Lib.hid hd
  clear hd
  go_enter Try.func4, Try.ntmps4
  go_wp2_with fail
  refine (awake_any _).mono ?_
  rintro e w1 ⟨rfl, B1⟩
  go_wp2_with fail
  refine (K1.out _ (hr.below B1)).mono ?_
  rintro e w2 ⟨hb, hm⟩
  rw [HD.out] at hm
  obtain rfl := hm
  have B1 := more_below B1 hb
  clear hb
  go_wp2_with fail
  refine (K2.out _ (hr.below B1)).mono ?_
  rintro e w3 ⟨hb, hm⟩
  rw [HD.out] at hm
  obtain rfl := hm
  have B1 := more_below B1 hb
  clear hb
  go_wp2
  go_ret
  exact ⟨rfl, B1⟩

set_option maxHeartbeats 1000000 in
theorem rowcodecDecoding_some (A : Option Addr) (n c : Nat) (l : List UInt8) (w : World) (hr : BytesAt w A n l) (hnc : n ≤ c) (hc2 : c ≤ 9223372036854775807) (R : List V3) (h : n ≤ 600) (hd : decA l = some R) :
    Calls Try.prog 4 #[.slice A n c] w fun e w' => e = .returned (.bool true) ∧ Below w.heap.size w w' := by
  obtain ⟨s1, s2, s3⟩ := decA_sound l.length l R (Nat.le_refl _) hd
  have hsum := sum_le R s3
  rw [s1, hr.1] at hsum
  have hRl : R.length ≤ 600 := by
    have : R.length ≤ (R.map fun x => x.s.size + 1).sum := by
      clear hd s1 s2 s3 hsum
      induction R with
      | nil => simp
      | cons x R ih => rw [List.map_cons, List.sum_cons, List.length_cons]; omega
    omega
  have K1 := Lib.hid (fun w (hr : BytesAt w A n l) => DecodeRow_any A n c l w hr (by omega) hnc hc2)
  have K2 := Lib.hid (fun w (hr : BytesAt w A n l) => Decode_any A n c l w hr (by omega) hnc hc2)
  have HE1 := Lib.hid (fun A' c' w (hr : RowAt w A' R.length R) => EncodeRow_any A' R.length c' R w hr (by omega) s2 (by omega))
  have HR1 := Lib.hid (fun A' c' A'' c'' w (hr : RowAt w A' R.length R) (hs : RowAt w A'' R.length R) => Rows_any A' R.length c' R A'' R.length c'' R w hr (by omega) s2 hs (by omega) s2)
  rw [rcmp_refl] at HR1
  rw [s1] at HE1
  have HD := Lib.hid hd
  clear hd s1 s2 s3 hsum
  go_enter Try.func4, Try.ntmps4
  go_wp2_with fail
  refine (awake_any _).mono ?_
  rintro e w1 ⟨rfl, B1⟩
  go_wp2_with fail
  refine (K1.out _ (hr.below B1)).mono ?_
  rintro e w2 ⟨hb, hm⟩
  rw [HD.out] at hm
  obtain ⟨A1, c1, rfl, y1⟩ := hm
  have B1 := more_below B1 hb
  clear hb
  go_wp2_with fail
  refine (K2.out _ (hr.below B1)).mono ?_
  rintro e w3 ⟨hb, hm⟩
  rw [HD.out] at hm
  obtain ⟨A2, c2, rfl, y2⟩ := hm
  have HB0 := Lib.hid (more_below B1 hb)
  have y1 := y1.below hb
  have HE := Lib.hid (HE1.out A1 c1)
  have HR := Lib.hid (HR1.out A1 c1 A2 c2)
  have B1 := (Below.refl w3.heap.size w3).drew
  have q0 := string_at (c := c) (hr.below (more_below HB0.out B1))
  clear hb
  go_wp2_with fail
  go_region_law (first | (go_simp; go_at_call 19; refine (HR.out _ (y1.below B1) (y2.below B1)).mono ?_; rintro e w5 ⟨rfl, hb⟩; have B0 := B1; have B1 := more_below B1 hb; have q0 := string_at (c := c) (hr.below (more_below HB0.out B1))) | (go_simp; go_at_call 15; refine (HE.out _ (y1.below B1)).mono ?_; rintro e w6 ⟨v6, rfl, o6, hb⟩; have B1 := more_below B1 hb; have q0 := string_at (c := c) (hr.below (more_below HB0.out B1)); have q6 := run_string_own w6 28 9 5 _ v6 _ Try.underlying28 Try.underlying5 Try.underlying9 o6))
  all_goals
    go_wp2
    go_ret
    exact ⟨rfl, more_below HB0.out B1⟩

theorem rowcodecDecoding_walk (A : Option Addr) (n c : Nat) (l : List UInt8) (w : World) (hr : BytesAt w A n l) (hnc : n ≤ c) (hc2 : c ≤ 9223372036854775807) :
    Calls Try.prog 4 #[.slice A n c] w fun e w' => e = .returned (.bool true) ∧ Below w.heap.size w w' := by
  by_cases h : n ≤ 600
  · rcases hd : decA l with _ | R
    · exact rowcodecDecoding_none A n c l w hr hnc hc2 h hd
    · exact rowcodecDecoding_some A n c l w hr hnc hc2 R h hd
  · exact rowcodecDecoding_long A n c l w hr hnc hc2 (by omega)

set_option maxRecDepth 100000 in
theorem rowcodecDecoding_lifted (os : Os) (started : os.Started) (H : Type) (enc : TypeId × Value → H) :
    ReturnsInHanded {} Try.checked os 4 .any (Rows.rowcodecDecodingSpec.pre6 enc Try.prog Try.f4 Rows.rowcodecDecodingRow.domain false) (Rows.rowcodecDecodingSpec.post enc Try.prog Try.f4 false true false false) := by
  refine law_lifted (C := Try.checked) (B := 4) Try.own started (by kernel_rfl) Try.func4
    (ChangeSpec.witness6 (enc := enc) (C := Try.checked) false ⟨#[], #[.slice none 0 0], []⟩ 8 (by kernel_rfl) (by kernel_rfl) (by kernel_rfl) (by kernel_rfl))
    Try.laidOut (by kernel_rfl) rfl rfl rfl Try.underlying4 (fun ds h => match ds, h with | [_], _ => rfl) ?_
  intro W base args ds ps hval hA hlt hsz
  rw [Try.params4] at hA hval hsz
  obtain ⟨v0, vs0, d0, ds0, p0, q0, hargs, rfl, rfl, h0, r0⟩ := trodAll_cons hA
  obtain ⟨rfl, rfl, rfl⟩ := trodAll_nil r0
  obtain rfl : args = #[v0] := by cases args; simp_all
  obtain ⟨A0, n0, c0, R0, rfl, k0, l0, g0⟩ := open_bytesA (hval 0 28 v0 rfl rfl) h0 (fun x hx => hlt x (by simp [hx]))
  exact rowcodecDecoding_walk A0 n0 c0 R0 W k0 l0 g0

theorem rowcodecDecoding_over : Rows.rowcodecDecodingRow.holds Try.pinned (OpenSpec.ofChange Rows.rowcodecDecodingSpec) :=
  OpenClaim.holds_of_wide 4 Try.f4 rfl rfl rfl rfl rfl rfl rfl ⟨rfl, rfl, rfl, rfl, rfl⟩ rfl rfl rfl rfl rfl (by kernel_rfl) Try.func4 (by kernel_rfl)
    (of_decide_eq_true (by kernel_rfl)) (by unfold Func.isWrapper; first | (rw [if_pos (by decide +kernel)]; kernel_rfl) | (rw [if_neg (by decide +kernel)]; exact ⟨rfl, rfl⟩))
    (fun os started H enc _ => rowcodecDecoding_lifted os started H enc)

theorem rowcodecDecoding_proved : Rows.RowcodecDecodingSaid := rowcodecDecoding_over
end Go.Proofs.Ytdfkcibmmabjcaa
