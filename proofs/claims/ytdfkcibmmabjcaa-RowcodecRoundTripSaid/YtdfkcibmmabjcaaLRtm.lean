/- Law RowcodecRoundTrip: for every input the call returns true, and its arguments read afterwards as before. -/
import Derived.Test.YtdfkcibmmabjcaaOpr
import Derived.Test.YtdfkcibmmabjcaaRtm
namespace Go.Proofs.Ytdfkcibmmabjcaa
open Go.ChangeShapes Go.WideShapes Go.ChangeAt Go.RowKit Go.ChangeMaps

theorem more_below {w W W' : World} (h : Below w.heap.size w W) (hb : Below W.heap.size W W') : Below w.heap.size w W' := h.trans (hb.mono h.size)
theorem EncodeRow_at (A : Option Addr) (n c : Nat) (R : List V3) (w : World) (hr : RowAt w A n R) (hn : n ≤ 9223372036854775807) (hR : ∀ x ∈ R, x.ok) (hS : (R.map fun x => x.s.size + 1).sum ≤ 600) :
    Calls Try.prog 15 #[.slice A n c] w fun e w' => ∃ A' c', e = .returned (.slice A' (encR R).length c') ∧ BytesAt w' A' (encR R).length (encR R) ∧ (encR R).length ≤ c' ∧ c' ≤ 9223372036854775807 ∧ Below w.heap.size w w' :=
  (EncodeRow_any A n c R w hr hn hR hS).mono fun _ _ ⟨v', he, o, hb⟩ => by
    obtain ⟨A', c', e2, y⟩ := own_bytes o
    refine ⟨A', c', by rw [he, e2], y, ?_, ?_, hb⟩
    · rcases o.2 with ⟨e3, hl⟩ | ⟨g, cap, cur, e3, hg, hh, hnc, hcap, hsz, htake⟩
      · omega
      · rw [e2] at e3; injection e3 with _ _ e4; omega
    · rcases o.2 with ⟨e3, hl⟩ | ⟨g, cap, cur, e3, hg, hh, hnc, hcap, hsz, htake⟩
      · rw [e2] at e3; injection e3 with _ _ e4; omega
      · rw [e2] at e3; injection e3 with _ _ e4; unfold maxLen at hcap; omega

theorem rowcodecRoundTrip_b1 (A : Option Addr) (n c : Nat) (R : List V3) (w : World) (hr : RowAt w A n R) (hn : n ≤ 9223372036854775807) (hR : ∀ x ∈ R, x.ok) (h1 : sm 0 R = false) :
    Calls Try.prog 5 #[.slice A n c] w fun e w' => e = .returned (.bool true) ∧ Below w.heap.size w w' := by
  have C := fun w (hr : RowAt w A n R) => small_any A n c R w hr hn hR
  rw [h1] at C
  have K1 := Lib.hid C
  clear C
  have B1 := Below.refl w.heap.size w
  go_enter Try.func5, Try.ntmps5
  go_wp2_with fail
  refine (awake_any _).mono ?_
  rintro e w1 ⟨rfl, hb⟩
  have B1 := more_below B1 hb
  clear hb
  go_wp2_with fail
  refine (K1.out _ (hr.below B1)).mono ?_
  rintro e w2 ⟨rfl, hb⟩
  have B1 := more_below B1 hb
  clear hb
  go_wp2_with fail
  refine (awake_any _).mono ?_
  rintro e w9 ⟨rfl, hb⟩
  have B1 := more_below B1 hb
  clear hb
  go_wp2
  go_ret
  exact ⟨rfl, B1⟩

theorem rowcodecRoundTrip_b2 (A : Option Addr) (n c : Nat) (R : List V3) (w : World) (hr : RowAt w A n R) (hn : n ≤ 9223372036854775807) (hR : ∀ x ∈ R, x.ok) (h1 : sm 0 R = true) (h2 : R.all V3.valid = false) :
    Calls Try.prog 5 #[.slice A n c] w fun e w' => e = .returned (.bool true) ∧ Below w.heap.size w w' := by
  have C := fun w (hr : RowAt w A n R) => small_any A n c R w hr hn hR
  rw [h1] at C
  have K1 := Lib.hid C
  clear C
  have C := fun w (hr : RowAt w A n R) => valid_any A n c R w hr hn hR
  rw [h2] at C
  have K2 := Lib.hid C
  clear C
  have B1 := Below.refl w.heap.size w
  go_enter Try.func5, Try.ntmps5
  go_wp2_with fail
  refine (awake_any _).mono ?_
  rintro e w1 ⟨rfl, hb⟩
  have B1 := more_below B1 hb
  clear hb
  go_wp2_with fail
  refine (K1.out _ (hr.below B1)).mono ?_
  rintro e w2 ⟨rfl, hb⟩
  have B1 := more_below B1 hb
  clear hb
  go_wp2_with fail
  refine (K2.out _ (hr.below B1)).mono ?_
  rintro e w3 ⟨rfl, hb⟩
  have B1 := more_below B1 hb
  clear hb
  go_wp2_with fail
  refine (awake_any _).mono ?_
  rintro e w9 ⟨rfl, hb⟩
  have B1 := more_below B1 hb
  clear hb
  go_wp2
  go_ret
  exact ⟨rfl, B1⟩

theorem rowcodecRoundTrip_in (A : Option Addr) (n c : Nat) (R : List V3) (w : World) (hr : RowAt w A n R) (hn : n ≤ 9223372036854775807) (hR : ∀ x ∈ R, x.ok) (h1 : sm 0 R = true) (h2 : R.all V3.valid = true) :
    Calls Try.prog 5 #[.slice A n c] w fun e w' => e = .returned (.bool true) ∧ Below w.heap.size w w' := by
  have q1 := sm_yes 0 R h1 (by omega)
  have l1 : (encR R).length ≤ 6000 := by have := encR_len R; omega
  have hd := decA_enc R hR h2
  have E1 := Lib.hid (fun w (hr : RowAt w A n R) => EncodeRow_at A n c R w hr hn hR (by omega))
  have E2 := Lib.hid (fun w A' c' x hnc hc2 => DecodeRow_any A' (encR R).length c' (encR R) w x (by omega) hnc hc2)
  have E4 := Lib.hid (fun w A' c' (hs : RowAt w A' R.length R) (hr : RowAt w A n R) => Rows_any A' R.length c' R A n c R w hs (by rw [hr.1]; exact hn) hR hr hn hR)
  rw [rcmp_refl] at E4
  have HD := Lib.hid hd
  have C := fun w (hr : RowAt w A n R) => small_any A n c R w hr hn hR
  rw [h1] at C
  have K1 := Lib.hid C
  clear C
  have C := fun w (hr : RowAt w A n R) => valid_any A n c R w hr hn hR
  rw [h2] at C
  have K2 := Lib.hid C
  clear C
  clear hd q1
  generalize encR R = x at *
  have B1 := Below.refl w.heap.size w
  go_enter Try.func5, Try.ntmps5
  go_wp2_with fail
  refine (awake_any _).mono ?_
  rintro e w1 ⟨rfl, hb⟩
  have B1 := more_below B1 hb
  clear hb
  go_wp2_with fail
  refine (K1.out _ (hr.below B1)).mono ?_
  rintro e w2 ⟨rfl, hb⟩
  have B1 := more_below B1 hb
  clear hb
  go_wp2_with fail
  refine (K2.out _ (hr.below B1)).mono ?_
  rintro e w3 ⟨rfl, hb⟩
  have B1 := more_below B1 hb
  clear hb
  go_wp2_with fail
  refine (E1.out _ (hr.below B1)).mono ?_
  rintro e w6 ⟨A1, c1, rfl, y1, hnc, hc2, hb⟩
  have B1 := more_below B1 hb
  clear hb
  go_wp2_with fail
  refine (E2.out _ _ _ y1 hnc hc2).mono ?_
  rintro e w7 ⟨hb, hm⟩
  rw [HD.out] at hm
  obtain ⟨A2, c2, rfl, y2⟩ := hm
  have B1 := more_below B1 hb
  clear hb
  go_wp2_with fail
  refine (E4.out _ _ _ y2 (hr.below B1)).mono ?_
  rintro e w8 ⟨rfl, hb⟩
  have B1 := more_below B1 hb
  clear hb
  go_wp2
  go_ret
  exact ⟨rfl, B1⟩

theorem rowcodecRoundTrip_walk (A : Option Addr) (n c : Nat) (R : List V3) (w : World) (hr : RowAt w A n R) (hn : n ≤ 9223372036854775807) (hR : ∀ x ∈ R, x.ok) :
    Calls Try.prog 5 #[.slice A n c] w fun e w' => e = .returned (.bool true) ∧ Below w.heap.size w w' := by
  rcases h1 : sm 0 R with _ | _
  · exact rowcodecRoundTrip_b1 A n c R w hr hn hR h1
  · rcases h2 : R.all V3.valid with _ | _
    · exact rowcodecRoundTrip_b2 A n c R w hr hn hR h1 h2
    · exact rowcodecRoundTrip_in A n c R w hr hn hR h1 h2

set_option maxRecDepth 100000 in
theorem rowcodecRoundTrip_lifted (os : Os) (started : os.Started) (H : Type) (enc : TypeId × Value → H) :
    ReturnsInHanded {} Try.checked os 5 .any (Rows.rowcodecRoundTripSpec.pre6 enc Try.prog Try.f5 Rows.rowcodecRoundTripRow.domain false) (Rows.rowcodecRoundTripSpec.post enc Try.prog Try.f5 false true false false) := by
  refine law_lifted (C := Try.checked) (B := 4) Try.own started (by kernel_rfl) Try.func5
    (ChangeSpec.witness6 (enc := enc) (C := Try.checked) false ⟨#[], #[.slice none 0 0], []⟩ 8 (by kernel_rfl) (by kernel_rfl) (by kernel_rfl) (by kernel_rfl))
    Try.laidOut (by kernel_rfl) rfl rfl rfl Try.underlying4 (fun ds h => match ds, h with | [_], _ => rfl) ?_
  intro W base args ds ps hval hA hlt hsz
  rw [Try.params5] at hA hval hsz
  obtain ⟨v0, vs0, d0, ds0, p0, q0, hargs, rfl, rfl, h0, r0⟩ := trodAll_cons hA
  obtain ⟨rfl, rfl, rfl⟩ := trodAll_nil r0
  obtain rfl : args = #[v0] := by cases args; simp_all
  obtain ⟨A0, n0, c0, R0, rfl, k0, l0, g0⟩ := open_row (hval 0 25 v0 rfl rfl) h0 (fun x hx => hlt x (by simp [hx])) hsz (j := 0) rfl rfl
  exact rowcodecRoundTrip_walk A0 n0 c0 R0 W k0 l0 g0

theorem rowcodecRoundTrip_over : Rows.rowcodecRoundTripRow.holds Try.pinned (OpenSpec.ofChange Rows.rowcodecRoundTripSpec) :=
  OpenClaim.holds_of_wide 5 Try.f5 rfl rfl rfl rfl rfl rfl rfl ⟨rfl, rfl, rfl, rfl, rfl⟩ rfl rfl rfl rfl rfl (by kernel_rfl) Try.func5 (by kernel_rfl)
    (of_decide_eq_true (by kernel_rfl)) (by unfold Func.isWrapper; first | (rw [if_pos (by decide +kernel)]; kernel_rfl) | (rw [if_neg (by decide +kernel)]; exact ⟨rfl, rfl⟩))
    (fun os started H enc _ => rowcodecRoundTrip_lifted os started H enc)

theorem rowcodecRoundTrip_proved : Rows.RowcodecRoundTripSaid := rowcodecRoundTrip_over
end Go.Proofs.Ytdfkcibmmabjcaa
