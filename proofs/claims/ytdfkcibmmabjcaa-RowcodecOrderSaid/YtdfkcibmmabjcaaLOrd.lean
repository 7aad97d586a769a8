/- Law RowcodecOrder: for every input the call returns true, and its arguments read afterwards as before. -/
import Derived.Test.YtdfkcibmmabjcaaOpr
import Derived.Test.YtdfkcibmmabjcaaOdr
namespace Go.Proofs.Ytdfkcibmmabjcaa
open Go.ChangeShapes Go.WideShapes Go.ChangeAt Go.RowKit Go.ChangeMaps

theorem more_below {w W W' : World} (h : Below w.heap.size w W) (hb : Below W.heap.size W W') : Below w.heap.size w W' := h.trans (hb.mono h.size)
theorem EncodeRow_at (A : Option Addr) (n c : Nat) (R : List V3) (w : World) (hr : RowAt w A n R) (hn : n ≤ 9223372036854775807) (hR : ∀ x ∈ R, x.ok) (hS : (R.map fun x => x.s.size + 1).sum ≤ 600) :
    Calls Try.prog 15 #[.slice A n c] w fun e w' => ∃ A' c', e = .returned (.slice A' (encR R).length c') ∧ BytesAt w' A' (encR R).length (encR R) ∧ Below w.heap.size w w' :=
  (EncodeRow_any A n c R w hr hn hR hS).mono fun _ _ ⟨v', he, o, hb⟩ => by
    obtain ⟨A', c', e2, y⟩ := own_bytes o
    exact ⟨A', c', by rw [he, e2], y, hb⟩

theorem rowcodecOrder_b1 (A : Option Addr) (n c : Nat) (R : List V3) (D : Option Addr) (m d : Nat) (S : List V3) (w : World) (hr : RowAt w A n R) (hn : n ≤ 9223372036854775807) (hR : ∀ x ∈ R, x.ok) (hs : RowAt w D m S) (hm : m ≤ 9223372036854775807) (hS : ∀ x ∈ S, x.ok) (h1 : sm 0 R = false) :
    Calls Try.prog 6 #[.slice A n c, .slice D m d] w fun e w' => e = .returned (.bool true) ∧ Below w.heap.size w w' := by
  have C := fun w (hr : RowAt w A n R) => small_any A n c R w hr hn hR
  rw [h1] at C
  have K1 := Lib.hid C
  clear C
  have B1 := Below.refl w.heap.size w
  go_enter Try.func6, Try.ntmps6
  go_wp2_with fail
  refine (awake_any _).mono ?_
  rintro e w1 ⟨rfl, hb⟩
  have B1 := more_below B1 hb
  clear hb
  go_wp2_with fail
  refine (K1.out _ (hr.below B1)).mono ?_
  rintro e w2 ⟨rfl, hb⟩
  have B1 := more_below B1 hb
  clear hb
  go_wp2_with fail
  refine (awake_any _).mono ?_
  rintro e w9 ⟨rfl, hb⟩
  have B1 := more_below B1 hb
  clear hb
  go_wp2
  go_ret
  exact ⟨rfl, B1⟩

theorem rowcodecOrder_b2 (A : Option Addr) (n c : Nat) (R : List V3) (D : Option Addr) (m d : Nat) (S : List V3) (w : World) (hr : RowAt w A n R) (hn : n ≤ 9223372036854775807) (hR : ∀ x ∈ R, x.ok) (hs : RowAt w D m S) (hm : m ≤ 9223372036854775807) (hS : ∀ x ∈ S, x.ok) (h1 : sm 0 R = true) (h2 : sm 0 S = false) :
    Calls Try.prog 6 #[.slice A n c, .slice D m d] w fun e w' => e = .returned (.bool true) ∧ Below w.heap.size w w' := by
  have C := fun w (hr : RowAt w A n R) => small_any A n c R w hr hn hR
  rw [h1] at C
  have K1 := Lib.hid C
  clear C
  have C := fun w (hr : RowAt w D m S) => small_any D m d S w hr hm hS
  rw [h2] at C
  have K2 := Lib.hid C
  clear C
  have B1 := Below.refl w.heap.size w
  go_enter Try.func6, Try.ntmps6
  go_wp2_with fail
  refine (awake_any _).mono ?_
  rintro e w1 ⟨rfl, hb⟩
  have B1 := more_below B1 hb
  clear hb
  go_wp2_with fail
  refine (K1.out _ (hr.below B1)).mono ?_
  rintro e w2 ⟨rfl, hb⟩
  have B1 := more_below B1 hb
  clear hb
  go_wp2_with fail
  refine (K2.out _ (hs.below B1)).mono ?_
  rintro e w3 ⟨rfl, hb⟩
  have B1 := more_below B1 hb
  clear hb
  go_wp2_with fail
  refine (awake_any _).mono ?_
  rintro e w9 ⟨rfl, hb⟩
  have B1 := more_below B1 hb
  clear hb
  go_wp2
  go_ret
  exact ⟨rfl, B1⟩

theorem rowcodecOrder_b3 (A : Option Addr) (n c : Nat) (R : List V3) (D : Option Addr) (m d : Nat) (S : List V3) (w : World) (hr : RowAt w A n R) (hn : n ≤ 9223372036854775807) (hR : ∀ x ∈ R, x.ok) (hs : RowAt w D m S) (hm : m ≤ 9223372036854775807) (hS : ∀ x ∈ S, x.ok) (h1 : sm 0 R = true) (h2 : sm 0 S = true) (h3 : R.all V3.valid = false) :
    Calls Try.prog 6 #[.slice A n c, .slice D m d] w fun e w' => e = .returned (.bool true) ∧ Below w.heap.size w w' := by
  have C := fun w (hr : RowAt w A n R) => small_any A n c R w hr hn hR
  rw [h1] at C
  have K1 := Lib.hid C
  clear C
  have C := fun w (hr : RowAt w D m S) => small_any D m d S w hr hm hS
  rw [h2] at C
  have K2 := Lib.hid C
  clear C
  have C := fun w (hr : RowAt w A n R) => valid_any A n c R w hr hn hR
  rw [h3] at C
  have K3 := Lib.hid C
  clear C
  have B1 := Below.refl w.heap.size w
  go_enter Try.func6, Try.ntmps6
  go_wp2_with fail
  refine (awake_any _).mono ?_
  rintro e w1 ⟨rfl, hb⟩
  have B1 := more_below B1 hb
  clear hb
  go_wp2_with fail
  refine (K1.out _ (hr.below B1)).mono ?_
  rintro e w2 ⟨rfl, hb⟩
  have B1 := more_below B1 hb
  clear hb
  go_wp2_with fail
  refine (K2.out _ (hs.below B1)).mono ?_
  rintro e w3 ⟨rfl, hb⟩
  have B1 := more_below B1 hb
  clear hb
  go_wp2_with fail
  refine (K3.out _ (hr.below B1)).mono ?_
  rintro e w4 ⟨rfl, hb⟩
  have B1 := more_below B1 hb
  clear hb
  go_wp2_with fail
  refine (awake_any _).mono ?_
  rintro e w9 ⟨rfl, hb⟩
  have B1 := more_below B1 hb
  clear hb
  go_wp2
  go_ret
  exact ⟨rfl, B1⟩

theorem rowcodecOrder_b4 (A : Option Addr) (n c : Nat) (R : List V3) (D : Option Addr) (m d : Nat) (S : List V3) (w : World) (hr : RowAt w A n R) (hn : n ≤ 9223372036854775807) (hR : ∀ x ∈ R, x.ok) (hs : RowAt w D m S) (hm : m ≤ 9223372036854775807) (hS : ∀ x ∈ S, x.ok) (h1 : sm 0 R = true) (h2 : sm 0 S = true) (h3 : R.all V3.valid = true) (h4 : S.all V3.valid = false) :
    Calls Try.prog 6 #[.slice A n c, .slice D m d] w fun e w' => e = .returned (.bool true) ∧ Below w.heap.size w w' := by
  have C := fun w (hr : RowAt w A n R) => small_any A n c R w hr hn hR
  rw [h1] at C
  have K1 := Lib.hid C
  clear C
  have C := fun w (hr : RowAt w D m S) => small_any D m d S w hr hm hS
  rw [h2] at C
  have K2 := Lib.hid C
  clear C
  have C := fun w (hr : RowAt w A n R) => valid_any A n c R w hr hn hR
  rw [h3] at C
  have K3 := Lib.hid C
  clear C
  have C := fun w (hr : RowAt w D m S) => valid_any D m d S w hr hm hS
  rw [h4] at C
  have K4 := Lib.hid C
  clear C
  have B1 := Below.refl w.heap.size w
  go_enter Try.func6, Try.ntmps6
  go_wp2_with fail
  refine (awake_any _).mono ?_
  rintro e w1 ⟨rfl, hb⟩
  have B1 := more_below B1 hb
  clear hb
  go_wp2_with fail
  refine (K1.out _ (hr.below B1)).mono ?_
  rintro e w2 ⟨rfl, hb⟩
  have B1 := more_below B1 hb
  clear hb
  go_wp2_with fail
  refine (K2.out _ (hs.below B1)).mono ?_
  rintro e w3 ⟨rfl, hb⟩
  have B1 := more_below B1 hb
  clear hb
  go_wp2_with fail
  refine (K3.out _ (hr.below B1)).mono ?_
  rintro e w4 ⟨rfl, hb⟩
  have B1 := more_below B1 hb
  clear hb
  go_wp2_with fail
  refine (K4.out _ (hs.below B1)).mono ?_
  rintro e w5 ⟨rfl, hb⟩
  have B1 := more_below B1 hb
  clear hb
  go_wp2_with fail
  refine (awake_any _).mono ?_
  rintro e w9 ⟨rfl, hb⟩
  have B1 := more_below B1 hb
  clear hb
  go_wp2
  go_ret
  exact ⟨rfl, B1⟩

theorem rowcodecOrder_in (A : Option Addr) (n c : Nat) (R : List V3) (D : Option Addr) (m d : Nat) (S : List V3) (w : World) (hr : RowAt w A n R) (hn : n ≤ 9223372036854775807) (hR : ∀ x ∈ R, x.ok) (hs : RowAt w D m S) (hm : m ≤ 9223372036854775807) (hS : ∀ x ∈ S, x.ok) (h1 : sm 0 R = true) (h2 : sm 0 S = true) (h3 : R.all V3.valid = true) (h4 : S.all V3.valid = true) :
    Calls Try.prog 6 #[.slice A n c, .slice D m d] w fun e w' => e = .returned (.bool true) ∧ Below w.heap.size w w' := by
  have q1 := sm_yes 0 R h1 (by omega)
  have q2 := sm_yes 0 S h2 (by omega)
  have l1 : (encR R).length ≤ 6000 := by have := encR_len R; omega
  have l2 : (encR S).length ≤ 6000 := by have := encR_len S; omega
  have hc := row_cmp R S hR hS h3 h4
  have E1 := Lib.hid (fun w (hr : RowAt w A n R) => EncodeRow_at A n c R w hr hn hR (by omega))
  have E2 := Lib.hid (fun w (hr : RowAt w D m S) => EncodeRow_at D m d S w hr hm hS (by omega))
  have E3 := Lib.hid (fun w A' c' D' d' x y => Compare_any A' (encR R).length c' (encR R) D' (encR S).length d' (encR S) w x (by omega) y (by omega))
  have E4 := Lib.hid (fun w (hr : RowAt w A n R) (hs : RowAt w D m S) => Rows_any A n c R D m d S w hr hn hR hs hm hS)
  rw [hc] at E3
  generalize rcmp R S = z at *
  have C := fun w (hr : RowAt w A n R) => small_any A n c R w hr hn hR
  rw [h1] at C
  have K1 := Lib.hid C
  clear C
  have C := fun w (hr : RowAt w D m S) => small_any D m d S w hr hm hS
  rw [h2] at C
  have K2 := Lib.hid C
  clear C
  have C := fun w (hr : RowAt w A n R) => valid_any A n c R w hr hn hR
  rw [h3] at C
  have K3 := Lib.hid C
  clear C
  have C := fun w (hr : RowAt w D m S) => valid_any D m d S w hr hm hS
  rw [h4] at C
  have K4 := Lib.hid C
  clear C
  have B1 := Below.refl w.heap.size w
  clear hc q1 q2
  generalize encR R = x at *
  generalize encR S = y at *
  go_enter Try.func6, Try.ntmps6
  go_wp2_with fail
  refine (awake_any _).mono ?_
  rintro e w1 ⟨rfl, hb⟩
  have B1 := more_below B1 hb
  clear hb
  go_wp2_with fail
  refine (K1.out _ (hr.below B1)).mono ?_
  rintro e w2 ⟨rfl, hb⟩
  have B1 := more_below B1 hb
  clear hb
  go_wp2_with fail
  refine (K2.out _ (hs.below B1)).mono ?_
  rintro e w3 ⟨rfl, hb⟩
  have B1 := more_below B1 hb
  clear hb
  go_wp2_with fail
  refine (K3.out _ (hr.below B1)).mono ?_
  rintro e w4 ⟨rfl, hb⟩
  have B1 := more_below B1 hb
  clear hb
  go_wp2_with fail
  refine (K4.out _ (hs.below B1)).mono ?_
  rintro e w5 ⟨rfl, hb⟩
  have B1 := more_below B1 hb
  clear hb
  go_wp2_with fail
  refine (E1.out _ (hr.below B1)).mono ?_
  rintro e w6 ⟨A1, c1, rfl, y1, hb⟩
  have B1 := more_below B1 hb
  clear hb
  go_wp2_with fail
  refine (E2.out _ (hs.below B1)).mono ?_
  rintro e w7 ⟨A2, c2, rfl, y2, hb⟩
  have B1 := more_below B1 hb
  have y1 := y1.below hb
  clear hb
  go_wp2_with fail
  refine (E3.out _ _ _ _ _ y1 y2).mono ?_
  rintro e w8 ⟨rfl, hb⟩
  have B1 := more_below B1 hb
  clear hb
  go_wp2_with fail
  refine (E4.out _ (hr.below B1) (hs.below B1)).mono ?_
  rintro e w9 ⟨rfl, hb⟩
  have B1 := more_below B1 hb
  clear hb
  go_wp2
  go_ret
  exact ⟨rfl, B1⟩

theorem rowcodecOrder_walk (A : Option Addr) (n c : Nat) (R : List V3) (D : Option Addr) (m d : Nat) (S : List V3) (w : World) (hr : RowAt w A n R) (hn : n ≤ 9223372036854775807) (hR : ∀ x ∈ R, x.ok) (hs : RowAt w D m S) (hm : m ≤ 9223372036854775807) (hS : ∀ x ∈ S, x.ok) :
    Calls Try.prog 6 #[.slice A n c, .slice D m d] w fun e w' => e = .returned (.bool true) ∧ Below w.heap.size w w' := by
  rcases h1 : sm 0 R with _ | _
  · exact rowcodecOrder_b1 A n c R D m d S w hr hn hR hs hm hS h1
  · rcases h2 : sm 0 S with _ | _
    · exact rowcodecOrder_b2 A n c R D m d S w hr hn hR hs hm hS h1 h2
    · rcases h3 : R.all V3.valid with _ | _
      · exact rowcodecOrder_b3 A n c R D m d S w hr hn hR hs hm hS h1 h2 h3
      · rcases h4 : S.all V3.valid with _ | _
        · exact rowcodecOrder_b4 A n c R D m d S w hr hn hR hs hm hS h1 h2 h3 h4
        · exact rowcodecOrder_in A n c R D m d S w hr hn hR hs hm hS h1 h2 h3 h4

set_option maxRecDepth 100000 in
theorem rowcodecOrder_lifted (os : Os) (started : os.Started) (H : Type) (enc : TypeId × Value → H) :
    ReturnsInHanded {} Try.checked os 6 .any (Rows.rowcodecOrderSpec.pre6 enc Try.prog Try.f6 Rows.rowcodecOrderRow.domain false) (Rows.rowcodecOrderSpec.post enc Try.prog Try.f6 false true false false) := by
  refine law_lifted (C := Try.checked) (B := 4) Try.own started (by kernel_rfl) Try.func6
    (ChangeSpec.witness6 (enc := enc) (C := Try.checked) false ⟨#[], #[.slice none 0 0, .slice none 0 0], []⟩ 8 (by kernel_rfl) (by kernel_rfl) (by kernel_rfl) (by kernel_rfl))
    Try.laidOut (by kernel_rfl) rfl rfl rfl Try.underlying4 (fun ds h => match ds, h with | [_, _], _ => rfl) ?_
  intro W base args ds ps hval hA hlt hsz
  rw [Try.params6] at hA hval hsz
  obtain ⟨v0, vs0, d0, ds0, p0, q0, hargs, rfl, rfl, h0, r0⟩ := trodAll_cons hA
  obtain ⟨v1, vs1, d1, ds1, p1, q1, rfl, rfl, rfl, h1, r1⟩ := trodAll_cons r0
  obtain ⟨rfl, rfl, rfl⟩ := trodAll_nil r1
  obtain rfl : args = #[v0, v1] := by cases args; simp_all
  obtain ⟨A0, n0, c0, R0, rfl, k0, l0, g0⟩ := open_row (hval 0 25 v0 rfl rfl) h0 (fun x hx => hlt x (by simp [hx])) hsz (j := 0) rfl rfl
  obtain ⟨A1, n1, c1, R1, rfl, k1, l1, g1⟩ := open_row (hval 1 25 v1 rfl rfl) h1 (fun x hx => hlt x (by simp [hx])) hsz (j := 1) rfl rfl
  exact rowcodecOrder_walk A0 n0 c0 R0 A1 n1 c1 R1 W k0 l0 g0 k1 l1 g1

theorem rowcodecOrder_over : Rows.rowcodecOrderRow.holds Try.pinned (OpenSpec.ofChange Rows.rowcodecOrderSpec) :=
  OpenClaim.holds_of_wide 6 Try.f6 rfl rfl rfl rfl rfl rfl rfl ⟨rfl, rfl, rfl, rfl, rfl⟩ rfl rfl rfl rfl rfl (by kernel_rfl) Try.func6 (by kernel_rfl)
    (of_decide_eq_true (by kernel_rfl)) (by unfold Func.isWrapper; first | (rw [if_pos (by decide +kernel)]; kernel_rfl) | (rw [if_neg (by decide +kernel)]; exact ⟨rfl, rfl⟩))
    (fun os started H enc _ => rowcodecOrder_lifted os started H enc)

theorem rowcodecOrder_proved : Rows.RowcodecOrderSaid := rowcodecOrder_over
end Go.Proofs.Ytdfkcibmmabjcaa
