/- Law RowcodecKey: for every input the call returns true, and its arguments read afterwards as before. -/
import Derived.Test.YtdfkcibmmabjcaaOpr
import Derived.Test.YtdfkcibmmabjcaaKey
namespace Go.Proofs.Ytdfkcibmmabjcaa
open Go.ChangeShapes Go.WideShapes Go.ChangeAt Go.RowKit Go.ChangeMaps

theorem more_below {w W W' : World} (h : Below w.heap.size w W) (hb : Below W.heap.size W W') : Below w.heap.size w W' := h.trans (hb.mono h.size)
theorem Try.cells3 : Try.prog.cellsOf 3 = 1 := by kernel_rfl
theorem open_intsA {H : Type} {enc : TypeId × Value → H} {W : World} {r : Reach} {b0 : Nat} {v : Value} {d : DataW H} {p : List MemPlace}
    (hv : Value.okWide Try.prog W r b0 43 v) (h : DataW.Trod enc Try.prog W 0 (fun _ => true) true 43 v d p) (hlt : ∀ x ∈ p, x.block < W.heap.size) :
    ∃ (A : Option Addr) (n c : Nat) (zs : List Int), v = .slice A n c ∧ IntsAt W A n zs ∧ n ≤ 9223372036854775807 ∧ ∀ z ∈ zs, -9223372036854775808 ≤ z ∧ z ≤ 9223372036854775807 := by
  obtain ⟨a0, len, cap, rfl⟩ := okWide_slice Try.underlying43 hv
  obtain ⟨fuel, hf⟩ := h
  rcases open_ints Try.underlying43 Try.underlying3 Try.cells3 hf with ⟨hcs, hx⟩ | ⟨a, len', cap', zs, hcs, _, hl, hm, hz, hx, hcell, hwz⟩
  · simp [Value.cells] at hcs
    obtain ⟨rfl, rfl, rfl⟩ := hcs
    exact ⟨_, _, _, [], rfl, ⟨rfl, fun h => absurd h (by omega)⟩, by omega, fun x hx => by cases hx⟩
  · simp [Value.cells] at hcs
    obtain ⟨rfl, rfl, rfl⟩ := hcs
    simp only [if_true] at hz
    simp only [Prod.mk.injEq] at hx
    obtain ⟨rfl, rfl⟩ := hx
    unfold maxLen at hm
    refine ⟨_, _, _, zs.take len, rfl, ⟨by rw [List.length_take]; omega, fun hn => ?_⟩, by omega, fun z hz2 => i64_bd (hwz z (List.mem_of_mem_take hz2))⟩
    obtain ⟨b, off, spot⟩ := a
    have hspot : spot = none := by simpa [Addr.add] using World.cell?_spot (hcell 0 (by omega))
    subst hspot
    refine ⟨b, off, rfl, hlt (.cell b off) (MemPlace.mem_row.2 ⟨0, by omega, by simp⟩), fun i hi => ?_⟩
    have hi2 : i < zs.length := by rw [List.length_take] at hi; omega
    have := hcell i hi2
    rw [add_plain] at this
    rw [this]
    simp [List.getD, List.getElem?_eq_getElem hi2]

theorem rowcodecKey_big (A : Option Addr) (n c : Nat) (R : List V3) (D : Option Addr) (m d : Nat) (zs : List Int) (w : World) (hr : RowAt w A n R) (hn : n ≤ 9223372036854775807) (hR : ∀ x ∈ R, x.ok) (hz : IntsAt w D m zs) (hm : m ≤ 9223372036854775807) (hsm : sm 0 R = false) :
    Calls Try.prog 8 #[.slice A n c, .slice D m d] w fun e w' => e = .returned (.bool true) ∧ Below w.heap.size w w' := by
  have C := fun w hr => small_any A n c R w hr hn hR
  rw [hsm] at C
  have HC := Lib.hid C
  have B1 := Below.refl w.heap.size w
  clear C hsm
  go_enter Try.func8, Try.ntmps8
  go_wp2_with fail
  refine (awake_any _).mono ?_
  rintro e w1 ⟨rfl, hb⟩
  have B1 := more_below B1 hb
  clear hb
  go_wp2_with fail
  refine (HC.out _ (hr.below B1)).mono ?_
  rintro e w2 ⟨rfl, hb⟩
  have B1 := more_below B1 hb
  clear hb
  go_wp2_with fail
  refine (awake_any _).mono ?_
  rintro e w3 ⟨rfl, hb⟩
  have B1 := more_below B1 hb
  clear hb
  go_wp2
  go_ret
  exact ⟨rfl, B1⟩

theorem rowcodecKey_long (A : Option Addr) (n c : Nat) (R : List V3) (D : Option Addr) (m d : Nat) (zs : List Int) (w : World) (hr : RowAt w A n R) (hn : n ≤ 9223372036854775807) (hR : ∀ x ∈ R, x.ok) (hz : IntsAt w D m zs) (hm : m ≤ 9223372036854775807) (hsm : sm 0 R = true) (h20 : 20 < m) :
    Calls Try.prog 8 #[.slice A n c, .slice D m d] w fun e w' => e = .returned (.bool true) ∧ Below w.heap.size w w' := by
  have C := fun w hr => small_any A n c R w hr hn hR
  rw [hsm] at C
  have HC := Lib.hid C
  have B1 := Below.refl w.heap.size w
  clear C hsm
  go_enter Try.func8, Try.ntmps8
  go_wp2_with fail
  refine (awake_any _).mono ?_
  rintro e w1 ⟨rfl, hb⟩
  have B1 := more_below B1 hb
  clear hb
  go_wp2_with fail
  refine (HC.out _ (hr.below B1)).mono ?_
  rintro e w2 ⟨rfl, hb⟩
  have B1 := more_below B1 hb
  clear hb
  go_wp2_with fail
  refine (awake_any _).mono ?_
  rintro e w3 ⟨rfl, hb⟩
  have B1 := more_below B1 hb
  clear hb
  go_wp2
  go_ret
  exact ⟨rfl, B1⟩

theorem rowcodecKey_in (A : Option Addr) (n c : Nat) (R : List V3) (D : Option Addr) (m d : Nat) (zs : List Int) (w : World) (hr : RowAt w A n R) (hn : n ≤ 9223372036854775807) (hR : ∀ x ∈ R, x.ok) (hz : IntsAt w D m zs) (hm : m ≤ 9223372036854775807) (hsm : sm 0 R = true) (h20 : m ≤ 20) :
    Calls Try.prog 8 #[.slice A n c, .slice D m d] w fun e w' => e = .returned (.bool true) ∧ Below w.heap.size w w' := by
  have hS : (R.map fun x => x.s.size + 1).sum ≤ 600 := by have := sm_yes 0 R hsm (by omega); omega
  have K1 := Lib.hid (fun w hr hz => Key_any A n c R D m d zs w hr hn hR hS hz h20)
  have K2 := Lib.hid (fun w hr hz => refKey_any A n c R D m d zs w hr hn hR hS hz h20)
  obtain ⟨X, hX⟩ : ∃ X : ByteArray, ⟨(colR R zs m).toArray⟩ = X := ⟨_, rfl⟩
  rw [hX] at K1 K2
  clear hX
  have C := fun w hr => small_any A n c R w hr hn hR
  rw [hsm] at C
  have HC := Lib.hid C
  have B1 := Below.refl w.heap.size w
  clear C hsm
  go_enter Try.func8, Try.ntmps8
  go_wp2_with fail
  refine (awake_any _).mono ?_
  rintro e w1 ⟨rfl, hb⟩
  have B1 := more_below B1 hb
  clear hb
  go_wp2_with fail
  refine (HC.out _ (hr.below B1)).mono ?_
  rintro e w2 ⟨rfl, hb⟩
  have B1 := more_below B1 hb
  clear hb
  go_wp2_with fail
  refine (K1.out _ (hr.below B1) (hz.below B1)).mono ?_
  rintro e w3 ⟨rfl, hb⟩
  have B1 := more_below B1 hb
  clear hb
  go_wp2_with fail
  refine (K2.out _ (hr.below B1) (hz.below B1)).mono ?_
  rintro e w4 ⟨rfl, hb⟩
  have B1 := more_below B1 hb
  clear hb
  go_wp2
  go_ret
  exact ⟨rfl, B1⟩

theorem rowcodecKey_walk (A : Option Addr) (n c : Nat) (R : List V3) (D : Option Addr) (m d : Nat) (zs : List Int) (w : World) (hr : RowAt w A n R) (hn : n ≤ 9223372036854775807) (hR : ∀ x ∈ R, x.ok) (hz : IntsAt w D m zs) (hm : m ≤ 9223372036854775807) (_ : ∀ z ∈ zs, -9223372036854775808 ≤ z ∧ z ≤ 9223372036854775807) :
    Calls Try.prog 8 #[.slice A n c, .slice D m d] w fun e w' => e = .returned (.bool true) ∧ Below w.heap.size w w' := by
  rcases hsm : sm 0 R with _ | _
  · exact rowcodecKey_big A n c R D m d zs w hr hn hR hz hm hsm
  · by_cases h : m ≤ 20
    · exact rowcodecKey_in A n c R D m d zs w hr hn hR hz hm hsm h
    · exact rowcodecKey_long A n c R D m d zs w hr hn hR hz hm hsm (by omega)

set_option maxRecDepth 100000 in
theorem rowcodecKey_lifted (os : Os) (started : os.Started) (H : Type) (enc : TypeId × Value → H) :
    ReturnsInHanded {} Try.checked os 8 .any (Rows.rowcodecKeySpec.pre6 enc Try.prog Try.f8 Rows.rowcodecKeyRow.domain false) (Rows.rowcodecKeySpec.post enc Try.prog Try.f8 false true false false) := by
  refine law_lifted (C := Try.checked) (B := 4) Try.own started (by kernel_rfl) Try.func8
    (ChangeSpec.witness6 (enc := enc) (C := Try.checked) false ⟨#[], #[.slice none 0 0, .slice none 0 0], []⟩ 8 (by kernel_rfl) (by kernel_rfl) (by kernel_rfl) (by kernel_rfl))
    Try.laidOut (by kernel_rfl) rfl rfl rfl Try.underlying4 (fun ds h => match ds, h with | [_, _], _ => rfl) ?_
  intro W base args ds ps hval hA hlt hsz
  rw [Try.params8] at hA hval hsz
  obtain ⟨v0, vs0, d0, ds0, p0, q0, hargs, rfl, rfl, h0, r0⟩ := trodAll_cons hA
  obtain ⟨v1, vs1, d1, ds1, p1, q1, rfl, rfl, rfl, h1, r1⟩ := trodAll_cons r0
  obtain ⟨rfl, rfl, rfl⟩ := trodAll_nil r1
  obtain rfl : args = #[v0, v1] := by cases args; simp_all
  obtain ⟨A0, n0, c0, R0, rfl, k0, l0, g0⟩ := open_row (hval 0 25 v0 rfl rfl) h0 (fun x hx => hlt x (by simp [hx])) hsz (j := 0) rfl rfl
  obtain ⟨A1, n1, c1, R1, rfl, k1, l1, g1⟩ := open_intsA (hval 1 43 v1 rfl rfl) h1 (fun x hx => hlt x (by simp [hx]))
  exact rowcodecKey_walk A0 n0 c0 R0 A1 n1 c1 R1 W k0 l0 g0 k1 l1 g1

theorem rowcodecKey_over : Rows.rowcodecKeyRow.holds Try.pinned (OpenSpec.ofChange Rows.rowcodecKeySpec) :=
  OpenClaim.holds_of_wide 8 Try.f8 rfl rfl rfl rfl rfl rfl rfl ⟨rfl, rfl, rfl, rfl, rfl⟩ rfl rfl rfl rfl rfl (by kernel_rfl) Try.func8 (by kernel_rfl)
    (of_decide_eq_true (by kernel_rfl)) (by unfold Func.isWrapper; first | (rw [if_pos (by decide +kernel)]; kernel_rfl) | (rw [if_neg (by decide +kernel)]; exact ⟨rfl, rfl⟩))
    (fun os started H enc _ => rowcodecKey_lifted os started H enc)

theorem rowcodecKey_proved : Rows.RowcodecKeySaid := rowcodecKey_over
end Go.Proofs.Ytdfkcibmmabjcaa
