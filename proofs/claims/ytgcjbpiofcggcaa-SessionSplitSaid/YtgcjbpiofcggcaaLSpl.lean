/- Law SessionSplit: for every input the call returns true, and its arguments read afterwards as before. -/
import Derived.Test.YtgcjbpiofcggcaaOpn
import Derived.Test.YtgcjbpiofcggcaaAwk
import Derived.Test.YtgcjbpiofcggcaaRsp
namespace Go.Proofs.Ytgcjbpiofcggcaa
open Go.ChangeShapes Go.WideShapes Go.ChangeAt Go.RowKit Go.ChangeMaps

theorem sessionSplit_long (A : Option Addr) (n c : Nat) (K : List Int) (w : World) (hn : n ≤ 9223372036854775807) (h60 : 60 < n) :
    Calls Try.prog 3 #[.slice A n c] w fun e w' => e = .returned (.bool true) ∧ Below w.heap.size w w' := by
  go_enter Try.func3, Try.ntmps3
  go_wp2_with fail
  refine (awake_any _).mono ?_
  rintro e w1 ⟨rfl, hb1⟩
  go_wp2
  go_ret
  exact ⟨rfl, hb1⟩
set_option maxRecDepth 100000 in
set_option maxHeartbeats 4000000 in
theorem sessionSplit_in (A : Option Addr) (n c : Nat) (K : List Int) (w : World) (hr : At w A n 1 (ic .i64 K)) (h60 : n ≤ 60) :
    Calls Try.prog 3 #[.slice A n c] w fun e w' => e = .returned (.bool true) ∧ Below w.heap.size w w' := by
  have HL := Lib.hid hr.int
  have HR := Lib.hid hr
  clear hr
  have hsl : Hid ((splitM K).length ≤ n) := Lib.hid (by have := splitM_len K; rw [HL.out] at this; exact this)
  go_enter Try.func3, Try.ntmps3
  go_wp2_with fail
  refine (awake_any _).mono ?_
  rintro e w1 ⟨rfl, hb1⟩
  have HW := Lib.hid hb1
  clear hb1
  go_wp2_with fail
  refine (Script_New _ _ _ K w1 (HR.out.below HW.out) (by omega)).mono ?_
  rintro e w2 ⟨A2, c2, rfl, hA2, hc2, hn2, hb⟩
  have HW := Lib.hid (more_below HW.out hb)
  have HA := Lib.hid hA2
  have HC := Lib.hid hc2
  clear hb hA2 hc2 hn2
  go_wp2_with fail
  refine (Split_any _ _ _ K w2 HA.out HL.out (by omega) HC.out).mono ?_
  rintro e w3 ⟨v, rfl, ho, hb⟩
  obtain ⟨D, d, rfl, hD, _⟩ := At.of_own ho
  have HW := Lib.hid (more_below HW.out hb)
  have HD := Lib.hid hD
  clear hb hD ho
  go_wp2_with fail
  refine (RSplit_any _ _ _ K w3 (HR.out.below HW.out) (by omega)).mono ?_
  rintro e w4 ⟨v, rfl, ho, hb⟩
  obtain ⟨E, f, rfl, hE, _⟩ := At.of_own ho
  have HW := Lib.hid (more_below HW.out hb)
  have HD := Lib.hid (HD.out.below hb)
  have HE := Lib.hid hE
  clear hb hE ho
  go_wp2_with fail
  refine (same_any _ _ _ _ _ (splitM K) w4 HD.out HE.out rfl (by have := hsl.out; omega)).mono ?_
  rintro e w5 ⟨rfl, hb⟩
  have HW := Lib.hid (more_below HW.out hb)
  clear hb
  go_wp2
  go_ret
  exact ⟨rfl, HW.out⟩
theorem sessionSplit_walk (A : Option Addr) (n c : Nat) (K : List Int) (w : World) (hr : At w A n 1 (ic .i64 K)) (hn : n ≤ 9223372036854775807) (_ : ∀ z ∈ K, -9223372036854775808 ≤ z ∧ z ≤ 9223372036854775807) :
    Calls Try.prog 3 #[.slice A n c] w fun e w' => e = .returned (.bool true) ∧ Below w.heap.size w w' := by
  by_cases h : n ≤ 60
  · exact sessionSplit_in A n c K w hr h
  · exact sessionSplit_long A n c K w hn (by omega)

set_option maxRecDepth 100000 in
theorem sessionSplit_lifted (os : Os) (started : os.Started) (H : Type) (enc : TypeId × Value → H) :
    ReturnsInHanded {} Try.checked os 3 .any (Rows.sessionSplitSpec.pre6 enc Try.prog Try.f3 Rows.sessionSplitRow.domain false) (Rows.sessionSplitSpec.post enc Try.prog Try.f3 false true false false) := by
  refine law_lifted (C := Try.checked) (B := 4) Try.own started (by kernel_rfl) Try.func3
    (ChangeSpec.witness6 (enc := enc) (C := Try.checked) false ⟨#[], #[.slice none 0 0], []⟩ 8 (by kernel_rfl) (by kernel_rfl) (by kernel_rfl) (by kernel_rfl))
    Try.laidOut (by kernel_rfl) rfl rfl rfl Try.underlying4 (fun ds h => match ds, h with | [_], _ => rfl) ?_
  intro W base args ds ps hval hA hlt hsz
  rw [Try.params3] at hA hval hsz
  obtain ⟨v0, vs0, d0, ds0, p0, q0, hargs, rfl, rfl, h0, r0⟩ := trodAll_cons hA
  obtain ⟨rfl, rfl, rfl⟩ := trodAll_nil r0
  obtain rfl : args = #[v0] := by cases args; simp_all
  obtain ⟨A0, n0, c0, R0, rfl, k0, l0, g0⟩ := open_intsA (hval 0 22 v0 rfl rfl) h0 (fun x hx => hlt x (by simp [hx]))
  exact sessionSplit_walk A0 n0 c0 R0 W k0 l0 g0

theorem sessionSplit_over : Rows.sessionSplitRow.holds Try.pinned (OpenSpec.ofChange Rows.sessionSplitSpec) :=
  OpenClaim.holds_of_wide 3 Try.f3 rfl rfl rfl rfl rfl rfl rfl ⟨rfl, rfl, rfl, rfl, rfl⟩ rfl rfl rfl rfl rfl (by kernel_rfl) Try.func3 (by kernel_rfl)
    (of_decide_eq_true (by kernel_rfl)) (by unfold Func.isWrapper; first | (rw [if_pos (by decide +kernel)]; kernel_rfl) | (rw [if_neg (by decide +kernel)]; exact ⟨rfl, rfl⟩))
    (fun os started H enc _ => sessionSplit_lifted os started H enc)

theorem sessionSplit_proved : Rows.SessionSplitSaid := sessionSplit_over
end Go.Proofs.Ytgcjbpiofcggcaa
