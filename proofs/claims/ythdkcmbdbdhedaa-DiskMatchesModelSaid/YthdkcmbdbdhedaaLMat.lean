/- Law DiskMatchesModel: for every input the call returns true, and its arguments read afterwards as before. -/
import Derived.Test.YthdkcmbdbdhedaaSme
namespace Go.Proofs.Ythdkcmbdbdhedaa
open Go.ChangeShapes Go.WideShapes Go.ChangeAt Go.RowKit Go.ChangeMaps

set_option maxRecDepth 100000 in
set_option maxHeartbeats 2000000 in
theorem diskMatchesModel_walk (A : Option Addr) (n c : Nat) (L : List OpM) (w : World) (hr : OpsAt w A n L) (hn : n ≤ 9223372036854775807) :
    Calls Try.prog 3 #[.slice A n c] w fun e w' => e = .returned (.bool true) ∧ Below w.heap.size w w' := by
  have HO := Lib.hid hr
  clear hr
  go_enter Try.func3, Try.ntmps3
  go_wp2_with fail
  refine (awake_any _).mono ?_
  rintro e w1 ⟨rfl, hb⟩
  have HW := Lib.hid hb
  clear hb
  rcases hfew : fewM L with _ | _
  · go_wp2_with fail
    refine (few_any w1 A n c L (HO.out.below HW.out) hn false hfew).mono ?_
    rintro e w2 ⟨rfl, hb⟩
    replace HW := Lib.hid (HW.out.trans (hb.mono HW.out.size))
    clear hb
    go_wp2_with fail
    refine (awake_any _).mono ?_
    rintro e w5 ⟨rfl, hb⟩
    replace HW := Lib.hid (HW.out.trans (hb.mono HW.out.size))
    clear hb
    go_wp2
    go_ret
    exact ⟨rfl, HW.out⟩
  · go_wp2_with fail
    refine (few_any w1 A n c L (HO.out.below HW.out) hn true hfew).mono ?_
    rintro e w2 ⟨rfl, hb⟩
    replace HW := Lib.hid (HW.out.trans (hb.mono HW.out.size))
    clear hb
    go_wp2_with fail
    refine (run_any w2 A n c L (HO.out.below HW.out) hn hfew).mono ?_
    rintro e w3 ⟨p, q, r, t, s, rfl, hM, hR4, hx, hF, hb⟩
    have HM := Lib.hid hM
    have HF := Lib.hid (show ∀ k, F4 p q r t k → w.heap.size ≤ k from fun k hk => Nat.le_trans HW.out.size (hF k hk))
    replace HW := Lib.hid (HW.out.trans (hb.mono HW.out.size))
    clear hM hF hb
    go_wp2_with fail
    refine (same_any w3 p q r t s HM.out).mono ?_
    rintro e w4 ⟨rfl, hM4, hC4⟩
    have HW4 := Lib.hid (hC4.below HW.out HF.out HW.out.size)
    clear hM4 hC4
    go_wp2
    go_ret
    exact ⟨rfl, HW4.out⟩

set_option maxRecDepth 100000 in
theorem diskMatchesModel_lifted (os : Os) (started : os.Started) (H : Type) (enc : TypeId × Value → H) :
    ReturnsInHanded {} Try.checked os 3 .any (Rows.diskMatchesModelSpec.pre6 enc Try.prog Try.f3 Rows.diskMatchesModelRow.domain false) (Rows.diskMatchesModelSpec.post enc Try.prog Try.f3 false true false false) := by
  refine law_lifted (C := Try.checked) (B := 4) Try.own started (by kernel_rfl) Try.func3
    (ChangeSpec.witness6 (enc := enc) (C := Try.checked) false ⟨#[], #[.slice none 0 0], []⟩ 8 (by kernel_rfl) (by kernel_rfl) (by kernel_rfl) (by kernel_rfl))
    Try.laidOut (by kernel_rfl) rfl rfl rfl Try.underlying4 (fun ds h => match ds, h with | [_], _ => rfl) ?_
  intro W base args ds ps hval hA hlt hsz
  rw [Try.params3] at hA hval hsz
  obtain ⟨v0, vs0, d0, ds0, p0, q0, hargs, rfl, rfl, h0, r0⟩ := trodAll_cons hA
  obtain ⟨rfl, rfl, rfl⟩ := trodAll_nil r0
  obtain rfl : args = #[v0] := by cases args; simp_all
  obtain ⟨A0, n0, c0, R0, rfl, k0, l0⟩ := open_Ops (hval 0 22 v0 rfl rfl) h0 (fun x hx => hlt x (by simp [hx]))
  exact diskMatchesModel_walk A0 n0 c0 R0 W k0 l0

theorem diskMatchesModel_over : Rows.diskMatchesModelRow.holds Try.pinned (OpenSpec.ofChange Rows.diskMatchesModelSpec) :=
  OpenClaim.holds_of_wide 3 Try.f3 rfl rfl rfl rfl rfl rfl rfl ⟨rfl, rfl, rfl, rfl, rfl⟩ rfl rfl rfl rfl rfl (by kernel_rfl) Try.func3 (by kernel_rfl)
    (of_decide_eq_true (by kernel_rfl)) (by unfold Func.isWrapper; first | (rw [if_pos (by decide +kernel)]; kernel_rfl) | (rw [if_neg (by decide +kernel)]; exact ⟨rfl, rfl⟩))
    (fun os started H enc _ => diskMatchesModel_lifted os started H enc)

theorem diskMatchesModel_proved : Rows.DiskMatchesModelSaid := diskMatchesModel_over
end Go.Proofs.Ythdkcmbdbdhedaa
