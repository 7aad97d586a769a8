/- The reference: the value of an expression with a type. -/
import Derived.Test.YtfhbffgnpedaeaaEvv
import Derived.Test.YtfhbffgnpedaeaaMix
namespace Go.Proofs.Ytfhbffgnpedaeaa
open Go.ChangeShapes Go.WideShapes Go.ChangeAt Go.RowKit Go.ChangeMaps

theorem qM_alt (a b : Int) (hb : 1 ≤ b) : qM a b = if Int.tmod a b ≠ 0 ∧ a < 0 then wrap64 (Int.tdiv a b - 1) else Int.tdiv a b := by
  unfold qM
  have h : Int.tmod a b < 0 ↔ (Int.tmod a b ≠ 0 ∧ a < 0) := by
    constructor
    · intro h
      refine ⟨by omega, ?_⟩
      by_cases g : a < 0
      · exact g
      · have := Int.tmod_nonneg b (by omega : 0 ≤ a); omega
    · rintro ⟨h1, h2⟩
      have h3 := Int.tmod_nonneg b (by omega : 0 ≤ -a)
      rw [Int.neg_tmod] at h3
      omega
  by_cases g : Int.tmod a b < 0
  · rw [if_pos g, if_pos (h.1 g)]
  · rw [if_neg g, if_neg (fun q => g (h.2 q))]
set_option maxRecDepth 100000 in
theorem floor_any (a b : Int) (w : World) (hb : 1 ≤ b) (hb1 : b ≤ 9223372036854775807) (ha : -9223372036854775808 ≤ a ∧ a ≤ 9223372036854775807) : Calls Try.prog 33 #[.int .i64 a, .int .i64 b] w fun e w' => e = .returned (.int .i64 (qM a b)) ∧ w = w' := by
  have HQ := Lib.hid (qM_alt a b hb)
  have hbz : b ≠ 0 := by omega
  have hbz' : (b == 0) = false := by simpa using hbz
  have hbn : ¬ b < 0 := by omega
  by_cases hm : Int.tmod a b = 0
  · have hm' : (Int.tmod a b != 0) = false := by simp [hm]
    have HF := Lib.hid (show Int.tdiv a b = qM a b by rw [HQ.out, if_neg (fun q => q.1 hm)])
    clear hm
    go_enter Try.func33, Try.ntmps33
    go_wp2
    go_ret
    exact ⟨ret_int HF.out, rfl⟩
  · have hm' : (Int.tmod a b != 0) = true := by simp [hm]
    by_cases h0 : a < 0
    · have HF := Lib.hid (show wrap64 (Int.tdiv a b - 1) = qM a b by rw [HQ.out, if_pos ⟨hm, h0⟩])
      clear hm
      go_enter Try.func33, Try.ntmps33
      go_wp2
      go_ret
      exact ⟨ret_int HF.out, rfl⟩
    · have HF := Lib.hid (show a / b = qM a b by rw [HQ.out, if_neg (fun q => h0 q.2), Int.tdiv_eq_ediv_of_nonneg (by omega)])
      have hm2 : (a % b != 0) = true := by rw [← Int.tmod_eq_emod_of_nonneg (by omega)]; exact hm'
      clear hm
      go_enter Try.func33, Try.ntmps33
      go_wp2
      go_ret
      exact ⟨ret_int HF.out, rfl⟩
end Go.Proofs.Ytfhbffgnpedaeaa
