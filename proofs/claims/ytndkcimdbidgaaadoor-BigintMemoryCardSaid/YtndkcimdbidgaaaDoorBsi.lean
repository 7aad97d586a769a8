/- The sign of an integer. -/
import Derived.Test.YtndkcimdbidgaaaDoorBof
import Derived.Deep.Cut
import Derived.BigQuiet
namespace Go.Proofs.YtndkcimdbidgaaaDoor
open Go.ChangeShapes Go.WideShapes Go.ChangeAt Go.RowKit Go.ChangeMaps

set_option maxRecDepth 100000 in
set_option maxHeartbeats 4000000 in
theorem Sign_any (a : Value) (z : Int) (N : Nat) (w : World) (ha : BG w a z N) : Calls Tryd.prog 21 #[a] w fun e w' => e = .returned (.int .i64 z.sign) ∧ Below w.heap.size w w' := by
  obtain ⟨na, A, n, c, D, rfl, hd, hs, hn, hz⟩ := ha
  obtain ⟨W0, hW0⟩ : ∃ W, W = w.alloc (.cells #[.bool na, .slice A n c] 24) := ⟨_, rfl⟩
  have HB := Lib.hid (show Below w.heap.size w W0 by rw [hW0]; exact (Below.refl _ w).alloc (Nat.le_refl _) _)
  have K2 := Lib.hid (show Blk W0 w.heap.size 24 #[.bool na, .slice A n c] by rw [hW0]; exact Blk.new _ _ _)
  have CT := Lib.hid (trim_any A n c D W0 (hd.below HB.out) hs)
  have K_0 : W0.cell? ⟨w.heap.size, 0, none⟩ = some (.bool na) := K2.out.cell 0
  have K_1 : W0.cell? ⟨w.heap.size, 1, none⟩ = some (.slice A n c) := K2.out.cell 1
  have HZ := Lib.hid hz
  have HD := Lib.hid hd
  clear hd hs hn hz
  go_enter Tryd.func21, Tryd.ntmps21
  go_wp2_with fail
  rw [← hW0]
  clear hW0
  refine CT.out.mono ?_
  rintro e w1 ⟨k, rfl, ht, rfl⟩
  have HT := Lib.hid ht
  clear ht
  by_cases h0 : k = 0
  · subst h0
    have HR := Lib.hid (show (0 : Int) = z.sign by
      have hd0 : dv 4294967296 D = 0 := by rw [← HT.out.dv]; rfl
      rw [HZ.out, hd0, sgn_zero]; rfl)
    go_wp2_with fail
    go_ret
    exact ⟨by rw [← HR.out]; rfl, HB.out⟩
  · have hk0 : ((k : Int) == 0) = false := by simp; omega
    have hnz : dv 4294967296 D ≠ 0 := by
      have h1 := nmz_zero (B := 4294967296) (by decide) (D.take k) HT.out.nmz
      rw [HT.out.dv] at h1
      intro e
      have h2 := congrArg List.length (h1.1 e)
      have h3 := HT.out.1
      simp at h2
      rcases h2 with h2 | h2
      · omega
      · subst h2; simp at h3; omega
    cases na with
    | true =>
      have HR := Lib.hid (show (-1 : Int) = z.sign by rw [HZ.out]; unfold sgn; rw [if_pos rfl, Int.sign_neg, Int.sign_natCast_of_ne_zero hnz])
      go_wp2_with fail
      go_ret
      exact ⟨by rw [← HR.out]; rfl, HB.out⟩
    | false =>
      have HR := Lib.hid (show (1 : Int) = z.sign by rw [HZ.out]; unfold sgn; rw [if_neg (by decide), Int.sign_natCast_of_ne_zero hnz])
      go_wp2_with fail
      go_ret
      exact ⟨by rw [← HR.out]; rfl, HB.out⟩
end Go.Proofs.YtndkcimdbidgaaaDoor
