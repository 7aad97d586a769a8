/- Rows compared. -/
import Derived.Test.YtkigdglipoeaaaaDoorVcm
namespace Go.Proofs.YtkigdglipoeaaaaDoor
open Go.ChangeShapes Go.WideShapes Go.ChangeAt Go.RowKit Go.ChangeMaps

set_option maxRecDepth 100000 in
set_option maxHeartbeats 2000000 in
theorem VRows_any (A : Option Addr) (n c : Nat) (R : List V3) (D : Option Addr) (m d : Nat) (S : List V3) (w : World) (hr : RowAt w A n R) (hn : n ≤ 9223372036854775807) (hR : ∀ x ∈ R, x.ok) (hs : RowAt w D m S) (hm : m ≤ 9223372036854775807) (hS : ∀ x ∈ S, x.ok) :
    Calls Tryd.prog 18 #[.slice A n c, .slice D m d] w fun e w' => e = .returned (.int .i64 (rcmp R S)) ∧ Below w.heap.size w w' := by
  have HL := Lib.hid hr.1
  have HM := Lib.hid hs.1
  rcases (show n = 0 ∨ m = 0 ∨ (0 < n ∧ 0 < m) by omega) with h0 | h0 | ⟨h0, h0'⟩
  · subst h0
    have H := Lib.hid (lex_end vcmp R S 0 (by omega) (by omega) (.inl hr.1.symm))
    clear hr hs
    go_enter Tryd.func18, Tryd.ntmps18
    go_wp2
    refine wp_loop_rounds 1 ?_
    rw [rounds_succ]
    go_wp2_with (go_at_call 37; refine (Cmp3_any _ _ _).mono ?_; rintro e w' ⟨rfl, rfl⟩)
    go_ret
    exact ⟨ret_int (by have := H.out; rw [HL.out, HM.out] at this; exact this.symm), Below.refl _ _⟩
  · subst h0
    have H := Lib.hid (lex_end vcmp R S 0 (by omega) (by omega) (.inr hs.1.symm))
    clear hr hs
    go_enter Tryd.func18, Tryd.ntmps18
    go_wp2
    refine wp_loop_rounds 1 ?_
    rw [rounds_succ]
    go_wp2_with (go_at_call 37; refine (Cmp3_any _ _ _).mono ?_; rintro e w' ⟨rfl, rfl⟩)
    all_goals
      go_ret
      exact ⟨ret_int (by have := H.out; rw [HL.out, HM.out] at this; exact this.symm), Below.refl _ _⟩
  · obtain ⟨b, off, rfl, hb, hc⟩ := hr.2 h0
    obtain ⟨g, of2, rfl, hg, hc2⟩ := hs.2 h0'
    clear hr hs
    go_enter Tryd.func18, Tryd.ntmps18
    go_wp2
    go_loopw [12] (fun i wr => ∃ k : Nat, k ≤ n ∧ k ≤ m ∧ i = .int .i64 k ∧ rcmp R S = lex vcmp (R.drop k) (S.drop k) ∧ Below w.heap.size w wr) (fun i _ => n - (intOf i).toNat)
    case atStart => exact ⟨0, Nat.zero_le _, Nat.zero_le _, rfl, rfl, Below.refl _ _⟩
    case round =>
      obtain ⟨k, hk, hk2, rfl, hcm, hB⟩ := hrel
      by_cases h1 : k < n
      · by_cases h2 : k < m
        · have hkR : k < R.length := by rw [HL.out]; exact h1
          have hkS : k < S.length := by rw [HM.out]; exact h2
          have H := Lib.hid (hcm.trans (lex_step vcmp _ _ k hkR hkS))
          obtain ⟨c0, c1, c2⟩ := hc k hkR
          obtain ⟨d0, d1, d2⟩ := hc2 k hkS
          have c0 := fun d os => cell_regrown ((hB.cell (p := ⟨b, off + k * 3, none⟩) hb).trans c0) d os
          have c1 := fun d os => cell_regrown ((hB.cell (p := ⟨b, off + k * 3 + 1, none⟩) hb).trans c1) d os
          have c2 := fun d os => cell_regrown ((hB.cell (p := ⟨b, off + k * 3 + 2, none⟩) hb).trans c2) d os
          have d0 := fun d os => cell_regrown ((hB.cell (p := ⟨g, of2 + k * 3, none⟩) hg).trans d0) d os
          have d1 := fun d os => cell_regrown ((hB.cell (p := ⟨g, of2 + k * 3 + 1, none⟩) hg).trans d1) d os
          have d2 := fun d os => cell_regrown ((hB.cell (p := ⟨g, of2 + k * 3 + 2, none⟩) hg).trans d2) d os
          have hx := (hR R[k] (List.getElem_mem _)).2.2.2.2
          have hy := (hS S[k] (List.getElem_mem _)).2.2.2.2
          have HB := Lib.hid hB
          clear hcm hB
          generalize R[k] = x at *
          generalize S[k] = y at *
          rcases x with ⟨xk, xn, xs⟩
          rcases y with ⟨yk, yn, ys⟩
          simp only at c0 c1 c2 d0 d1 d2 hx hy
          have HC := Lib.hid (fun w => VCmp_any xk xn xs yk yn ys w)
          generalize vcmp ⟨xk, xn, xs⟩ ⟨yk, yn, ys⟩ = z at *
          by_cases hz : z = 0
          · have H := Lib.hid (H.out.trans (if_pos hz))
            subst hz
            go_wp2
            refine wp_region_quiet_below (by kernel_rfl) (by kernel_rfl) ?_
            repeat (go_big_quiet_step ((go_at_call 15; exact Calls.regrown_of (HC.out _))))
            refine wpQuiet_nil ?_
            intro _ hw'
            obtain ⟨⟨dq, osq⟩, hw''⟩ := hw'
            subst hw''
            go_wp2
            go_roundw
            case rel => exact ⟨k + 1, by omega, by omega, by go_num, H.out, HB.out.trans ((below_regrown _ _ _).mono HB.out.size)⟩
            case measure => simp [intOf]; omega
          · have H := Lib.hid (H.out.trans (if_neg hz))
            have hz2 : (z != 0) = true := by simpa using hz
            go_wp2
            refine wp_region_quiet_below (by kernel_rfl) (by kernel_rfl) ?_
            repeat (go_big_quiet_step ((go_at_call 15; exact Calls.regrown_of (HC.out _))))
            refine wpQuiet_nil ?_
            intro _ hw'
            obtain ⟨⟨dq, osq⟩, hw''⟩ := hw'
            subst hw''
            go_wp2
            go_ret
            exact ⟨ret_int H.out.symm, HB.out.trans ((below_regrown _ _ _).mono HB.out.size)⟩
        · have H := Lib.hid (hcm.trans (lex_end vcmp _ _ k (by rw [HL.out]; exact hk) (by rw [HM.out]; exact hk2) (.inr (by rw [HM.out]; omega))))
          have HB := Lib.hid hB
          clear hcm hB
          go_wp2_with (go_at_call 37; refine (Cmp3_any _ _ _).mono ?_; rintro e w' ⟨rfl, rfl⟩)
          go_ret
          exact ⟨ret_int (by rw [H.out, HL.out, HM.out]), HB.out⟩
      · have H := Lib.hid (hcm.trans (lex_end vcmp _ _ k (by rw [HL.out]; exact hk) (by rw [HM.out]; exact hk2) (.inl (by rw [HL.out]; omega))))
        have HB := Lib.hid hB
        clear hcm hB
        go_wp2_with (go_at_call 37; refine (Cmp3_any _ _ _).mono ?_; rintro e w' ⟨rfl, rfl⟩)
        go_ret
        exact ⟨ret_int (by rw [H.out, HL.out, HM.out]), HB.out⟩
end Go.Proofs.YtkigdglipoeaaaaDoor
