/- Valid values, as the package says. -/
import Derived.Test.YtkigdglipoeaaaaDoorVld
namespace Go.Proofs.YtkigdglipoeaaaaDoor
open Go.ChangeShapes Go.WideShapes Go.ChangeAt Go.RowKit Go.ChangeMaps

set_option maxRecDepth 100000 in
set_option maxHeartbeats 2000000 in
theorem VValid_any (k n : Int) (s : ByteArray) (w : World) (hs : s.size ≤ 9223372036854775807) :
    Calls Tryd.prog 13 #[.agg #[.int .i64 k, .int .i64 n, .string s]] w fun e w' => e = .returned (.bool (V3.valid ⟨k, n, s⟩)) ∧ Below w.heap.size w w' := by
  have E := empty_list s
  have HP := Lib.hid (fun w => printable_any s w hs)
  obtain ⟨p, hp⟩ : ∃ p, prB s.data.toList = p := ⟨_, rfl⟩
  rw [hp] at HP
  have HV : Hid (V3.valid ⟨k, n, s⟩ = if k = 0 then decide (n = 0) && decide (s.size = 0) else if k = 1 then decide (s.size = 0) else if k = 2 then decide (n = 0) && p && decide (s.size ≤ 16) else false) := by
    refine Lib.hid ?_
    rw [← hp]; rfl
  clear hp
  have c0 := fun d os => cell_regrown (newcell (w := w) (T := 23) (cs := #[.int .i64 k, .int .i64 n, .string s]) (g := w.heap.size) 0 (.int .i64 k) rfl rfl) d os
  have c1 := fun d os => cell_regrown (newcell (w := w) (T := 23) (cs := #[.int .i64 k, .int .i64 n, .string s]) (g := w.heap.size) 1 (.int .i64 n) rfl rfl) d os
  have c2 := fun d os => cell_regrown (newcell (w := w) (T := 23) (cs := #[.int .i64 k, .int .i64 n, .string s]) (g := w.heap.size) 2 (.string s) rfl rfl) d os
  have HB := Lib.hid ((Below.refl w.heap.size w).alloc (Nat.le_refl _) (.cells #[.int .i64 k, .int .i64 n, .string s] 23))
  by_cases h0 : k = 0
  · subst h0
    rw [if_pos rfl] at HV
    by_cases hn : n = 0
    · subst hn
      rw [decide_eq_true rfl, Bool.true_and] at HV
      rcases hz : decide (s.size = 0) with _ | _ <;> rw [hz] at E HV
      all_goals
        rw [HV.out]
        clear HV hz
        go_enter Tryd.func13, Tryd.ntmps13
        go_wp2
        go_ret
        exact ⟨rfl, HB.out⟩
    · have hn2 : (n == 0) = false := by simpa using hn
      rw [decide_eq_false hn, Bool.false_and] at HV
      rw [HV.out]
      go_enter Tryd.func13, Tryd.ntmps13
      go_wp2
      go_ret
      exact ⟨rfl, HB.out⟩
  · have b0 : (k == 0) = false := by simpa using h0
    rw [if_neg h0] at HV
    by_cases h1 : k = 1
    · subst h1
      rw [if_pos rfl] at HV
      rcases hz : decide (s.size = 0) with _ | _ <;> rw [hz] at E HV
      all_goals
        rw [HV.out]
        clear HV hz
        go_enter Tryd.func13, Tryd.ntmps13
        go_wp2
        refine wp_region_quiet_below (by kernel_rfl) (by kernel_rfl) ?_
        repeat (first | go_big_quiet_step ((first | (go_at_call 32; exact Calls.regrown_of (Int_any _ _)) | (go_at_call 33; exact Calls.regrown_of (Text_any _ _)) | (go_at_call 34; exact Calls.regrown_of ((HP.out _).mono fun _ _ ⟨he, hw⟩ => ⟨he, by subst hw; exact Below.refl _ _⟩)))) | quiet_step ((first | (go_at_call 32; exact Calls.regrown_of (Int_any _ _)) | (go_at_call 33; exact Calls.regrown_of (Text_any _ _)) | (go_at_call 34; exact Calls.regrown_of ((HP.out _).mono fun _ _ ⟨he, hw⟩ => ⟨he, by subst hw; exact Below.refl _ _⟩)))))
        refine wpQuiet_nil ?_
        intro _ hw'
        obtain ⟨⟨dq, osq⟩, hw''⟩ := hw'
        subst hw''
        go_wp2
        go_ret
        exact ⟨rfl, HB.out.trans ((below_regrown _ _ _).mono HB.out.size)⟩
    · have b1 : (k == 1) = false := by simpa using h1
      rw [if_neg h1] at HV
      by_cases h2 : k = 2
      · subst h2
        rw [if_pos rfl] at HV
        by_cases hn : n = 0
        · subst hn
          rw [decide_eq_true rfl, Bool.true_and] at HV
          by_cases hl : s.size ≤ 16
          · have hd : decide (s.size ≤ 16) = true := decide_eq_true hl
            have hd2 : decide ((s.size : Int) ≤ 16) = true := decide_eq_true (by omega)
            rw [decide_eq_true hl, Bool.and_true] at HV
            rw [HV.out]
            go_enter Tryd.func13, Tryd.ntmps13
            go_wp2
            refine wp_region_quiet_below (by kernel_rfl) (by kernel_rfl) ?_
            repeat (first | go_big_quiet_step ((first | (go_at_call 32; exact Calls.regrown_of (Int_any _ _)) | (go_at_call 33; exact Calls.regrown_of (Text_any _ _)) | (go_at_call 34; exact Calls.regrown_of ((HP.out _).mono fun _ _ ⟨he, hw⟩ => ⟨he, by subst hw; exact Below.refl _ _⟩)))) | quiet_step ((first | (go_at_call 32; exact Calls.regrown_of (Int_any _ _)) | (go_at_call 33; exact Calls.regrown_of (Text_any _ _)) | (go_at_call 34; exact Calls.regrown_of ((HP.out _).mono fun _ _ ⟨he, hw⟩ => ⟨he, by subst hw; exact Below.refl _ _⟩)))))
            refine wpQuiet_nil ?_
            intro _ hw'
            obtain ⟨⟨dq, osq⟩, hw''⟩ := hw'
            subst hw''
            go_wp2
            go_ret
            exact ⟨rfl, HB.out.trans ((below_regrown _ _ _).mono HB.out.size)⟩
          · have hd : decide (s.size ≤ 16) = false := decide_eq_false hl
            have hd2 : decide ((s.size : Int) ≤ 16) = false := decide_eq_false (by omega)
            rw [decide_eq_false hl, Bool.and_false] at HV
            rw [HV.out]
            go_enter Tryd.func13, Tryd.ntmps13
            go_wp2
            refine wp_region_quiet_below (by kernel_rfl) (by kernel_rfl) ?_
            repeat (first | go_big_quiet_step ((first | (go_at_call 32; exact Calls.regrown_of (Int_any _ _)) | (go_at_call 33; exact Calls.regrown_of (Text_any _ _)) | (go_at_call 34; exact Calls.regrown_of ((HP.out _).mono fun _ _ ⟨he, hw⟩ => ⟨he, by subst hw; exact Below.refl _ _⟩)))) | quiet_step ((first | (go_at_call 32; exact Calls.regrown_of (Int_any _ _)) | (go_at_call 33; exact Calls.regrown_of (Text_any _ _)) | (go_at_call 34; exact Calls.regrown_of ((HP.out _).mono fun _ _ ⟨he, hw⟩ => ⟨he, by subst hw; exact Below.refl _ _⟩)))))
            refine wpQuiet_nil ?_
            intro _ hw'
            obtain ⟨⟨dq, osq⟩, hw''⟩ := hw'
            subst hw''
            go_wp2
            go_ret
            exact ⟨rfl, HB.out.trans ((below_regrown _ _ _).mono HB.out.size)⟩
        · have hn2 : (n == 0) = false := by simpa using hn
          rw [decide_eq_false hn, Bool.false_and, Bool.false_and] at HV
          rw [HV.out]
          go_enter Tryd.func13, Tryd.ntmps13
          go_wp2
          refine wp_region_quiet_below (by kernel_rfl) (by kernel_rfl) ?_
          repeat (first | go_big_quiet_step ((first | (go_at_call 32; exact Calls.regrown_of (Int_any _ _)) | (go_at_call 33; exact Calls.regrown_of (Text_any _ _)) | (go_at_call 34; exact Calls.regrown_of ((HP.out _).mono fun _ _ ⟨he, hw⟩ => ⟨he, by subst hw; exact Below.refl _ _⟩)))) | quiet_step ((first | (go_at_call 32; exact Calls.regrown_of (Int_any _ _)) | (go_at_call 33; exact Calls.regrown_of (Text_any _ _)) | (go_at_call 34; exact Calls.regrown_of ((HP.out _).mono fun _ _ ⟨he, hw⟩ => ⟨he, by subst hw; exact Below.refl _ _⟩)))))
          refine wpQuiet_nil ?_
          intro _ hw'
          obtain ⟨⟨dq, osq⟩, hw''⟩ := hw'
          subst hw''
          go_wp2
          go_ret
          exact ⟨rfl, HB.out.trans ((below_regrown _ _ _).mono HB.out.size)⟩
      · have b2 : (k == 2) = false := by simpa using h2
        rw [if_neg h2] at HV
        rw [HV.out]
        go_enter Tryd.func13, Tryd.ntmps13
        go_wp2
        go_ret
        exact ⟨rfl, HB.out⟩
end Go.Proofs.YtkigdglipoeaaaaDoor
