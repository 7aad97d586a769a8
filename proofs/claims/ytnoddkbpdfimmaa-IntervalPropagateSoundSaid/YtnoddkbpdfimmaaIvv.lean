/- Valid; the union by what it contains. -/
import Derived.Test.YtnoddkbpdfimmaaIvw
import Derived.Test.YtnoddkbpdfimmaaIvo
import Derived.Lib.QuietBelow
namespace Go.Proofs.Ytnoddkbpdfimmaa
open Go.ChangeShapes Go.WideShapes Go.ChangeAt Go.RowKit Go.ChangeMaps

theorem ofM_ok {T : List Iv} (h : ∀ x ∈ T, x.ok) : ∀ x ∈ ofM T, x.ok := by
  have key : ∀ (T acc : List Iv), (∀ x ∈ T, x.ok) → (∀ x ∈ acc, x.ok) → ∀ x ∈ T.foldl ofStep acc, x.ok := by
    intro T
    induction T with
    | nil => intro acc _ h2 x hx; exact h2 x hx
    | cons y T ih =>
      intro acc h1 h2
      rw [List.foldl_cons]
      exact ih _ (fun x hx => h1 x (by simp [hx])) (ofStep_ok h2 (h1 y (by simp)))
  exact key T [] h (by simp)
instance (S : List Iv) : Decidable (Nrm S) := by unfold Nrm; infer_instance
theorem Of_uni (A : Option Addr) (n c : Nat) (R : List Iv) (w : World) (h : Ivs w A n R) (hn : n ≤ 100000) (hok : ∀ x ∈ R, x.ok) : Calls Try.prog 15 #[.slice A n c] w fun e w' => ∃ v, e = .returned v ∧ ∃ S, Uni R S ∧ (∀ x ∈ S, x.ok) ∧ S.length ≤ n ∧ OR 39 w' w.heap.size v S ∧ Below w.heap.size w w' := by
  refine (Of_any A n c R w h hn hok).mono ?_
  rintro e w' ⟨v, rfl, T, hp, hs, ho, hb⟩
  refine ⟨v, rfl, ofM T, ofM_uni hp hs hok, ofM_ok (fun x hx => hok x ((hp.mem_iff (a := x)).1 hx)), ?_, ho, hb⟩
  have h1 := ofM_len T
  have h2 := hp.length_eq
  have h3 := h.len
  omega
set_option maxRecDepth 100000 in
set_option maxHeartbeats 2000000 in
theorem Valid_any (A : Option Addr) (n c : Nat) (R : List Iv) (w : World) (h : Ivs w A n R) (hn : n ≤ 100000) (hok : ∀ x ∈ R, x.ok) : Calls Try.prog 18 #[.slice A n c] w fun e w' => e = .returned (.bool (decide (Nrm R))) ∧ Below w.heap.size w w' := by
  have HL := Lib.hid h.len
  have HA := Lib.hid h.at
  have HK := Lib.hid hok
  clear h hok
  obtain ⟨r, hr⟩ : ∃ r, decide (Nrm R) = r := ⟨_, rfl⟩
  rw [hr]
  have HR := Lib.hid hr
  clear hr
  go_enter Try.func18, Try.ntmps18
  go_wp2
  go_loopw [7] (fun s7 wr => ∃ (k : Nat), s7 = .int .i64 (k : Int) ∧ k ≤ n ∧ Nrm (R.take k) ∧ Below w.heap.size w wr) (fun s7 _ => n - (intOf s7).toNat)
  case atStart => exact ⟨0, rfl, Nat.zero_le _, by rw [List.take_zero]; exact nrm_nil, Below.refl _ _⟩
  case round =>
    obtain ⟨k, rfl, hkn, hE, hB⟩ := hrel
    have HE := Lib.hid hE
    have HB := Lib.hid hB
    clear hE hB
    by_cases hlt : k < n
    · have hki : (k : Int) < n := by omega
      have hk0 : (0 : Int) ≤ (k : Int) := by omega
      obtain ⟨b, off, rfl, hbl, hc⟩ := HA.out (by omega)
      have hi' : k < R.length := by rw [HL.out]; exact hlt
      obtain ⟨c0, c1⟩ := hc wr HB.out k hi'
      have HCC := Lib.hid hc
      obtain ⟨x, hxe⟩ : ∃ x, R[k] = x := ⟨_, rfl⟩
      have HXE := Lib.hid hxe
      rw [hxe] at c0 c1
      clear hc hxe
      obtain ⟨x0, x1⟩ := x
      simp only at c0 c1
      obtain ⟨X, hX⟩ : ∃ W, W = wr.alloc (.cells #[.int .i64 x0, .int .i64 x1] 39) := ⟨_, rfl⟩
      have X7 := Lib.hid (show Blk X wr.heap.size 39 #[.int .i64 x0, .int .i64 x1] by rw [hX]; exact Blk.new _ _ _)
      have XB := Lib.hid (show Below w.heap.size w X by rw [hX]; exact HB.out.alloc HB.out.size _)
      have g0 : X.cell? ⟨wr.heap.size, 0, none⟩ = some (.int .i64 x0) := X7.out.cell 0
      have g1 : X.cell? ⟨wr.heap.size, 1, none⟩ = some (.int .i64 x1) := X7.out.cell 1
      go_upto_region 4 with fail
      rw [← hX]
      clear hX c0 c1
      have q0 : ∀ d os, (Go.Sort.grow (redrawn X d) os).cell? ⟨wr.heap.size, 0, none⟩ = some (.int .i64 x0) := fun d os => cell_regrown g0 d os
      have q1 : ∀ d os, (Go.Sort.grow (redrawn X d) os).cell? ⟨wr.heap.size, 1, none⟩ = some (.int .i64 x1) := fun d os => cell_regrown g1 d os
      clear g0 g1
      cases hE : Iv.emp ⟨x0, x1⟩
      · have HEM := Lib.hid (fun W => show Calls Try.prog 36 #[(Iv.mk x0 x1).agg] W fun e w' => e = .returned (.bool false) ∧ Below W.heap.size W w' by rw [← hE]; exact empty_any _ W)
        rcases k with _ | p
        · have HAP := HEM
          refine wp_region_quiet_below (by kernel_rfl) (by kernel_rfl) ?_
          repeat (first | go_big_quiet_step ((first | (go_at_call 36; exact Calls.regrown_of (HEM.out _)) | (go_at_call 37; exact Calls.regrown_of (HAP.out _)))) | quiet_step ((first | (go_at_call 36; exact Calls.regrown_of (HEM.out _)) | (go_at_call 37; exact Calls.regrown_of (HAP.out _)))))
          refine wpQuiet_nil ?_
          intro _ hw'
          obtain ⟨⟨dq, osq⟩, hw''⟩ := hw'
          subst hw''
          have HBN := Lib.hid (XB.out.trans ((below_regrown X dq osq).mono XB.out.size))
          clear q0 q1
          have HQ := Lib.hid (nrm_first_ok HE.out hi' (by rw [HXE.out]; exact hE) nofun)
          go_wp2
          go_roundw
          case rel => exact ⟨0 + 1, by go_num, hlt, HQ.out, HBN.out⟩
          case measure => simp only [intOf]; omega
        · have hp1 : (0 : Int) < (p : Int) + 1 := by omega
          have hp0 : (0 : Int) ≤ (p : Int) := by omega
          have hpn : (p : Int) < n := by omega
          obtain ⟨l0c, l1c⟩ := HCC.out X XB.out p (by omega)
          have HLE : Hid (R.getD p ⟨0, 0⟩ = R[p]'(by omega)) := Lib.hid (by simp [List.getD, List.getElem?_eq_getElem (show p < R.length by omega)])
          have HLO := Lib.hid (HK.out _ (List.getElem_mem (show p < R.length by omega)))
          generalize (R[p]'(by omega)) = l at *
          obtain ⟨l0, l1⟩ := l
          simp only at l0c l1c
          have q2 : ∀ d os, (Go.Sort.grow (redrawn X d) os).cell? ⟨b, off + p * 2, none⟩ = some (.int .i64 l0) := fun d os => cell_regrown l0c d os
          have q3 : ∀ d os, (Go.Sort.grow (redrawn X d) os).cell? ⟨b, off + p * 2 + 1, none⟩ = some (.int .i64 l1) := fun d os => cell_regrown l1c d os
          clear l0c l1c
          cases hap : Iv.apt ⟨l0, l1⟩ ⟨x0, x1⟩
          · have HAP := Lib.hid (fun W => show Calls Try.prog 37 #[(Iv.mk l0 l1).agg, (Iv.mk x0 x1).agg] W fun e w' => e = .returned (.bool false) ∧ Below W.heap.size W w' by rw [← hap]; exact apart_any _ _ W HLO.out)
            refine wp_region_quiet_below (by kernel_rfl) (by kernel_rfl) ?_
            repeat (first | go_big_quiet_step ((first | (go_at_call 36; exact Calls.regrown_of (HEM.out _)) | (go_at_call 37; exact Calls.regrown_of (HAP.out _)))) | quiet_step ((first | (go_at_call 36; exact Calls.regrown_of (HEM.out _)) | (go_at_call 37; exact Calls.regrown_of (HAP.out _)))))
            refine wpQuiet_nil ?_
            intro _ hw'
            obtain ⟨⟨dq, osq⟩, hw''⟩ := hw'
            subst hw''
            have HBN := Lib.hid (XB.out.trans ((below_regrown X dq osq).mono XB.out.size))
            clear q0 q1
            have HF := Lib.hid (show r = false by
              rw [← HR.out]
              simp only [decide_eq_false_iff_not]
              exact nrm_bad_apt hi' HK.out (by rw [HLE.out, HXE.out]; exact hap))
            go_wp2
            go_ret
            exact ⟨by rw [HF.out]; rfl, HBN.out⟩
          · have HAP := Lib.hid (fun W => show Calls Try.prog 37 #[(Iv.mk l0 l1).agg, (Iv.mk x0 x1).agg] W fun e w' => e = .returned (.bool true) ∧ Below W.heap.size W w' by rw [← hap]; exact apart_any _ _ W HLO.out)
            refine wp_region_quiet_below (by kernel_rfl) (by kernel_rfl) ?_
            repeat (first | go_big_quiet_step ((first | (go_at_call 36; exact Calls.regrown_of (HEM.out _)) | (go_at_call 37; exact Calls.regrown_of (HAP.out _)))) | quiet_step ((first | (go_at_call 36; exact Calls.regrown_of (HEM.out _)) | (go_at_call 37; exact Calls.regrown_of (HAP.out _)))))
            refine wpQuiet_nil ?_
            intro _ hw'
            obtain ⟨⟨dq, osq⟩, hw''⟩ := hw'
            subst hw''
            have HBN := Lib.hid (XB.out.trans ((below_regrown X dq osq).mono XB.out.size))
            clear q0 q1
            have HQ := Lib.hid (nrm_first_ok HE.out hi' (by rw [HXE.out]; exact hE) (fun q hq => by rw [show q = p by omega, HLE.out, HXE.out]; exact hap))
            go_wp2
            go_roundw
            case rel => exact ⟨p + 1 + 1, by go_num, hlt, HQ.out, HBN.out⟩
            case measure => simp only [intOf]; omega
      · have HEM := Lib.hid (fun W => show Calls Try.prog 36 #[(Iv.mk x0 x1).agg] W fun e w' => e = .returned (.bool true) ∧ Below W.heap.size W w' by rw [← hE]; exact empty_any _ W)
        have HAP := HEM
        refine wp_region_quiet_below (by kernel_rfl) (by kernel_rfl) ?_
        repeat (first | go_big_quiet_step ((first | (go_at_call 36; exact Calls.regrown_of (HEM.out _)) | (go_at_call 37; exact Calls.regrown_of (HAP.out _)))) | quiet_step ((first | (go_at_call 36; exact Calls.regrown_of (HEM.out _)) | (go_at_call 37; exact Calls.regrown_of (HAP.out _)))))
        refine wpQuiet_nil ?_
        intro _ hw'
        obtain ⟨⟨dq, osq⟩, hw''⟩ := hw'
        subst hw''
        have HBN := Lib.hid (XB.out.trans ((below_regrown X dq osq).mono XB.out.size))
        clear q0 q1
        have HF := Lib.hid (show r = false by
          rw [← HR.out]
          simp only [decide_eq_false_iff_not]
          exact nrm_bad_emp hi' (by rw [HXE.out]; exact hE))
        go_wp2
        go_ret
        exact ⟨by rw [HF.out]; rfl, HBN.out⟩
    · obtain rfl : k = n := by omega
      have hlt2 : ¬ ((k : Int) < (k : Int)) := by omega
      have HF := Lib.hid (show r = true from by
        have h := HE.out
        rw [List.take_of_length_le (by rw [HL.out]; exact Nat.le_refl _)] at h
        rw [← HR.out]
        simpa using h)
      go_wp2
      go_ret
      exact ⟨by rw [HF.out]; rfl, HB.out⟩
set_option maxRecDepth 100000 in
set_option maxHeartbeats 2000000 in
theorem RValid_any (A : Option Addr) (n c : Nat) (R : List Iv) (w : World) (h : Ivs w A n R) (hn : n ≤ 100000) (hok : ∀ x ∈ R, x.ok) : Calls Try.prog 19 #[.slice A n c] w fun e w' => e = .returned (.bool (decide (Nrm R))) ∧ Below w.heap.size w w' := by
  have HL := Lib.hid h.len
  have HI := Lib.hid h
  have CO := Lib.hid (ROf_any A n c R w h hn hok)
  clear h hok
  obtain ⟨r, hr⟩ : ∃ r, decide (Nrm R) = r := ⟨_, rfl⟩
  rw [hr]
  have HR := Lib.hid hr
  clear hr
  go_enter Try.func19, Try.ntmps19
  go_wp2_with fail
  refine CO.out.mono ?_
  rintro e w1 ⟨v, rfl, S, hu, -, -, ho, hb⟩
  obtain ⟨A1, c1, ev, I1, -, -⟩ := ho.ivs
  subst ev
  have HU := Lib.hid (show decide (R = S) = r by
    rw [← HR.out, decide_eq_decide]
    exact ⟨fun e => by rw [e]; exact hu.1, fun h => uni_eq (nrm_self h) hu⟩)
  have HB := Lib.hid hb
  have SM := Lib.hid (RSame_any A A1 n S.length c c1 R S w1 (HI.out.below hb) I1 hn)
  rw [HU.out] at SM
  generalize S.length = q at *
  clear hu ho hb I1 CO
  go_wp2_with fail
  refine SM.out.mono ?_
  rintro e w2 ⟨rfl, hb⟩
  have HB2 := Lib.hid (HB.out.trans (hb.mono HB.out.size))
  clear hb SM
  go_wp2
  go_ret
  exact ⟨rfl, HB2.out⟩
end Go.Proofs.Ytnoddkbpdfimmaa
