/- The next token, of the reference: numbers. -/
import Derived.Test.YtdkkflmhpncglaaDoorLrb
namespace Go.Proofs.YtdkkflmhpncglaaDoor
open Go.ChangeShapes Go.WideShapes Go.ChangeAt Go.RowKit Go.ChangeMaps

set_option maxRecDepth 100000 in
set_option maxHeartbeats 2000000 in
theorem RNext_num (s : ByteArray) (p : Nat) (w : World) (hs : s.size ≤ 100000) (hp : p < s.size) (hl : ltrN s[p].toNat = false) (hdg0 : dgtN s[p].toNat = true) : Calls Tryd.prog 26 #[.string s, .int .i64 (p : Int)] w fun e w' => e = .returned ((numR ((lst s).drop p)).ref p) ∧ Below w.heap.size w w' := by
  have HL := Lib.hid (lst_len s)
  have hpi : (p : Int) < s.size := by omega
  have hp0 : (0 : Int) ≤ (p : Int) := by omega
  have CLX0 := Lib.hid (letter_any s[p].toNat)
  have CDX0 := Lib.hid (digit_any s[p].toNat)
  rw [hl] at CLX0
  rw [hdg0] at CDX0
  have CD := Lib.hid (fun (x : Nat) w => digit_any x w)
  have CL := Lib.hid (fun (x : Nat) w => letter_any x w)
  have HR0 := Lib.hid (show numR ((lst s).drop p) = numAt s[p] (runP dgt ((lst s).drop p) 0) (lst s)[p + runP dgt ((lst s).drop p) 0]? (((lst s).drop p).take (runP dgt ((lst s).drop p) 0)) by
    have h0 : p < (lst s).length := by rw [lst_len]; exact hp
    have e0 : ((lst s).drop p).getD 0 0 = s[p] := by rw [← lst_get s p hp h0]; simp [List.getD, List.getElem?_eq_getElem h0]
    unfold numR
    rw [e0, List.getElem?_drop])
  have HM := Lib.hid (runP_drop dgt (lst s) p)
  obtain ⟨res, hres⟩ : ∃ z, numR ((lst s).drop p) = z := ⟨_, rfl⟩
  rw [hres] at HR0
  rw [hres]
  clear hres
  generalize runP dgt ((lst s).drop p) 0 = m at *
  obtain ⟨W0, hW0⟩ : ∃ W, W = w.alloc (.cells #[.int .i64 0, .string ⟨#[]⟩, .int .i64 0] 43) := ⟨_, rfl⟩
  have BW0 := Lib.hid (show Below w.heap.size w W0 by rw [hW0]; exact (Below.refl _ w).alloc (Nat.le_refl _) _)
  have ZW0 := Lib.hid (show Blk W0 w.heap.size 43 #[.int .i64 0, .string ⟨#[]⟩, .int .i64 0] by rw [hW0]; exact Blk.new _ _ _)
  have zf : ∀ j, W0.frozen? ⟨w.heap.size, j, none⟩ = false := fun j => Joins.unfrozen_of_block ZW0.out _
  have c0 : W0.cell? ⟨w.heap.size, 0, none⟩ = some (.int .i64 0) := ZW0.out.cell 0
  have c1 : W0.cell? ⟨w.heap.size, 1, none⟩ = some (.string ⟨#[]⟩) := ZW0.out.cell 1
  have c2 : W0.cell? ⟨w.heap.size, 2, none⟩ = some (.int .i64 0) := ZW0.out.cell 2
  go_enter Tryd.func26, Tryd.ntmps26
  go_upto_region 1 with fail
  rw [← hW0]
  clear hW0
  go_wp2_with fail
  refine (CLX0.out _).mono ?_
  rintro e wa ⟨rfl, hw⟩
  replace hw := hw.symm
  subst hw
  go_wp2_with fail
  refine (CDX0.out _).mono ?_
  rintro e wb ⟨rfl, hw⟩
  replace hw := hw.symm
  subst hw
  go_wp2
  go_loop [7] (fun s5 => ∃ k : Nat, p ≤ k ∧ k ≤ s.size ∧ s5 = .int .i64 (k : Int) ∧ runP dgt (lst s) k = p + m) (fun s5 => s.size - (intOf s5).toNat)
  case atStart => exact ⟨p, Nat.le_refl _, by omega, rfl, HM.out⟩
  case round =>
    obtain ⟨k, hk1, hkn, rfl, hE⟩ := hrel
    have HE := Lib.hid hE
    clear hE
    have hk0 : (0 : Int) ≤ (k : Int) := by omega
    have hpk : (p : Int) ≤ (k : Int) := by omega
    have hkn2 : (k : Int) ≤ s.size := by omega
    obtain ⟨d, hd⟩ : ∃ d, k = p + d := ⟨k - p, by omega⟩
    have HDD := Lib.hid (show k = p + d from hd)
    have hwd : IntKind.i64.wrap ((k : Int) - (p : Int)) = (d : Int) := by rw [IntKind.wrap_i64]; omega
    clear hd
    have HEX := Lib.hid (show (⟨(((lst s).drop p).take d).toArray⟩ : ByteArray) = s.extract p k by rw [← ext_of, HDD.out, Nat.add_sub_cancel_left])
    have HEL := Lib.hid (show (s.extract p k).toList = ((lst s).drop p).take d by rw [tol, lst_extract, HDD.out, Nat.add_sub_cancel_left])
    have HN := Lib.hid (fun (h : runP dgt (lst s) k = k) => show m = d by have h1 := HE.out; have h2 := HDD.out; omega)
    by_cases hlt : k < s.size
    · have hkl : k < (lst s).length := by rw [HL.out]; exact hlt
      have hki : (k : Int) < s.size := by omega
      have CDX := Lib.hid (CD.out s[k].toNat)
      have CLX := Lib.hid (CL.out s[k].toNat)
      cases hdg : dgtN s[k].toNat
      · rw [hdg] at CDX
        have HR := Lib.hid (show numAt s[p] d (some s[k]) (((lst s).drop p).take d) = res by
          rw [HR0.out, HN.out (runP_no hkl (by rw [lst_get s k hlt hkl]; exact hdg)), ← HDD.out, List.getElem?_eq_getElem hkl, lst_get s k hlt hkl])
        go_wp2_with fail
        refine (CDX.out _).mono ?_
        rintro e wc ⟨rfl, hw⟩
        replace hw := hw.symm
        subst hw
        cases h1 : decide ((1 : Int) < d)
        · skip
          cases hL : ltrN s[k].toNat
          · rw [hL] at CLX
            cases hU : ((s[k].toNat : Int) == 95)
            · skip
              go_wp2_with fail
              refine (CLX.out _).mono ?_
              rintro e w2 ⟨rfl, hw⟩
              replace hw := hw.symm
              subst hw
              cases h10 : decide ((10 : Int) < d)
              · cases e10 : ((d : Int) == 10)
                · have HF := Lib.hid (show (⟨3, ((lst s).drop p).take d, d, 0⟩ : TR) = res by rw [← HR.out, numAt_eq _ _ _ _ _ _ _ _ _ _ _ _ h1 rfl (show _ = (true && false) by show (_ || _) = _; rw [hL, hU]; rfl) h10 e10 rfl rfl]; rfl)
                  have S3 := store3 ZW0.out (.int .i64 3) (.string (s.extract p k)) (.int .i64 (p : Int))
                  have HX := Lib.hid (S3.2 _ _ BW0.out (Nat.le_refl _))
                  have HK := Lib.hid S3.1
                  clear S3
                  go_wp2
                  refine bodyPost_ret (results_c3 rfl _ _ _ w.heap.size _ rfl (load43 HK.out rfl)) rfl ?_
                  rw [← HF.out]
                  exact ⟨by rw [ref_ok, HEX.out, ← HDD.out]; rfl, HX.out⟩
                · cases b1 : Op.bytesLess (((lst s).drop p).take d) maxT
                  · cases b2 : (((lst s).drop p).take d == maxT)
                    · have HF := Lib.hid (show (⟨0, [], 0, 3⟩ : TR) = res by rw [← HR.out, numAt_eq _ _ _ _ _ _ _ _ _ _ _ _ h1 rfl (show _ = (true && false) by show (_ || _) = _; rw [hL, hU]; rfl) h10 e10 b1 b2]; rfl)
                      rw [← HEL.out] at b1 b2
                      unfold maxT at b1 b2
                      have S3 := store3 ZW0.out (.int .i64 0) (.string ⟨#[]⟩) (.int .i64 0)
                      have HX := Lib.hid (S3.2 _ _ BW0.out (Nat.le_refl _))
                      have HK := Lib.hid S3.1
                      clear S3
                      go_wp2
                      refine bodyPost_ret (results_c3 rfl _ _ _ w.heap.size _ rfl (load43 HK.out rfl)) rfl ?_
                      rw [← HF.out]
                      exact ⟨by rw [ref_err 3 (by decide)]; rfl, HX.out⟩
                    · have HF := Lib.hid (show (⟨3, ((lst s).drop p).take d, d, 0⟩ : TR) = res by rw [← HR.out, numAt_eq _ _ _ _ _ _ _ _ _ _ _ _ h1 rfl (show _ = (true && false) by show (_ || _) = _; rw [hL, hU]; rfl) h10 e10 b1 b2]; rfl)
                      rw [← HEL.out] at b1 b2
                      unfold maxT at b1 b2
                      have S3 := store3 ZW0.out (.int .i64 3) (.string (s.extract p k)) (.int .i64 (p : Int))
                      have HX := Lib.hid (S3.2 _ _ BW0.out (Nat.le_refl _))
                      have HK := Lib.hid S3.1
                      clear S3
                      go_wp2
                      refine bodyPost_ret (results_c3 rfl _ _ _ w.heap.size _ rfl (load43 HK.out rfl)) rfl ?_
                      rw [← HF.out]
                      exact ⟨by rw [ref_ok, HEX.out, ← HDD.out]; rfl, HX.out⟩
                  · have HF := Lib.hid (show (⟨3, ((lst s).drop p).take d, d, 0⟩ : TR) = res by rw [← HR.out, numAt_eq _ _ _ _ _ _ _ _ _ _ _ _ h1 rfl (show _ = (true && false) by show (_ || _) = _; rw [hL, hU]; rfl) h10 e10 b1 rfl]; rfl)
                    rw [← HEL.out] at b1
                    unfold maxT at b1
                    have S3 := store3 ZW0.out (.int .i64 3) (.string (s.extract p k)) (.int .i64 (p : Int))
                    have HX := Lib.hid (S3.2 _ _ BW0.out (Nat.le_refl _))
                    have HK := Lib.hid S3.1
                    clear S3
                    go_wp2
                    refine bodyPost_ret (results_c3 rfl _ _ _ w.heap.size _ rfl (load43 HK.out rfl)) rfl ?_
                    rw [← HF.out]
                    exact ⟨by rw [ref_ok, HEX.out, ← HDD.out]; rfl, HX.out⟩
              · have HF := Lib.hid (show (⟨0, [], 0, 3⟩ : TR) = res by rw [← HR.out, numAt_eq _ _ _ _ _ _ _ _ _ _ _ _ h1 rfl (show _ = (true && false) by show (_ || _) = _; rw [hL, hU]; rfl) h10 rfl rfl rfl]; rfl)
                have S3 := store3 ZW0.out (.int .i64 0) (.string ⟨#[]⟩) (.int .i64 0)
                have HX := Lib.hid (S3.2 _ _ BW0.out (Nat.le_refl _))
                have HK := Lib.hid S3.1
                clear S3
                go_wp2
                refine bodyPost_ret (results_c3 rfl _ _ _ w.heap.size _ rfl (load43 HK.out rfl)) rfl ?_
                rw [← HF.out]
                exact ⟨by rw [ref_err 3 (by decide)]; rfl, HX.out⟩
            · have HF := Lib.hid (show (⟨0, [], 0, 2⟩ : TR) = res by rw [← HR.out, numAt_eq _ _ _ _ _ _ _ _ _ _ _ _ h1 rfl (show _ = (true && true) by show (_ || _) = _; rw [hL, hU]; rfl) rfl rfl rfl rfl]; first | rfl | (simp))
              go_wp2_with fail
              refine (CLX.out _).mono ?_
              rintro e w2 ⟨rfl, hw⟩
              replace hw := hw.symm
              subst hw
              have S3 := store3 ZW0.out (.int .i64 0) (.string ⟨#[]⟩) (.int .i64 0)
              have HX := Lib.hid (S3.2 _ _ BW0.out (Nat.le_refl _))
              have HK := Lib.hid S3.1
              clear S3
              go_wp2
              refine bodyPost_ret (results_c3 rfl _ _ _ w.heap.size _ rfl (load43 HK.out rfl)) rfl ?_
              rw [← HF.out]
              exact ⟨by rw [ref_err 2 (by decide)]; rfl, HX.out⟩
          · rw [hL] at CLX
            have HF := Lib.hid (show (⟨0, [], 0, 2⟩ : TR) = res by rw [← HR.out, numAt_eq _ _ _ _ _ _ _ _ _ _ _ _ h1 rfl (show _ = (true && true) by show (_ || _) = _; rw [hL]; rfl) rfl rfl rfl rfl]; first | rfl | (simp))
            go_wp2_with fail
            refine (CLX.out _).mono ?_
            rintro e w2 ⟨rfl, hw⟩
            replace hw := hw.symm
            subst hw
            have S3 := store3 ZW0.out (.int .i64 0) (.string ⟨#[]⟩) (.int .i64 0)
            have HX := Lib.hid (S3.2 _ _ BW0.out (Nat.le_refl _))
            have HK := Lib.hid S3.1
            clear S3
            go_wp2
            refine bodyPost_ret (results_c3 rfl _ _ _ w.heap.size _ rfl (load43 HK.out rfl)) rfl ?_
            rw [← HF.out]
            exact ⟨by rw [ref_err 2 (by decide)]; rfl, HX.out⟩
        · cases h2 : ((s[p].toNat : Int) == 48)
          · skip
            cases hL : ltrN s[k].toNat
            · rw [hL] at CLX
              cases hU : ((s[k].toNat : Int) == 95)
              · skip
                go_wp2_with fail
                refine (CLX.out _).mono ?_
                rintro e w2 ⟨rfl, hw⟩
                replace hw := hw.symm
                subst hw
                cases h10 : decide ((10 : Int) < d)
                · cases e10 : ((d : Int) == 10)
                  · have HF := Lib.hid (show (⟨3, ((lst s).drop p).take d, d, 0⟩ : TR) = res by rw [← HR.out, numAt_eq _ _ _ _ _ _ _ _ _ _ _ _ h1 h2 (show _ = (true && false) by show (_ || _) = _; rw [hL, hU]; rfl) h10 e10 rfl rfl]; rfl)
                    have S3 := store3 ZW0.out (.int .i64 3) (.string (s.extract p k)) (.int .i64 (p : Int))
                    have HX := Lib.hid (S3.2 _ _ BW0.out (Nat.le_refl _))
                    have HK := Lib.hid S3.1
                    clear S3
                    go_wp2
                    refine bodyPost_ret (results_c3 rfl _ _ _ w.heap.size _ rfl (load43 HK.out rfl)) rfl ?_
                    rw [← HF.out]
                    exact ⟨by rw [ref_ok, HEX.out, ← HDD.out]; rfl, HX.out⟩
                  · cases b1 : Op.bytesLess (((lst s).drop p).take d) maxT
                    · cases b2 : (((lst s).drop p).take d == maxT)
                      · have HF := Lib.hid (show (⟨0, [], 0, 3⟩ : TR) = res by rw [← HR.out, numAt_eq _ _ _ _ _ _ _ _ _ _ _ _ h1 h2 (show _ = (true && false) by show (_ || _) = _; rw [hL, hU]; rfl) h10 e10 b1 b2]; rfl)
                        rw [← HEL.out] at b1 b2
                        unfold maxT at b1 b2
                        have S3 := store3 ZW0.out (.int .i64 0) (.string ⟨#[]⟩) (.int .i64 0)
                        have HX := Lib.hid (S3.2 _ _ BW0.out (Nat.le_refl _))
                        have HK := Lib.hid S3.1
                        clear S3
                        go_wp2
                        refine bodyPost_ret (results_c3 rfl _ _ _ w.heap.size _ rfl (load43 HK.out rfl)) rfl ?_
                        rw [← HF.out]
                        exact ⟨by rw [ref_err 3 (by decide)]; rfl, HX.out⟩
                      · have HF := Lib.hid (show (⟨3, ((lst s).drop p).take d, d, 0⟩ : TR) = res by rw [← HR.out, numAt_eq _ _ _ _ _ _ _ _ _ _ _ _ h1 h2 (show _ = (true && false) by show (_ || _) = _; rw [hL, hU]; rfl) h10 e10 b1 b2]; rfl)
                        rw [← HEL.out] at b1 b2
                        unfold maxT at b1 b2
                        have S3 := store3 ZW0.out (.int .i64 3) (.string (s.extract p k)) (.int .i64 (p : Int))
                        have HX := Lib.hid (S3.2 _ _ BW0.out (Nat.le_refl _))
                        have HK := Lib.hid S3.1
                        clear S3
                        go_wp2
                        refine bodyPost_ret (results_c3 rfl _ _ _ w.heap.size _ rfl (load43 HK.out rfl)) rfl ?_
                        rw [← HF.out]
                        exact ⟨by rw [ref_ok, HEX.out, ← HDD.out]; rfl, HX.out⟩
                    · have HF := Lib.hid (show (⟨3, ((lst s).drop p).take d, d, 0⟩ : TR) = res by rw [← HR.out, numAt_eq _ _ _ _ _ _ _ _ _ _ _ _ h1 h2 (show _ = (true && false) by show (_ || _) = _; rw [hL, hU]; rfl) h10 e10 b1 rfl]; rfl)
                      rw [← HEL.out] at b1
                      unfold maxT at b1
                      have S3 := store3 ZW0.out (.int .i64 3) (.string (s.extract p k)) (.int .i64 (p : Int))
                      have HX := Lib.hid (S3.2 _ _ BW0.out (Nat.le_refl _))
                      have HK := Lib.hid S3.1
                      clear S3
                      go_wp2
                      refine bodyPost_ret (results_c3 rfl _ _ _ w.heap.size _ rfl (load43 HK.out rfl)) rfl ?_
                      rw [← HF.out]
                      exact ⟨by rw [ref_ok, HEX.out, ← HDD.out]; rfl, HX.out⟩
                · have HF := Lib.hid (show (⟨0, [], 0, 3⟩ : TR) = res by rw [← HR.out, numAt_eq _ _ _ _ _ _ _ _ _ _ _ _ h1 h2 (show _ = (true && false) by show (_ || _) = _; rw [hL, hU]; rfl) h10 rfl rfl rfl]; rfl)
                  have S3 := store3 ZW0.out (.int .i64 0) (.string ⟨#[]⟩) (.int .i64 0)
                  have HX := Lib.hid (S3.2 _ _ BW0.out (Nat.le_refl _))
                  have HK := Lib.hid S3.1
                  clear S3
                  go_wp2
                  refine bodyPost_ret (results_c3 rfl _ _ _ w.heap.size _ rfl (load43 HK.out rfl)) rfl ?_
                  rw [← HF.out]
                  exact ⟨by rw [ref_err 3 (by decide)]; rfl, HX.out⟩
              · have HF := Lib.hid (show (⟨0, [], 0, 2⟩ : TR) = res by rw [← HR.out, numAt_eq _ _ _ _ _ _ _ _ _ _ _ _ h1 h2 (show _ = (true && true) by show (_ || _) = _; rw [hL, hU]; rfl) rfl rfl rfl rfl]; first | rfl | (simp))
                go_wp2_with fail
                refine (CLX.out _).mono ?_
                rintro e w2 ⟨rfl, hw⟩
                replace hw := hw.symm
                subst hw
                have S3 := store3 ZW0.out (.int .i64 0) (.string ⟨#[]⟩) (.int .i64 0)
                have HX := Lib.hid (S3.2 _ _ BW0.out (Nat.le_refl _))
                have HK := Lib.hid S3.1
                clear S3
                go_wp2
                refine bodyPost_ret (results_c3 rfl _ _ _ w.heap.size _ rfl (load43 HK.out rfl)) rfl ?_
                rw [← HF.out]
                exact ⟨by rw [ref_err 2 (by decide)]; rfl, HX.out⟩
            · rw [hL] at CLX
              have HF := Lib.hid (show (⟨0, [], 0, 2⟩ : TR) = res by rw [← HR.out, numAt_eq _ _ _ _ _ _ _ _ _ _ _ _ h1 h2 (show _ = (true && true) by show (_ || _) = _; rw [hL]; rfl) rfl rfl rfl rfl]; first | rfl | (simp))
              go_wp2_with fail
              refine (CLX.out _).mono ?_
              rintro e w2 ⟨rfl, hw⟩
              replace hw := hw.symm
              subst hw
              have S3 := store3 ZW0.out (.int .i64 0) (.string ⟨#[]⟩) (.int .i64 0)
              have HX := Lib.hid (S3.2 _ _ BW0.out (Nat.le_refl _))
              have HK := Lib.hid S3.1
              clear S3
              go_wp2
              refine bodyPost_ret (results_c3 rfl _ _ _ w.heap.size _ rfl (load43 HK.out rfl)) rfl ?_
              rw [← HF.out]
              exact ⟨by rw [ref_err 2 (by decide)]; rfl, HX.out⟩
          · have HF := Lib.hid (show (⟨0, [], 0, 2⟩ : TR) = res by rw [← HR.out, numAt_eq _ _ _ _ _ _ _ _ _ _ _ _ h1 h2 (show _ = (true && _) from (Bool.true_and _).symm) rfl rfl rfl rfl]; rfl)
            have S3 := store3 ZW0.out (.int .i64 0) (.string ⟨#[]⟩) (.int .i64 0)
            have HX := Lib.hid (S3.2 _ _ BW0.out (Nat.le_refl _))
            have HK := Lib.hid S3.1
            clear S3
            go_wp2
            refine bodyPost_ret (results_c3 rfl _ _ _ w.heap.size _ rfl (load43 HK.out rfl)) rfl ?_
            rw [← HF.out]
            exact ⟨by rw [ref_err 2 (by decide)]; rfl, HX.out⟩
      · rw [hdg] at CDX
        have HQ := Lib.hid (show runP dgt (lst s) (k + 1) = p + m by rw [← runP_yes hkl (by rw [lst_get s k hlt hkl]; exact hdg)]; exact HE.out)
        go_wp2_with fail
        refine (CDX.out _).mono ?_
        rintro e wc ⟨rfl, hw⟩
        replace hw := hw.symm
        subst hw
        go_wp2
        go_round
        case rel => exact ⟨k + 1, by omega, hlt, by go_num, HQ.out⟩
        case measure => simp [intOf]; omega
    · have hle : ¬ (k : Int) < s.size := by omega
      have HR := Lib.hid (show numAt s[p] d none (((lst s).drop p).take d) = res by
        rw [HR0.out, HN.out (runP_end (by rw [HL.out]; omega)), ← HDD.out, List.getElem?_eq_none (by rw [HL.out]; omega)])
      cases h1 : decide ((1 : Int) < d)
      · skip
        cases h10 : decide ((10 : Int) < d)
        · cases e10 : ((d : Int) == 10)
          · have HF := Lib.hid (show (⟨3, ((lst s).drop p).take d, d, 0⟩ : TR) = res by rw [← HR.out, numAt_eq _ _ _ _ _ _ _ _ _ _ _ _ h1 rfl (show _ = (false && false) from rfl) h10 e10 rfl rfl]; rfl)
            have S3 := store3 ZW0.out (.int .i64 3) (.string (s.extract p k)) (.int .i64 (p : Int))
            have HX := Lib.hid (S3.2 _ _ BW0.out (Nat.le_refl _))
            have HK := Lib.hid S3.1
            clear S3
            go_wp2
            refine bodyPost_ret (results_c3 rfl _ _ _ w.heap.size _ rfl (load43 HK.out rfl)) rfl ?_
            rw [← HF.out]
            exact ⟨by rw [ref_ok, HEX.out, ← HDD.out]; rfl, HX.out⟩
          · cases b1 : Op.bytesLess (((lst s).drop p).take d) maxT
            · cases b2 : (((lst s).drop p).take d == maxT)
              · have HF := Lib.hid (show (⟨0, [], 0, 3⟩ : TR) = res by rw [← HR.out, numAt_eq _ _ _ _ _ _ _ _ _ _ _ _ h1 rfl (show _ = (false && false) from rfl) h10 e10 b1 b2]; rfl)
                rw [← HEL.out] at b1 b2
                unfold maxT at b1 b2
                have S3 := store3 ZW0.out (.int .i64 0) (.string ⟨#[]⟩) (.int .i64 0)
                have HX := Lib.hid (S3.2 _ _ BW0.out (Nat.le_refl _))
                have HK := Lib.hid S3.1
                clear S3
                go_wp2
                refine bodyPost_ret (results_c3 rfl _ _ _ w.heap.size _ rfl (load43 HK.out rfl)) rfl ?_
                rw [← HF.out]
                exact ⟨by rw [ref_err 3 (by decide)]; rfl, HX.out⟩
              · have HF := Lib.hid (show (⟨3, ((lst s).drop p).take d, d, 0⟩ : TR) = res by rw [← HR.out, numAt_eq _ _ _ _ _ _ _ _ _ _ _ _ h1 rfl (show _ = (false && false) from rfl) h10 e10 b1 b2]; rfl)
                rw [← HEL.out] at b1 b2
                unfold maxT at b1 b2
                have S3 := store3 ZW0.out (.int .i64 3) (.string (s.extract p k)) (.int .i64 (p : Int))
                have HX := Lib.hid (S3.2 _ _ BW0.out (Nat.le_refl _))
                have HK := Lib.hid S3.1
                clear S3
                go_wp2
                refine bodyPost_ret (results_c3 rfl _ _ _ w.heap.size _ rfl (load43 HK.out rfl)) rfl ?_
                rw [← HF.out]
                exact ⟨by rw [ref_ok, HEX.out, ← HDD.out]; rfl, HX.out⟩
            · have HF := Lib.hid (show (⟨3, ((lst s).drop p).take d, d, 0⟩ : TR) = res by rw [← HR.out, numAt_eq _ _ _ _ _ _ _ _ _ _ _ _ h1 rfl (show _ = (false && false) from rfl) h10 e10 b1 rfl]; rfl)
              rw [← HEL.out] at b1
              unfold maxT at b1
              have S3 := store3 ZW0.out (.int .i64 3) (.string (s.extract p k)) (.int .i64 (p : Int))
              have HX := Lib.hid (S3.2 _ _ BW0.out (Nat.le_refl _))
              have HK := Lib.hid S3.1
              clear S3
              go_wp2
              refine bodyPost_ret (results_c3 rfl _ _ _ w.heap.size _ rfl (load43 HK.out rfl)) rfl ?_
              rw [← HF.out]
              exact ⟨by rw [ref_ok, HEX.out, ← HDD.out]; rfl, HX.out⟩
        · have HF := Lib.hid (show (⟨0, [], 0, 3⟩ : TR) = res by rw [← HR.out, numAt_eq _ _ _ _ _ _ _ _ _ _ _ _ h1 rfl (show _ = (false && false) from rfl) h10 rfl rfl rfl]; rfl)
          have S3 := store3 ZW0.out (.int .i64 0) (.string ⟨#[]⟩) (.int .i64 0)
          have HX := Lib.hid (S3.2 _ _ BW0.out (Nat.le_refl _))
          have HK := Lib.hid S3.1
          clear S3
          go_wp2
          refine bodyPost_ret (results_c3 rfl _ _ _ w.heap.size _ rfl (load43 HK.out rfl)) rfl ?_
          rw [← HF.out]
          exact ⟨by rw [ref_err 3 (by decide)]; rfl, HX.out⟩
      · cases h2 : ((s[p].toNat : Int) == 48)
        · skip
          cases h10 : decide ((10 : Int) < d)
          · cases e10 : ((d : Int) == 10)
            · have HF := Lib.hid (show (⟨3, ((lst s).drop p).take d, d, 0⟩ : TR) = res by rw [← HR.out, numAt_eq _ _ _ _ _ _ _ _ _ _ _ _ h1 h2 (show _ = (false && false) from rfl) h10 e10 rfl rfl]; rfl)
              have S3 := store3 ZW0.out (.int .i64 3) (.string (s.extract p k)) (.int .i64 (p : Int))
              have HX := Lib.hid (S3.2 _ _ BW0.out (Nat.le_refl _))
              have HK := Lib.hid S3.1
              clear S3
              go_wp2
              refine bodyPost_ret (results_c3 rfl _ _ _ w.heap.size _ rfl (load43 HK.out rfl)) rfl ?_
              rw [← HF.out]
              exact ⟨by rw [ref_ok, HEX.out, ← HDD.out]; rfl, HX.out⟩
            · cases b1 : Op.bytesLess (((lst s).drop p).take d) maxT
              · cases b2 : (((lst s).drop p).take d == maxT)
                · have HF := Lib.hid (show (⟨0, [], 0, 3⟩ : TR) = res by rw [← HR.out, numAt_eq _ _ _ _ _ _ _ _ _ _ _ _ h1 h2 (show _ = (false && false) from rfl) h10 e10 b1 b2]; rfl)
                  rw [← HEL.out] at b1 b2
                  unfold maxT at b1 b2
                  have S3 := store3 ZW0.out (.int .i64 0) (.string ⟨#[]⟩) (.int .i64 0)
                  have HX := Lib.hid (S3.2 _ _ BW0.out (Nat.le_refl _))
                  have HK := Lib.hid S3.1
                  clear S3
                  go_wp2
                  refine bodyPost_ret (results_c3 rfl _ _ _ w.heap.size _ rfl (load43 HK.out rfl)) rfl ?_
                  rw [← HF.out]
                  exact ⟨by rw [ref_err 3 (by decide)]; rfl, HX.out⟩
                · have HF := Lib.hid (show (⟨3, ((lst s).drop p).take d, d, 0⟩ : TR) = res by rw [← HR.out, numAt_eq _ _ _ _ _ _ _ _ _ _ _ _ h1 h2 (show _ = (false && false) from rfl) h10 e10 b1 b2]; rfl)
                  rw [← HEL.out] at b1 b2
                  unfold maxT at b1 b2
                  have S3 := store3 ZW0.out (.int .i64 3) (.string (s.extract p k)) (.int .i64 (p : Int))
                  have HX := Lib.hid (S3.2 _ _ BW0.out (Nat.le_refl _))
                  have HK := Lib.hid S3.1
                  clear S3
                  go_wp2
                  refine bodyPost_ret (results_c3 rfl _ _ _ w.heap.size _ rfl (load43 HK.out rfl)) rfl ?_
                  rw [← HF.out]
                  exact ⟨by rw [ref_ok, HEX.out, ← HDD.out]; rfl, HX.out⟩
              · have HF := Lib.hid (show (⟨3, ((lst s).drop p).take d, d, 0⟩ : TR) = res by rw [← HR.out, numAt_eq _ _ _ _ _ _ _ _ _ _ _ _ h1 h2 (show _ = (false && false) from rfl) h10 e10 b1 rfl]; rfl)
                rw [← HEL.out] at b1
                unfold maxT at b1
                have S3 := store3 ZW0.out (.int .i64 3) (.string (s.extract p k)) (.int .i64 (p : Int))
                have HX := Lib.hid (S3.2 _ _ BW0.out (Nat.le_refl _))
                have HK := Lib.hid S3.1
                clear S3
                go_wp2
                refine bodyPost_ret (results_c3 rfl _ _ _ w.heap.size _ rfl (load43 HK.out rfl)) rfl ?_
                rw [← HF.out]
                exact ⟨by rw [ref_ok, HEX.out, ← HDD.out]; rfl, HX.out⟩
          · have HF := Lib.hid (show (⟨0, [], 0, 3⟩ : TR) = res by rw [← HR.out, numAt_eq _ _ _ _ _ _ _ _ _ _ _ _ h1 h2 (show _ = (false && false) from rfl) h10 rfl rfl rfl]; rfl)
            have S3 := store3 ZW0.out (.int .i64 0) (.string ⟨#[]⟩) (.int .i64 0)
            have HX := Lib.hid (S3.2 _ _ BW0.out (Nat.le_refl _))
            have HK := Lib.hid S3.1
            clear S3
            go_wp2
            refine bodyPost_ret (results_c3 rfl _ _ _ w.heap.size _ rfl (load43 HK.out rfl)) rfl ?_
            rw [← HF.out]
            exact ⟨by rw [ref_err 3 (by decide)]; rfl, HX.out⟩
        · have HF := Lib.hid (show (⟨0, [], 0, 2⟩ : TR) = res by rw [← HR.out, numAt_eq _ _ _ _ _ _ _ _ _ _ _ _ h1 h2 (show _ = (true && _) from (Bool.true_and _).symm) rfl rfl rfl rfl]; rfl)
          have S3 := store3 ZW0.out (.int .i64 0) (.string ⟨#[]⟩) (.int .i64 0)
          have HX := Lib.hid (S3.2 _ _ BW0.out (Nat.le_refl _))
          have HK := Lib.hid S3.1
          clear S3
          go_wp2
          refine bodyPost_ret (results_c3 rfl _ _ _ w.heap.size _ rfl (load43 HK.out rfl)) rfl ?_
          rw [← HF.out]
          exact ⟨by rw [ref_err 2 (by decide)]; rfl, HX.out⟩
end Go.Proofs.YtdkkflmhpncglaaDoor
