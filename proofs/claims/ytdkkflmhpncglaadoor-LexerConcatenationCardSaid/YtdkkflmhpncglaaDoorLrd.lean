/- The next token, of the reference: words; all. -/
import Derived.Test.YtdkkflmhpncglaaDoorLrc
namespace Go.Proofs.YtdkkflmhpncglaaDoor
open Go.ChangeShapes Go.WideShapes Go.ChangeAt Go.RowKit Go.ChangeMaps

set_option maxRecDepth 100000 in
set_option maxHeartbeats 2000000 in
theorem RNext_word (s : ByteArray) (p : Nat) (w : World) (hs : s.size ≤ 100000) (hp : p < s.size) (hl0 : ltrN s[p].toNat = true) : Calls Tryd.prog 26 #[.string s, .int .i64 (p : Int)] w fun e w' => e = .returned ((wordR ((lst s).drop p)).ref p) ∧ Below w.heap.size w w' := by
  have HL := Lib.hid (lst_len s)
  have hpi : (p : Int) < s.size := by omega
  have hp0 : (0 : Int) ≤ (p : Int) := by omega
  have CLX0 := Lib.hid (letter_any s[p].toNat)
  rw [hl0] at CLX0
  have CD := Lib.hid (fun (x : Nat) w => digit_any x w)
  have CL := Lib.hid (fun (x : Nat) w => letter_any x w)
  have HR0 := Lib.hid (show wordAt (((lst s).drop p).take (runP wrd ((lst s).drop p) 0)) (runP wrd ((lst s).drop p) 0) = wordR ((lst s).drop p) from rfl)
  have HM := Lib.hid (runP_drop wrd (lst s) p)
  obtain ⟨res, hres⟩ : ∃ z, wordR ((lst s).drop p) = z := ⟨_, rfl⟩
  rw [hres] at HR0
  rw [hres]
  clear hres
  generalize runP wrd ((lst s).drop p) 0 = m at *
  obtain ⟨W0, hW0⟩ : ∃ W, W = w.alloc (.cells #[.int .i64 0, .string ⟨#[]⟩, .int .i64 0] 43) := ⟨_, rfl⟩
  have BW0 := Lib.hid (show Below w.heap.size w W0 by rw [hW0]; exact (Below.refl _ w).alloc (Nat.le_refl _) _)
  have ZW0 := Lib.hid (show Blk W0 w.heap.size 43 #[.int .i64 0, .string ⟨#[]⟩, .int .i64 0] by rw [hW0]; exact Blk.new _ _ _)
  have zf : ∀ j, W0.frozen? ⟨w.heap.size, j, none⟩ = false := fun j => Joins.unfrozen_of_block ZW0.out _
  have c0 : W0.cell? ⟨w.heap.size, 0, none⟩ = some (.int .i64 0) := ZW0.out.cell 0
  have c1 : W0.cell? ⟨w.heap.size, 1, none⟩ = some (.string ⟨#[]⟩) := ZW0.out.cell 1
  have c2 : W0.cell? ⟨w.heap.size, 2, none⟩ = some (.int .i64 0) := ZW0.out.cell 2
  go_enter Tryd.func26, Tryd.ntmps26
  go_upto_region 1 with fail
  rw [← hW0]
  clear hW0
  go_wp2_with fail
  refine (CLX0.out _).mono ?_
  rintro e wa ⟨rfl, hw⟩
  replace hw := hw.symm
  subst hw
  go_wp2
  go_loop [7] (fun s5 => ∃ k : Nat, p ≤ k ∧ k ≤ s.size ∧ s5 = .int .i64 (k : Int) ∧ runP wrd (lst s) k = p + m) (fun s5 => s.size - (intOf s5).toNat)
  case atStart => exact ⟨p, Nat.le_refl _, by omega, rfl, HM.out⟩
  case round =>
    obtain ⟨k, hk1, hkn, rfl, hE⟩ := hrel
    have HE := Lib.hid hE
    clear hE
    have hk0 : (0 : Int) ≤ (k : Int) := by omega
    have hpk : (p : Int) ≤ (k : Int) := by omega
    have hkn2 : (k : Int) ≤ s.size := by omega
    obtain ⟨d, hd⟩ : ∃ d, k = p + d := ⟨k - p, by omega⟩
    have HDD := Lib.hid (show k = p + d from hd)
    have hwd : IntKind.i64.wrap ((k : Int) - (p : Int)) = (d : Int) := by rw [IntKind.wrap_i64]; omega
    clear hd
    have HLX := Lib.hid (show lst (s.extract p k) = ((lst s).drop p).take d by rw [lst_extract, HDD.out, Nat.add_sub_cancel_left])
    have HN := Lib.hid (fun (h : runP wrd (lst s) k = k) => show m = d by have h1 := HE.out; have h2 := HDD.out; omega)
    by_cases hlt : k < s.size
    · have hkl : k < (lst s).length := by rw [HL.out]; exact hlt
      have hki : (k : Int) < s.size := by omega
      have CDX := Lib.hid (CD.out s[k].toNat)
      have CLX := Lib.hid (CL.out s[k].toNat)
      cases hl : ltrN s[k].toNat
      · rw [hl] at CLX
        cases hdg : dgtN s[k].toNat
        · rw [hdg] at CDX
          cases hun : ((s[k].toNat : Int) == 95)
          · have HEND := Lib.hid (HN.out (runP_no hkl (by rw [lst_get s k hlt hkl]; unfold wrd; rw [hl, hdg, hun]; rfl)))
            have HR := Lib.hid (show wordAt (((lst s).drop p).take d) d = res by rw [← HR0.out, HEND.out])
            have hsz : (s.extract p k).size ≤ 100000 := by rw [ByteArray.size_extract]; omega
            have CKW := Lib.hid (show ∀ W, Calls Tryd.prog 17 #[.string (s.extract p k)] W fun e w' => e = .returned (.bool (kwL ((((lst s).drop p).take d).map upB))) ∧ Below W.heap.size W w' by
              intro W
              have h := rIsKeyword_any (s.extract p k) W hsz
              rw [HLX.out] at h
              exact h)
            have CU := Lib.hid (show ∀ W, Calls Tryd.prog 32 #[.string (s.extract p k)] W fun e w' => e = .returned (.string ⟨((((lst s).drop p).take d).map upB).toArray⟩) ∧ Below W.heap.size W w' by
              intro W
              have h := rupper_any (s.extract p k) W hsz
              rw [HLX.out] at h
              exact h)
            have CW := Lib.hid (show ∀ W, Calls Tryd.prog 46 #[.string (s.extract p k)] W fun e w' => e = .returned (.string ⟨((((lst s).drop p).take d).map loB).toArray⟩) ∧ Below W.heap.size W w' by
              intro W
              have h := rlower_any (s.extract p k) W hsz
              rw [HLX.out] at h
              exact h)
            obtain ⟨u, hu⟩ : ∃ u : ByteArray, (⟨((((lst s).drop p).take d).map upB).toArray⟩ : ByteArray) = u := ⟨_, rfl⟩
            obtain ⟨v, hv⟩ : ∃ v : ByteArray, (⟨((((lst s).drop p).take d).map loB).toArray⟩ : ByteArray) = v := ⟨_, rfl⟩
            rw [hu] at CU
            rw [hv] at CW
            have HU := Lib.hid hu
            have HV := Lib.hid hv
            clear hu hv hsz
            go_wp2_with fail
            refine (CLX.out _).mono ?_
            rintro e wx ⟨rfl, hw⟩
            replace hw := hw.symm
            subst hw
            go_wp2_with fail
            refine (CDX.out _).mono ?_
            rintro e wb ⟨rfl, hw⟩
            replace hw := hw.symm
            subst hw
            cases hkw : kwL ((((lst s).drop p).take d).map upB)
            · rw [hkw] at CKW
              go_wp2_with fail
              refine (CKW.out _).mono ?_
              rintro e w3 ⟨rfl, hb⟩
              have Zw3 := Lib.hid (ZW0.out.below hb)
              have Bw3 := Lib.hid (BW0.out.trans (hb.mono BW0.out.size))
              clear hb zf c0 c1 c2
              have zf : ∀ j, w3.frozen? ⟨w.heap.size, j, none⟩ = false := fun j => Joins.unfrozen_of_block Zw3.out _
              have c0 : w3.cell? ⟨w.heap.size, 0, none⟩ = some (.int .i64 0) := Zw3.out.cell 0
              have c1 : w3.cell? ⟨w.heap.size, 1, none⟩ = some (.string ⟨#[]⟩) := Zw3.out.cell 1
              have c2 : w3.cell? ⟨w.heap.size, 2, none⟩ = some (.int .i64 0) := Zw3.out.cell 2
              by_cases h24 : 24 < d
              · have HF := Lib.hid (show (⟨0, [], 0, 3⟩ : TR) = res by rw [← HR.out]; unfold wordAt; rw [if_neg (by rw [hkw]; decide), if_pos h24])
                have h24i : (24 : Int) < d := by omega
                have S3 := store3 Zw3.out (.int .i64 0) (.string ⟨#[]⟩) (.int .i64 0)
                have HX := Lib.hid (S3.2 _ _ Bw3.out (Nat.le_refl _))
                have HK := Lib.hid S3.1
                clear S3
                go_wp2
                refine bodyPost_ret (results_c3 rfl _ _ _ w.heap.size _ rfl (load43 HK.out rfl)) rfl ?_
                rw [← HF.out]
                exact ⟨by rw [ref_err 3 (by decide)]; rfl, HX.out⟩
              · have HF := Lib.hid (show (⟨1, (((lst s).drop p).take d).map loB, d, 0⟩ : TR) = res by rw [← HR.out]; unfold wordAt; rw [if_neg (by rw [hkw]; decide), if_neg h24])
                have h24i : ¬ (24 : Int) < d := by omega
                go_wp2_with fail
                refine (CW.out _).mono ?_
                rintro e w5 ⟨rfl, hb⟩
                have Zw5 := Lib.hid (Zw3.out.below hb)
                have Bw5 := Lib.hid (Bw3.out.trans (hb.mono Bw3.out.size))
                clear hb zf c0 c1 c2
                have zf : ∀ j, w5.frozen? ⟨w.heap.size, j, none⟩ = false := fun j => Joins.unfrozen_of_block Zw5.out _
                have c0 : w5.cell? ⟨w.heap.size, 0, none⟩ = some (.int .i64 0) := Zw5.out.cell 0
                have c1 : w5.cell? ⟨w.heap.size, 1, none⟩ = some (.string ⟨#[]⟩) := Zw5.out.cell 1
                have c2 : w5.cell? ⟨w.heap.size, 2, none⟩ = some (.int .i64 0) := Zw5.out.cell 2
                have S3 := store3 Zw5.out (.int .i64 1) (.string v) (.int .i64 (p : Int))
                have HX := Lib.hid (S3.2 _ _ Bw5.out (Nat.le_refl _))
                have HK := Lib.hid S3.1
                clear S3
                go_wp2
                refine bodyPost_ret (results_c3 rfl _ _ _ w.heap.size _ rfl (load43 HK.out rfl)) rfl ?_
                rw [← HF.out]
                exact ⟨by rw [ref_ok, HV.out, ← HDD.out]; rfl, HX.out⟩
            · rw [hkw] at CKW
              go_wp2_with fail
              refine (CKW.out _).mono ?_
              rintro e w3 ⟨rfl, hb⟩
              have Zw3 := Lib.hid (ZW0.out.below hb)
              have Bw3 := Lib.hid (BW0.out.trans (hb.mono BW0.out.size))
              clear hb zf c0 c1 c2
              have zf : ∀ j, w3.frozen? ⟨w.heap.size, j, none⟩ = false := fun j => Joins.unfrozen_of_block Zw3.out _
              have c0 : w3.cell? ⟨w.heap.size, 0, none⟩ = some (.int .i64 0) := Zw3.out.cell 0
              have c1 : w3.cell? ⟨w.heap.size, 1, none⟩ = some (.string ⟨#[]⟩) := Zw3.out.cell 1
              have c2 : w3.cell? ⟨w.heap.size, 2, none⟩ = some (.int .i64 0) := Zw3.out.cell 2
              have HF := Lib.hid (show (⟨2, (((lst s).drop p).take d).map upB, d, 0⟩ : TR) = res by rw [← HR.out]; unfold wordAt; rw [if_pos hkw])
              go_wp2_with fail
              refine (CU.out _).mono ?_
              rintro e w5 ⟨rfl, hb⟩
              have Zw5 := Lib.hid (Zw3.out.below hb)
              have Bw5 := Lib.hid (Bw3.out.trans (hb.mono Bw3.out.size))
              clear hb zf c0 c1 c2
              have zf : ∀ j, w5.frozen? ⟨w.heap.size, j, none⟩ = false := fun j => Joins.unfrozen_of_block Zw5.out _
              have c0 : w5.cell? ⟨w.heap.size, 0, none⟩ = some (.int .i64 0) := Zw5.out.cell 0
              have c1 : w5.cell? ⟨w.heap.size, 1, none⟩ = some (.string ⟨#[]⟩) := Zw5.out.cell 1
              have c2 : w5.cell? ⟨w.heap.size, 2, none⟩ = some (.int .i64 0) := Zw5.out.cell 2
              have S3 := store3 Zw5.out (.int .i64 2) (.string u) (.int .i64 (p : Int))
              have HX := Lib.hid (S3.2 _ _ Bw5.out (Nat.le_refl _))
              have HK := Lib.hid S3.1
              clear S3
              go_wp2
              refine bodyPost_ret (results_c3 rfl _ _ _ w.heap.size _ rfl (load43 HK.out rfl)) rfl ?_
              rw [← HF.out]
              exact ⟨by rw [ref_ok, HU.out, ← HDD.out]; rfl, HX.out⟩
          · have HQ := Lib.hid (show runP wrd (lst s) (k + 1) = p + m by rw [← runP_yes hkl (by rw [lst_get s k hlt hkl]; unfold wrd; rw [hl, hdg, hun]; rfl)]; exact HE.out)
            go_wp2_with fail
            refine (CLX.out _).mono ?_
            rintro e wx ⟨rfl, hw⟩
            replace hw := hw.symm
            subst hw
            go_wp2_with fail
            refine (CDX.out _).mono ?_
            rintro e wb ⟨rfl, hw⟩
            replace hw := hw.symm
            subst hw
            go_wp2
            go_round
            case rel => exact ⟨k + 1, by omega, hlt, by go_num, HQ.out⟩
            case measure => simp [intOf]; omega
        · rw [hdg] at CDX
          have HQ := Lib.hid (show runP wrd (lst s) (k + 1) = p + m by rw [← runP_yes hkl (by rw [lst_get s k hlt hkl]; unfold wrd; rw [hl, hdg]; rfl)]; exact HE.out)
          go_wp2_with fail
          refine (CLX.out _).mono ?_
          rintro e wx ⟨rfl, hw⟩
          replace hw := hw.symm
          subst hw
          go_wp2_with fail
          refine (CDX.out _).mono ?_
          rintro e wb ⟨rfl, hw⟩
          replace hw := hw.symm
          subst hw
          go_wp2
          go_round
          case rel => exact ⟨k + 1, by omega, hlt, by go_num, HQ.out⟩
          case measure => simp [intOf]; omega
      · rw [hl] at CLX
        have HQ := Lib.hid (show runP wrd (lst s) (k + 1) = p + m by rw [← runP_yes hkl (by rw [lst_get s k hlt hkl]; unfold wrd; rw [hl]; rfl)]; exact HE.out)
        go_wp2_with fail
        refine (CLX.out _).mono ?_
        rintro e wx ⟨rfl, hw⟩
        replace hw := hw.symm
        subst hw
        go_wp2
        go_round
        case rel => exact ⟨k + 1, by omega, hlt, by go_num, HQ.out⟩
        case measure => simp [intOf]; omega
    · have hle : ¬ (k : Int) < s.size := by omega
      have HEND := Lib.hid (HN.out (runP_end (by rw [HL.out]; omega)))
      have HR := Lib.hid (show wordAt (((lst s).drop p).take d) d = res by rw [← HR0.out, HEND.out])
      have hsz : (s.extract p k).size ≤ 100000 := by rw [ByteArray.size_extract]; omega
      have CKW := Lib.hid (show ∀ W, Calls Tryd.prog 17 #[.string (s.extract p k)] W fun e w' => e = .returned (.bool (kwL ((((lst s).drop p).take d).map upB))) ∧ Below W.heap.size W w' by
        intro W
        have h := rIsKeyword_any (s.extract p k) W hsz
        rw [HLX.out] at h
        exact h)
      have CU := Lib.hid (show ∀ W, Calls Tryd.prog 32 #[.string (s.extract p k)] W fun e w' => e = .returned (.string ⟨((((lst s).drop p).take d).map upB).toArray⟩) ∧ Below W.heap.size W w' by
        intro W
        have h := rupper_any (s.extract p k) W hsz
        rw [HLX.out] at h
        exact h)
      have CW := Lib.hid (show ∀ W, Calls Tryd.prog 46 #[.string (s.extract p k)] W fun e w' => e = .returned (.string ⟨((((lst s).drop p).take d).map loB).toArray⟩) ∧ Below W.heap.size W w' by
        intro W
        have h := rlower_any (s.extract p k) W hsz
        rw [HLX.out] at h
        exact h)
      obtain ⟨u, hu⟩ : ∃ u : ByteArray, (⟨((((lst s).drop p).take d).map upB).toArray⟩ : ByteArray) = u := ⟨_, rfl⟩
      obtain ⟨v, hv⟩ : ∃ v : ByteArray, (⟨((((lst s).drop p).take d).map loB).toArray⟩ : ByteArray) = v := ⟨_, rfl⟩
      rw [hu] at CU
      rw [hv] at CW
      have HU := Lib.hid hu
      have HV := Lib.hid hv
      clear hu hv hsz
      cases hkw : kwL ((((lst s).drop p).take d).map upB)
      · rw [hkw] at CKW
        go_wp2_with fail
        refine (CKW.out _).mono ?_
        rintro e w3 ⟨rfl, hb⟩
        have Zw3 := Lib.hid (ZW0.out.below hb)
        have Bw3 := Lib.hid (BW0.out.trans (hb.mono BW0.out.size))
        clear hb zf c0 c1 c2
        have zf : ∀ j, w3.frozen? ⟨w.heap.size, j, none⟩ = false := fun j => Joins.unfrozen_of_block Zw3.out _
        have c0 : w3.cell? ⟨w.heap.size, 0, none⟩ = some (.int .i64 0) := Zw3.out.cell 0
        have c1 : w3.cell? ⟨w.heap.size, 1, none⟩ = some (.string ⟨#[]⟩) := Zw3.out.cell 1
        have c2 : w3.cell? ⟨w.heap.size, 2, none⟩ = some (.int .i64 0) := Zw3.out.cell 2
        by_cases h24 : 24 < d
        · have HF := Lib.hid (show (⟨0, [], 0, 3⟩ : TR) = res by rw [← HR.out]; unfold wordAt; rw [if_neg (by rw [hkw]; decide), if_pos h24])
          have h24i : (24 : Int) < d := by omega
          have S3 := store3 Zw3.out (.int .i64 0) (.string ⟨#[]⟩) (.int .i64 0)
          have HX := Lib.hid (S3.2 _ _ Bw3.out (Nat.le_refl _))
          have HK := Lib.hid S3.1
          clear S3
          go_wp2
          refine bodyPost_ret (results_c3 rfl _ _ _ w.heap.size _ rfl (load43 HK.out rfl)) rfl ?_
          rw [← HF.out]
          exact ⟨by rw [ref_err 3 (by decide)]; rfl, HX.out⟩
        · have HF := Lib.hid (show (⟨1, (((lst s).drop p).take d).map loB, d, 0⟩ : TR) = res by rw [← HR.out]; unfold wordAt; rw [if_neg (by rw [hkw]; decide), if_neg h24])
          have h24i : ¬ (24 : Int) < d := by omega
          go_wp2_with fail
          refine (CW.out _).mono ?_
          rintro e w5 ⟨rfl, hb⟩
          have Zw5 := Lib.hid (Zw3.out.below hb)
          have Bw5 := Lib.hid (Bw3.out.trans (hb.mono Bw3.out.size))
          clear hb zf c0 c1 c2
          have zf : ∀ j, w5.frozen? ⟨w.heap.size, j, none⟩ = false := fun j => Joins.unfrozen_of_block Zw5.out _
          have c0 : w5.cell? ⟨w.heap.size, 0, none⟩ = some (.int .i64 0) := Zw5.out.cell 0
          have c1 : w5.cell? ⟨w.heap.size, 1, none⟩ = some (.string ⟨#[]⟩) := Zw5.out.cell 1
          have c2 : w5.cell? ⟨w.heap.size, 2, none⟩ = some (.int .i64 0) := Zw5.out.cell 2
          have S3 := store3 Zw5.out (.int .i64 1) (.string v) (.int .i64 (p : Int))
          have HX := Lib.hid (S3.2 _ _ Bw5.out (Nat.le_refl _))
          have HK := Lib.hid S3.1
          clear S3
          go_wp2
          refine bodyPost_ret (results_c3 rfl _ _ _ w.heap.size _ rfl (load43 HK.out rfl)) rfl ?_
          rw [← HF.out]
          exact ⟨by rw [ref_ok, HV.out, ← HDD.out]; rfl, HX.out⟩
      · rw [hkw] at CKW
        go_wp2_with fail
        refine (CKW.out _).mono ?_
        rintro e w3 ⟨rfl, hb⟩
        have Zw3 := Lib.hid (ZW0.out.below hb)
        have Bw3 := Lib.hid (BW0.out.trans (hb.mono BW0.out.size))
        clear hb zf c0 c1 c2
        have zf : ∀ j, w3.frozen? ⟨w.heap.size, j, none⟩ = false := fun j => Joins.unfrozen_of_block Zw3.out _
        have c0 : w3.cell? ⟨w.heap.size, 0, none⟩ = some (.int .i64 0) := Zw3.out.cell 0
        have c1 : w3.cell? ⟨w.heap.size, 1, none⟩ = some (.string ⟨#[]⟩) := Zw3.out.cell 1
        have c2 : w3.cell? ⟨w.heap.size, 2, none⟩ = some (.int .i64 0) := Zw3.out.cell 2
        have HF := Lib.hid (show (⟨2, (((lst s).drop p).take d).map upB, d, 0⟩ : TR) = res by rw [← HR.out]; unfold wordAt; rw [if_pos hkw])
        go_wp2_with fail
        refine (CU.out _).mono ?_
        rintro e w5 ⟨rfl, hb⟩
        have Zw5 := Lib.hid (Zw3.out.below hb)
        have Bw5 := Lib.hid (Bw3.out.trans (hb.mono Bw3.out.size))
        clear hb zf c0 c1 c2
        have zf : ∀ j, w5.frozen? ⟨w.heap.size, j, none⟩ = false := fun j => Joins.unfrozen_of_block Zw5.out _
        have c0 : w5.cell? ⟨w.heap.size, 0, none⟩ = some (.int .i64 0) := Zw5.out.cell 0
        have c1 : w5.cell? ⟨w.heap.size, 1, none⟩ = some (.string ⟨#[]⟩) := Zw5.out.cell 1
        have c2 : w5.cell? ⟨w.heap.size, 2, none⟩ = some (.int .i64 0) := Zw5.out.cell 2
        have S3 := store3 Zw5.out (.int .i64 2) (.string u) (.int .i64 (p : Int))
        have HX := Lib.hid (S3.2 _ _ Bw5.out (Nat.le_refl _))
        have HK := Lib.hid S3.1
        clear S3
        go_wp2
        refine bodyPost_ret (results_c3 rfl _ _ _ w.heap.size _ rfl (load43 HK.out rfl)) rfl ?_
        rw [← HF.out]
        exact ⟨by rw [ref_ok, HU.out, ← HDD.out]; rfl, HX.out⟩
theorem RNext_any (s : ByteArray) (p : Nat) (w : World) (hs : s.size ≤ 100000) (hp : p < s.size) : Calls Tryd.prog 26 #[.string s, .int .i64 (p : Int)] w fun e w' => e = .returned ((nextR ((lst s).drop p)).ref p) ∧ Below w.heap.size w w' := by
  have h0 : p < (lst s).length := by rw [lst_len]; exact hp
  have e0 : ((lst s).drop p).getD 0 0 = s[p] := by rw [← lst_get s p hp h0]; simp [List.getD, List.getElem?_eq_getElem h0]
  unfold nextR
  rw [e0]
  cases hl : ltrN s[p].toNat
  · cases hd : dgtN s[p].toNat
    · cases hq : ((s[p].toNat : Int) == 39)
      · exact RNext_sym s p w hs hp hl hd hq
      · exact RNext_text s p w hs hp hl hd hq
    · exact RNext_num s p w hs hp hl hd
  · exact RNext_word s p w hs hp hl
end Go.Proofs.YtdkkflmhpncglaaDoor
