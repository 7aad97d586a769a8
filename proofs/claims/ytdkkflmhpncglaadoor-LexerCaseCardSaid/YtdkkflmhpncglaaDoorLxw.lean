/- Words. -/
import Derived.Test.YtdkkflmhpncglaaDoorLxt
namespace Go.Proofs.YtdkkflmhpncglaaDoor
open Go.ChangeShapes Go.WideShapes Go.ChangeAt Go.RowKit Go.ChangeMaps

def wrd (c : UInt8) : Bool := ltrN c.toNat || dgtN c.toNat || ((c.toNat : Int) == 95)
theorem wrd_ascii {c : UInt8} (h : wrd c = true) : c.toNat < 128 := by
  simp only [wrd, ltrN, dgtN, Bool.or_eq_true, Bool.and_eq_true, decide_eq_true_eq, beq_iff_eq] at h
  omega
theorem tw_all (p : UInt8 → Bool) : ∀ (l : List UInt8), ∀ c ∈ l.takeWhile p, p c = true
  | [], c, h => by cases h
  | a :: l, c, h => by
    rw [List.takeWhile_cons] at h
    by_cases ha : p a = true
    · rw [if_pos ha] at h
      rcases List.mem_cons.1 h with rfl | h
      · exact ha
      · exact tw_all p l c h
    · rw [if_neg ha] at h
      cases h
theorem run_all (p : UInt8 → Bool) (l : List UInt8) : ∀ c ∈ l.take (runP p l 0), p c = true := by
  intro c hc
  unfold runP at hc
  rw [List.drop_zero, Nat.zero_add] at hc
  have e : l.take (l.takeWhile p).length = l.takeWhile p := (List.prefix_iff_eq_take.1 (List.takeWhile_prefix p)).symm
  rw [e] at hc
  exact tw_all p l c hc
def wordAt (t : List UInt8) (k : Nat) : TR := if kwL (t.map upB) then ⟨2, t.map upB, k, 0⟩ else if 24 < k then ⟨0, [], 0, 3⟩ else ⟨1, t.map loB, k, 0⟩
/-- A word at the head of l. -/
def wordR (l : List UInt8) : TR := wordAt (l.take (runP wrd l 0)) (runP wrd l 0)
set_option maxRecDepth 100000 in
set_option maxHeartbeats 2000000 in
theorem word_any (s : ByteArray) (w : World) (hs : s.size ≤ 100000) (hn : 0 < s.size) (hd : ltrN s[0].toNat = true) (hE0 : LEnv w) : Calls Tryd.prog 40 #[.string s] w fun e w' => e = .returned (wordR (lst s)).val ∧ Below w.heap.size w w' := by
  have HL := Lib.hid (lst_len s)
  have HE0 := Lib.hid hE0
  clear hE0
  have HR00 := Lib.hid (show runP wrd (lst s) 0 = runP wrd (lst s) 1 by
    have h0 : 0 < (lst s).length := by rw [lst_len]; exact hn
    exact runP_yes h0 (by rw [lst_get s 0 hn h0]; unfold wrd; rw [hd]; rfl))
  have HALL := Lib.hid (run_all wrd (lst s))
  have HR0 := Lib.hid (show wordR (lst s) = wordAt ((lst s).take (runP wrd (lst s) 0)) (runP wrd (lst s) 0) from rfl)
  rw [HR00.out] at HR0 HALL
  obtain ⟨res, hres⟩ : ∃ z, wordR (lst s) = z := ⟨_, rfl⟩
  rw [hres] at HR0
  rw [hres]
  clear hres
  obtain ⟨m, hm⟩ : ∃ m, runP wrd (lst s) 1 = m := ⟨_, rfl⟩
  rw [hm] at HR0 HALL
  have HM := Lib.hid hm
  clear hm
  replace HR0 := Lib.hid HR0.out.symm
  have CD := Lib.hid (fun (x : Nat) w => isDigit_any x w)
  have CL := Lib.hid (fun (x : Nat) w => isLetter_any x w)
  obtain ⟨W0, hW0⟩ : ∃ W, W = w.alloc (.cells #[.int .i64 0, .string ⟨#[]⟩, .int .i64 0] 37) := ⟨_, rfl⟩
  have BW0 := Lib.hid (show Below w.heap.size w W0 by rw [hW0]; exact (Below.refl _ w).alloc (Nat.le_refl _) _)
  have ZW0 := Lib.hid (show Blk W0 w.heap.size 37 #[.int .i64 0, .string ⟨#[]⟩, .int .i64 0] by rw [hW0]; exact Blk.new _ _ _)
  have zf : ∀ j, W0.frozen? ⟨w.heap.size, j, none⟩ = false := fun j => Joins.unfrozen_of_block ZW0.out _
  have c0 : W0.cell? ⟨w.heap.size, 0, none⟩ = some (.int .i64 0) := ZW0.out.cell 0
  have c1 : W0.cell? ⟨w.heap.size, 1, none⟩ = some (.string ⟨#[]⟩) := ZW0.out.cell 1
  have c2 : W0.cell? ⟨w.heap.size, 2, none⟩ = some (.int .i64 0) := ZW0.out.cell 2
  go_enter Tryd.func40, Tryd.ntmps40
  go_upto_region 1 with fail
  rw [← hW0]
  clear hW0
  have HEW := Lib.hid (HE0.out.below BW0.out)
  go_wp2
  go_loop [5] (fun s5 => ∃ k : Nat, 1 ≤ k ∧ k ≤ s.size ∧ s5 = .int .i64 (k : Int) ∧ runP wrd (lst s) k = m) (fun s5 => s.size - (intOf s5).toNat)
  case atStart => exact ⟨1, Nat.le_refl _, by omega, rfl, HM.out⟩
  case round =>
    obtain ⟨k, hk1, hkn, rfl, hE⟩ := hrel
    have HE := Lib.hid hE
    clear hE
    have hk0 : (0 : Int) ≤ (k : Int) := by omega
    have hkn2 : (k : Int) ≤ s.size := by omega
    by_cases hlt : k < s.size
    · have hkl : k < (lst s).length := by rw [HL.out]; exact hlt
      have hki : (k : Int) < s.size := by omega
      have CDX := Lib.hid (CD.out s[k].toNat)
      have CLX := Lib.hid (CL.out s[k].toNat)
      cases hl : ltrN s[k].toNat
      · rw [hl] at CLX
        cases hdg : dgtN s[k].toNat
        · rw [hdg] at CDX
          cases hun : ((s[k].toNat : Int) == 95)
          · have HEND := Lib.hid (show m = k from HE.out.symm.trans (runP_no hkl (by rw [lst_get s k hlt hkl]; unfold wrd; rw [hl, hdg, hun]; rfl)))
            have HASC := Lib.hid (show ∀ c ∈ (lst s).take k, c.toNat < 128 from fun c hc => wrd_ascii (HALL.out c (by rw [HEND.out]; exact hc)))
            have HR := Lib.hid (show wordAt ((lst s).take k) k = res by rw [← HR0.out, HEND.out])
            have hsz : (s.extract 0 k).size ≤ 100000 := by rw [ByteArray.size_extract]; omega
            have CU := Lib.hid (show ∀ W, LEnv W → Calls Tryd.prog 30 #[.string (s.extract 0 k)] W fun e w' => e = .returned (.string ⟨(((lst s).take k).map upB).toArray⟩) ∧ Below W.heap.size W w' by
              intro W hW
              have h := Upper_any (s.extract 0 k) W hsz hW
              rw [lst_extract, List.drop_zero, Nat.sub_zero, map_up _ HASC.out] at h
              exact h)
            have CW := Lib.hid (show ∀ W, LEnv W → Calls Tryd.prog 54 #[.string (s.extract 0 k)] W fun e w' => e = .returned (.string ⟨(((lst s).take k).map loB).toArray⟩) ∧ Below W.heap.size W w' by
              intro W hW
              have h := Lower_any (s.extract 0 k) W hsz hW
              rw [lst_extract, List.drop_zero, Nat.sub_zero, map_lo _ HASC.out] at h
              exact h)
            obtain ⟨u, hu⟩ : ∃ u : ByteArray, (⟨(((lst s).take k).map upB).toArray⟩ : ByteArray) = u := ⟨_, rfl⟩
            have CKW := Lib.hid (show ∀ W, Calls Tryd.prog 29 #[.string u] W fun e w' => e = .returned (.bool (kwL (((lst s).take k).map upB))) ∧ w' = W by
              intro W
              have h := isKeyword_any u W
              rw [← hu] at h
              rw [← hu]
              exact h)
            obtain ⟨v, hv⟩ : ∃ v : ByteArray, (⟨(((lst s).take k).map loB).toArray⟩ : ByteArray) = v := ⟨_, rfl⟩
            rw [hu] at CU
            rw [hv] at CW
            have HU := Lib.hid hu
            have HV := Lib.hid hv
            clear hu hv hsz
            go_wp2_with fail
            refine (CLX.out _).mono ?_
            rintro e wa ⟨rfl, hw⟩
            replace hw := hw.symm
            subst hw
            go_wp2_with fail
            refine (CDX.out _).mono ?_
            rintro e wb ⟨rfl, hw⟩
            replace hw := hw.symm
            subst hw
            go_wp2_with fail
            refine (CU.out _ HEW.out).mono ?_
            rintro e w3 ⟨rfl, hb⟩
            have Zw3 := Lib.hid (ZW0.out.below hb)
            have Bw3 := Lib.hid (BW0.out.trans (hb.mono BW0.out.size))
            clear hb zf c0 c1 c2
            have zf : ∀ j, w3.frozen? ⟨w.heap.size, j, none⟩ = false := fun j => Joins.unfrozen_of_block Zw3.out _
            have c0 : w3.cell? ⟨w.heap.size, 0, none⟩ = some (.int .i64 0) := Zw3.out.cell 0
            have c1 : w3.cell? ⟨w.heap.size, 1, none⟩ = some (.string ⟨#[]⟩) := Zw3.out.cell 1
            have c2 : w3.cell? ⟨w.heap.size, 2, none⟩ = some (.int .i64 0) := Zw3.out.cell 2
            cases hkw : kwL (((lst s).take k).map upB)
            · rw [hkw] at CKW
              go_wp2_with fail
              refine (CKW.out _).mono ?_
              rintro e w4 ⟨rfl, hw⟩
              replace hw := hw.symm
              subst hw
              by_cases h24 : 24 < k
              · have HF := Lib.hid (show (⟨0, [], 0, 3⟩ : TR) = res by rw [← HR.out]; unfold wordAt; rw [if_neg (by rw [hkw]; decide), if_pos h24])
                have h24i : (24 : Int) < k := by omega
                have S3 := store3 Zw3.out (.int .i64 0) (.string ⟨#[]⟩) (.int .i64 0)
                have HX := Lib.hid (S3.2 _ _ Bw3.out (Nat.le_refl _))
                have HK := Lib.hid S3.1
                clear S3
                go_wp2
                refine bodyPost_ret (results_c3 rfl _ _ _ w.heap.size _ rfl (load37 HK.out rfl)) rfl ?_
                rw [← HF.out]
                exact ⟨rfl, HX.out⟩
              · have HF := Lib.hid (show (⟨1, ((lst s).take k).map loB, k, 0⟩ : TR) = res by rw [← HR.out]; unfold wordAt; rw [if_neg (by rw [hkw]; decide), if_neg h24])
                have h24i : ¬ (24 : Int) < k := by omega
                have HE3 := Lib.hid (HE0.out.below (Bw3.out.mono (Nat.le_refl _)))
                go_wp2_with fail
                refine (CW.out _ HE3.out).mono ?_
                rintro e w5 ⟨rfl, hb⟩
                have Zw5 := Lib.hid (Zw3.out.below hb)
                have Bw5 := Lib.hid (Bw3.out.trans (hb.mono Bw3.out.size))
                clear hb zf c0 c1 c2
                have zf : ∀ j, w5.frozen? ⟨w.heap.size, j, none⟩ = false := fun j => Joins.unfrozen_of_block Zw5.out _
                have c0 : w5.cell? ⟨w.heap.size, 0, none⟩ = some (.int .i64 0) := Zw5.out.cell 0
                have c1 : w5.cell? ⟨w.heap.size, 1, none⟩ = some (.string ⟨#[]⟩) := Zw5.out.cell 1
                have c2 : w5.cell? ⟨w.heap.size, 2, none⟩ = some (.int .i64 0) := Zw5.out.cell 2
                have S3 := store3 Zw5.out (.int .i64 1) (.string v) (.int .i64 0)
                have HX := Lib.hid (S3.2 _ _ Bw5.out (Nat.le_refl _))
                have HK := Lib.hid S3.1
                clear S3
                go_wp2
                refine bodyPost_ret (results_c3 rfl _ _ _ w.heap.size _ rfl (load37 HK.out rfl)) rfl ?_
                rw [← HF.out]
                exact ⟨by unfold TR.val; simp only [HV.out]; rfl, HX.out⟩
            · rw [hkw] at CKW
              go_wp2_with fail
              refine (CKW.out _).mono ?_
              rintro e w4 ⟨rfl, hw⟩
              replace hw := hw.symm
              subst hw
              have HF := Lib.hid (show (⟨2, ((lst s).take k).map upB, k, 0⟩ : TR) = res by rw [← HR.out]; unfold wordAt; rw [if_pos hkw])
              have S3 := store3 Zw3.out (.int .i64 2) (.string u) (.int .i64 0)
              have HX := Lib.hid (S3.2 _ _ Bw3.out (Nat.le_refl _))
              have HK := Lib.hid S3.1
              clear S3
              go_wp2
              refine bodyPost_ret (results_c3 rfl _ _ _ w.heap.size _ rfl (load37 HK.out rfl)) rfl ?_
              rw [← HF.out]
              exact ⟨by unfold TR.val; simp only [HU.out]; rfl, HX.out⟩
          · have HQ := Lib.hid (show runP wrd (lst s) (k + 1) = m by rw [← runP_yes hkl (by rw [lst_get s k hlt hkl]; unfold wrd; rw [hl, hdg, hun]; rfl)]; exact HE.out)
            go_wp2_with fail
            refine (CLX.out _).mono ?_
            rintro e wa ⟨rfl, hw⟩
            replace hw := hw.symm
            subst hw
            go_wp2_with fail
            refine (CDX.out _).mono ?_
            rintro e wb ⟨rfl, hw⟩
            replace hw := hw.symm
            subst hw
            go_wp2
            go_round
            case rel => exact ⟨k + 1, by omega, hlt, by go_num, HQ.out⟩
            case measure => simp [intOf]; omega
        · rw [hdg] at CDX
          have HQ := Lib.hid (show runP wrd (lst s) (k + 1) = m by rw [← runP_yes hkl (by rw [lst_get s k hlt hkl]; unfold wrd; rw [hl, hdg]; rfl)]; exact HE.out)
          go_wp2_with fail
          refine (CLX.out _).mono ?_
          rintro e wa ⟨rfl, hw⟩
          replace hw := hw.symm
          subst hw
          go_wp2_with fail
          refine (CDX.out _).mono ?_
          rintro e wb ⟨rfl, hw⟩
          replace hw := hw.symm
          subst hw
          go_wp2
          go_round
          case rel => exact ⟨k + 1, by omega, hlt, by go_num, HQ.out⟩
          case measure => simp [intOf]; omega
      · rw [hl] at CLX
        have HQ := Lib.hid (show runP wrd (lst s) (k + 1) = m by rw [← runP_yes hkl (by rw [lst_get s k hlt hkl]; unfold wrd; rw [hl]; rfl)]; exact HE.out)
        go_wp2_with fail
        refine (CLX.out _).mono ?_
        rintro e wa ⟨rfl, hw⟩
        replace hw := hw.symm
        subst hw
        go_wp2
        go_round
        case rel => exact ⟨k + 1, by omega, hlt, by go_num, HQ.out⟩
        case measure => simp [intOf]; omega
    · have hle : ¬ (k : Int) < s.size := by omega
      have HEND := Lib.hid (show m = k from HE.out.symm.trans (runP_end (by rw [HL.out]; omega)))
      have HASC := Lib.hid (show ∀ c ∈ (lst s).take k, c.toNat < 128 from fun c hc => wrd_ascii (HALL.out c (by rw [HEND.out]; exact hc)))
      have HR := Lib.hid (show wordAt ((lst s).take k) k = res by rw [← HR0.out, HEND.out])
      have hsz : (s.extract 0 k).size ≤ 100000 := by rw [ByteArray.size_extract]; omega
      have CU := Lib.hid (show ∀ W, LEnv W → Calls Tryd.prog 30 #[.string (s.extract 0 k)] W fun e w' => e = .returned (.string ⟨(((lst s).take k).map upB).toArray⟩) ∧ Below W.heap.size W w' by
        intro W hW
        have h := Upper_any (s.extract 0 k) W hsz hW
        rw [lst_extract, List.drop_zero, Nat.sub_zero, map_up _ HASC.out] at h
        exact h)
      have CW := Lib.hid (show ∀ W, LEnv W → Calls Tryd.prog 54 #[.string (s.extract 0 k)] W fun e w' => e = .returned (.string ⟨(((lst s).take k).map loB).toArray⟩) ∧ Below W.heap.size W w' by
        intro W hW
        have h := Lower_any (s.extract 0 k) W hsz hW
        rw [lst_extract, List.drop_zero, Nat.sub_zero, map_lo _ HASC.out] at h
        exact h)
      obtain ⟨u, hu⟩ : ∃ u : ByteArray, (⟨(((lst s).take k).map upB).toArray⟩ : ByteArray) = u := ⟨_, rfl⟩
      have CKW := Lib.hid (show ∀ W, Calls Tryd.prog 29 #[.string u] W fun e w' => e = .returned (.bool (kwL (((lst s).take k).map upB))) ∧ w' = W by
        intro W
        have h := isKeyword_any u W
        rw [← hu] at h
        rw [← hu]
        exact h)
      obtain ⟨v, hv⟩ : ∃ v : ByteArray, (⟨(((lst s).take k).map loB).toArray⟩ : ByteArray) = v := ⟨_, rfl⟩
      rw [hu] at CU
      rw [hv] at CW
      have HU := Lib.hid hu
      have HV := Lib.hid hv
      clear hu hv hsz
      go_wp2_with fail
      refine (CU.out _ HEW.out).mono ?_
      rintro e w3 ⟨rfl, hb⟩
      have Zw3 := Lib.hid (ZW0.out.below hb)
      have Bw3 := Lib.hid (BW0.out.trans (hb.mono BW0.out.size))
      clear hb zf c0 c1 c2
      have zf : ∀ j, w3.frozen? ⟨w.heap.size, j, none⟩ = false := fun j => Joins.unfrozen_of_block Zw3.out _
      have c0 : w3.cell? ⟨w.heap.size, 0, none⟩ = some (.int .i64 0) := Zw3.out.cell 0
      have c1 : w3.cell? ⟨w.heap.size, 1, none⟩ = some (.string ⟨#[]⟩) := Zw3.out.cell 1
      have c2 : w3.cell? ⟨w.heap.size, 2, none⟩ = some (.int .i64 0) := Zw3.out.cell 2
      cases hkw : kwL (((lst s).take k).map upB)
      · rw [hkw] at CKW
        go_wp2_with fail
        refine (CKW.out _).mono ?_
        rintro e w4 ⟨rfl, hw⟩
        replace hw := hw.symm
        subst hw
        by_cases h24 : 24 < k
        · have HF := Lib.hid (show (⟨0, [], 0, 3⟩ : TR) = res by rw [← HR.out]; unfold wordAt; rw [if_neg (by rw [hkw]; decide), if_pos h24])
          have h24i : (24 : Int) < k := by omega
          have S3 := store3 Zw3.out (.int .i64 0) (.string ⟨#[]⟩) (.int .i64 0)
          have HX := Lib.hid (S3.2 _ _ Bw3.out (Nat.le_refl _))
          have HK := Lib.hid S3.1
          clear S3
          go_wp2
          refine bodyPost_ret (results_c3 rfl _ _ _ w.heap.size _ rfl (load37 HK.out rfl)) rfl ?_
          rw [← HF.out]
          exact ⟨rfl, HX.out⟩
        · have HF := Lib.hid (show (⟨1, ((lst s).take k).map loB, k, 0⟩ : TR) = res by rw [← HR.out]; unfold wordAt; rw [if_neg (by rw [hkw]; decide), if_neg h24])
          have h24i : ¬ (24 : Int) < k := by omega
          have HE3 := Lib.hid (HE0.out.below (Bw3.out.mono (Nat.le_refl _)))
          go_wp2_with fail
          refine (CW.out _ HE3.out).mono ?_
          rintro e w5 ⟨rfl, hb⟩
          have Zw5 := Lib.hid (Zw3.out.below hb)
          have Bw5 := Lib.hid (Bw3.out.trans (hb.mono Bw3.out.size))
          clear hb zf c0 c1 c2
          have zf : ∀ j, w5.frozen? ⟨w.heap.size, j, none⟩ = false := fun j => Joins.unfrozen_of_block Zw5.out _
          have c0 : w5.cell? ⟨w.heap.size, 0, none⟩ = some (.int .i64 0) := Zw5.out.cell 0
          have c1 : w5.cell? ⟨w.heap.size, 1, none⟩ = some (.string ⟨#[]⟩) := Zw5.out.cell 1
          have c2 : w5.cell? ⟨w.heap.size, 2, none⟩ = some (.int .i64 0) := Zw5.out.cell 2
          have S3 := store3 Zw5.out (.int .i64 1) (.string v) (.int .i64 0)
          have HX := Lib.hid (S3.2 _ _ Bw5.out (Nat.le_refl _))
          have HK := Lib.hid S3.1
          clear S3
          go_wp2
          refine bodyPost_ret (results_c3 rfl _ _ _ w.heap.size _ rfl (load37 HK.out rfl)) rfl ?_
          rw [← HF.out]
          exact ⟨by unfold TR.val; simp only [HV.out]; rfl, HX.out⟩
      · rw [hkw] at CKW
        go_wp2_with fail
        refine (CKW.out _).mono ?_
        rintro e w4 ⟨rfl, hw⟩
        replace hw := hw.symm
        subst hw
        have HF := Lib.hid (show (⟨2, ((lst s).take k).map upB, k, 0⟩ : TR) = res by rw [← HR.out]; unfold wordAt; rw [if_pos hkw])
        have S3 := store3 Zw3.out (.int .i64 2) (.string u) (.int .i64 0)
        have HX := Lib.hid (S3.2 _ _ Bw3.out (Nat.le_refl _))
        have HK := Lib.hid S3.1
        clear S3
        go_wp2
        refine bodyPost_ret (results_c3 rfl _ _ _ w.heap.size _ rfl (load37 HK.out rfl)) rfl ?_
        rw [← HF.out]
        exact ⟨by unfold TR.val; simp only [HU.out]; rfl, HX.out⟩
end Go.Proofs.YtdkkflmhpncglaaDoor
