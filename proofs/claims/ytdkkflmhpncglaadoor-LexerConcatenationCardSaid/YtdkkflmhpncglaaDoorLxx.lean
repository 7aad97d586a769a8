/- Texts. -/
import Derived.Test.YtdkkflmhpncglaaDoorLxd
namespace Go.Proofs.YtdkkflmhpncglaaDoor
open Go.ChangeShapes Go.WideShapes Go.ChangeAt Go.RowKit Go.ChangeMaps

theorem ext_mid (s : ByteArray) (k : Nat) (t : List UInt8) (h : ((lst s).take k).drop 1 = dbl t) : lst (s.extract 1 k) = dbl t := by
  rw [lst_extract, ← h, List.drop_take]
theorem unq_any (s : ByteArray) (k : Nat) (t : List UInt8) (W : World) (hs : s.size ≤ 100000) (hk : k ≤ s.size) (h : ((lst s).take k).drop 1 = dbl t) (hE : LEnv W) : Calls Tryd.prog 51 #[.string (s.extract 1 k), .string ⟨#[39, 39]⟩, .string ⟨#[39]⟩] W fun e w' => e = .returned (.string ⟨t.toArray⟩) ∧ Below W.heap.size W w' := by
  obtain ⟨m, hm⟩ := hE.max
  have hsz : (s.extract 1 k).size ≤ s.size := by rw [ByteArray.size_extract]; omega
  have hc := Lib.countB_mul_le ⟨#[39, 39]⟩ (by decide) _ (s.extract 1 k) (Nat.le_refl _)
  have hc2 : Lib.countB (s.extract 1 k) ⟨#[39, 39]⟩ * 2 ≤ (s.extract 1 k).size := hc
  have hr := Tryd.strings_ReplaceAll (s.extract 1 k) ⟨#[39, 39]⟩ ⟨#[39]⟩ m W (by omega) hm (by decide) (by
    show (s.extract 1 k).size + Lib.countB (s.extract 1 k) ⟨#[39, 39]⟩ * 1 ≤ _
    omega)
  have e1 : (s.extract 1 k).data.toList = dbl t := ext_mid s k t h
  rw [e1] at hr
  have e2 : Lib.replaceAll (dbl t) (⟨#[39, 39]⟩ : ByteArray).data.toList (⟨#[39]⟩ : ByteArray).data.toList = t := undbl t
  rw [e2] at hr
  exact hr
theorem mid_one (l : List UInt8) (k : Nat) (t : List UInt8) (hk1 : 1 ≤ k) (hk : k < l.length) (h : (l.take k).drop 1 = dbl t) (hc : l[k] ≠ 39) : (l.take (k + 1)).drop 1 = dbl (t ++ [l[k]]) := by
  rw [List.take_succ_eq_append_getElem hk, List.drop_append_of_le_length (by rw [List.length_take]; omega), h, dbl_app, dbl_one _ hc]
theorem mid_two (l : List UInt8) (k : Nat) (t : List UInt8) (hk1 : 1 ≤ k) (hk : k < l.length) (h : (l.take k).drop 1 = dbl t) (hc : l[k] = 39) (h2 : (l.drop (k + 1)).head? = some 39) : k + 2 ≤ l.length ∧ (l.take (k + 2)).drop 1 = dbl (t ++ [39]) := by
  have hk2 : k + 1 < l.length := by
    rcases Nat.lt_or_ge (k + 1) l.length with h | h
    · exact h
    · rw [List.drop_eq_nil_of_le h] at h2; cases h2
  rw [List.drop_eq_getElem_cons hk2] at h2
  have hd : l[k + 1] = 39 := Option.some.inj h2
  refine ⟨hk2, ?_⟩
  rw [show k + 2 = k + 1 + 1 from rfl, List.take_succ_eq_append_getElem hk2, List.take_succ_eq_append_getElem hk, List.append_assoc, List.drop_append_of_le_length (by rw [List.length_take]; omega), h, hc, hd, dbl_app]
  rfl
set_option maxRecDepth 100000 in
set_option maxHeartbeats 2000000 in
theorem text_any (s : ByteArray) (w : World) (hs : s.size ≤ 100000) (hn : 0 < s.size) (hE0 : LEnv w) : Calls Tryd.prog 35 #[.string s] w fun e w' => e = .returned (textR (lst s)).val ∧ Below w.heap.size w w' := by
  have HL := Lib.hid (lst_len s)
  have HE0 := Lib.hid hE0
  clear hE0
  have HR0 := Lib.hid (show textR (lst s) = textAt (litP (lst s) 1 []) from rfl)
  obtain ⟨res, hres⟩ : ∃ z, textR (lst s) = z := ⟨_, rfl⟩
  rw [hres] at HR0
  rw [hres]
  clear hres
  obtain ⟨R, hR⟩ : ∃ m, litP (lst s) 1 [] = m := ⟨_, rfl⟩
  rw [hR] at HR0
  have HR := Lib.hid hR
  clear hR
  have HRES := Lib.hid HR0.out.symm
  clear HR0
  have CP := Lib.hid (fun (x : Nat) w => isPrintable_any x w)
  have HP := Lib.hid (fun (t : ByteArray) w => Tryd.strings_HasPrefix t ⟨#[39, 39]⟩ w)
  obtain ⟨W0, hW0⟩ : ∃ W, W = w.alloc (.cells #[.int .i64 0, .string ⟨#[]⟩, .int .i64 0] 37) := ⟨_, rfl⟩
  have BW0 := Lib.hid (show Below w.heap.size w W0 by rw [hW0]; exact (Below.refl _ w).alloc (Nat.le_refl _) _)
  have ZW0 := Lib.hid (show Blk W0 w.heap.size 37 #[.int .i64 0, .string ⟨#[]⟩, .int .i64 0] by rw [hW0]; exact Blk.new _ _ _)
  have zf : ∀ j, W0.frozen? ⟨w.heap.size, j, none⟩ = false := fun j => Joins.unfrozen_of_block ZW0.out _
  have c0 : W0.cell? ⟨w.heap.size, 0, none⟩ = some (.int .i64 0) := ZW0.out.cell 0
  have c1 : W0.cell? ⟨w.heap.size, 1, none⟩ = some (.string ⟨#[]⟩) := ZW0.out.cell 1
  have c2 : W0.cell? ⟨w.heap.size, 2, none⟩ = some (.int .i64 0) := ZW0.out.cell 2
  go_enter Tryd.func35, Tryd.ntmps35
  go_upto_region 1 with fail
  rw [← hW0]
  clear hW0
  have HEW := Lib.hid (HE0.out.below BW0.out)
  go_wp2
  go_loop [5] (fun s5 => ∃ (k : Nat) (t : List UInt8), 1 ≤ k ∧ k ≤ s.size ∧ s5 = .int .i64 (k : Int) ∧ litP (lst s) k t = R ∧ ((lst s).take k).drop 1 = dbl t) (fun s5 => s.size - (intOf s5).toNat)
  case atStart => exact ⟨1, [], Nat.le_refl _, by omega, rfl, HR.out, by
    apply List.drop_eq_nil_of_le
    rw [List.length_take]
    omega⟩
  case round =>
    obtain ⟨k, t, hk1, hkn, rfl, hE, hM⟩ := hrel
    have HE := Lib.hid hE
    have HM := Lib.hid hM
    clear hE hM
    have hk0 : (0 : Int) ≤ (k : Int) := by omega
    have hk1i : (1 : Int) ≤ (k : Int) := by omega
    have hkn2 : (k : Int) ≤ s.size := by omega
    by_cases hlt : k < s.size
    · have hkl : k < (lst s).length := by rw [HL.out]; exact hlt
      have hki : (k : Int) < s.size := by omega
      have HG := Lib.hid (lst_get s k hlt hkl)
      have CPX := Lib.hid (CP.out s[k].toNat)
      cases hp : prtN s[k].toNat
      · rw [hp] at CPX
        have HN := Lib.hid (show none = R by rw [← HE.out, litP_bad _ k t hkl (by rw [HG.out]; exact hp)])
        have HF := Lib.hid (show (⟨0, [], 0, 2⟩ : TR) = res by rw [← HRES.out, ← HN.out]; rfl)
        go_wp2_with fail
        refine (CPX.out _).mono ?_
        rintro e wa ⟨rfl, hw⟩
        replace hw := hw.symm
        subst hw
        have S3 := store3 ZW0.out (.int .i64 0) (.string ⟨#[]⟩) (.int .i64 0)
        have HX := Lib.hid (S3.2 _ _ BW0.out (Nat.le_refl _))
        have HK := Lib.hid S3.1
        clear S3
        go_wp2
        refine bodyPost_ret (results_c3 rfl _ _ _ w.heap.size _ rfl (load37 HK.out rfl)) rfl ?_
        rw [← HF.out]
        exact ⟨rfl, HX.out⟩
      · rw [hp] at CPX
        cases hq : ((s[k].toNat : Int) == 39)
        · have HC := Lib.hid (show (lst s)[k] ≠ 39 by rw [HG.out]; intro e; have := (quo_iff _).1 e; rw [this] at hq; exact absurd hq (by decide))
          have HQ := Lib.hid (show litP (lst s) (k + 1) (t ++ [(lst s)[k]]) = R by rw [← litP_one _ k t hkl (by rw [HG.out]; exact hp) HC.out]; exact HE.out)
          have HQ2 := Lib.hid (mid_one _ k t hk1 hkl HM.out HC.out)
          go_wp2_with fail
          refine (CPX.out _).mono ?_
          rintro e wa ⟨rfl, hw⟩
          replace hw := hw.symm
          subst hw
          go_wp2
          go_round
          case rel => exact ⟨k + 1, _, by omega, hlt, by go_num, HQ.out, HQ2.out⟩
          case measure => simp [intOf]; omega
        · have HC := Lib.hid (show (lst s)[k] = 39 by rw [HG.out]; exact (quo_iff _).2 (beq_iff_eq.1 hq))
          have HPT := Lib.hid (pre_q (lst s) k hkl)
          have HPV := Lib.hid (show Lib.hasPrefix (s.extract k s.size).data.toList (⟨#[39, 39]⟩ : ByteArray).data.toList = Lib.hasPrefix ((lst s).drop k) [39, 39] by rw [← lst_from])
          have HPC := Lib.hid (fun w => show Calls Tryd.prog 37 #[.string (s.extract k s.size), .string ⟨#[39, 39]⟩] w fun e w' => e = .returned (.bool (Lib.hasPrefix ((lst s).drop k) [39, 39])) ∧ w' = w by rw [← HPV.out]; exact HP.out _ w)
          cases hhp : Lib.hasPrefix ((lst s).drop k) [39, 39]
          · rw [hhp] at HPC HPT
            have HST := Lib.hid (show some (t, k + 1) = R by rw [← HE.out, litP_stop _ k t hkl HC.out (fun h => by have := HPT.out.2 ⟨HC.out, h⟩; cases this)])
            have CU := Lib.hid (fun W hW => unq_any s k t W hs hkn HM.out hW)
            have HUS := Lib.hid (show (⟨t.toArray⟩ : ByteArray).size = t.length from rfl)
            obtain ⟨u, hu⟩ : ∃ u : ByteArray, (⟨t.toArray⟩ : ByteArray) = u := ⟨_, rfl⟩
            rw [hu] at CU HUS
            have HU := Lib.hid hu
            clear hu
            have hwk : IntKind.i64.wrap ((k : Int) + 1) = (k : Int) + 1 := by rw [IntKind.wrap_i64]; omega
            go_wp2_with fail
            refine (CPX.out _).mono ?_
            rintro e wa ⟨rfl, hw⟩
            replace hw := hw.symm
            subst hw
            go_wp2_with fail
            refine (HPC.out _).mono ?_
            rintro e wb ⟨rfl, hw⟩
            replace hw := hw.symm
            subst hw
            go_wp2_with fail
            refine (CU.out _ HEW.out).mono ?_
            rintro e w3 ⟨rfl, hb⟩
            have Zw3 := Lib.hid (ZW0.out.below hb)
            have Bw3 := Lib.hid (BW0.out.trans (hb.mono BW0.out.size))
            clear hb zf c0 c1 c2
            have zf : ∀ j, w3.frozen? ⟨w.heap.size, j, none⟩ = false := fun j => Joins.unfrozen_of_block Zw3.out _
            have c0 : w3.cell? ⟨w.heap.size, 0, none⟩ = some (.int .i64 0) := Zw3.out.cell 0
            have c1 : w3.cell? ⟨w.heap.size, 1, none⟩ = some (.string ⟨#[]⟩) := Zw3.out.cell 1
            have c2 : w3.cell? ⟨w.heap.size, 2, none⟩ = some (.int .i64 0) := Zw3.out.cell 2
            by_cases h16 : 16 < t.length
            · have HF := Lib.hid (show (⟨0, [], 0, 3⟩ : TR) = res by rw [← HRES.out, ← HST.out]; exact (if_pos h16).symm)
              have h16i : (16 : Int) < u.size := by rw [HUS.out]; omega
              have S3 := store3 Zw3.out (.int .i64 0) (.string ⟨#[]⟩) (.int .i64 0)
              have HX := Lib.hid (S3.2 _ _ Bw3.out (Nat.le_refl _))
              have HK := Lib.hid S3.1
              clear S3
              go_wp2
              refine bodyPost_ret (results_c3 rfl _ _ _ w.heap.size _ rfl (load37 HK.out rfl)) rfl ?_
              rw [← HF.out]
              exact ⟨rfl, HX.out⟩
            · have HF := Lib.hid (show (⟨4, t, k + 1, 0⟩ : TR) = res by rw [← HRES.out, ← HST.out]; exact (if_neg h16).symm)
              have h16i : ¬ (16 : Int) < u.size := by rw [HUS.out]; omega
              have S3 := store3 Zw3.out (.int .i64 4) (.string u) (.int .i64 0)
              have HX := Lib.hid (S3.2 _ _ Bw3.out (Nat.le_refl _))
              have HK := Lib.hid S3.1
              clear S3
              go_wp2
              refine bodyPost_ret (results_c3 rfl _ _ _ w.heap.size _ rfl (load37 HK.out rfl)) rfl ?_
              rw [← HF.out]
              exact ⟨by unfold TR.val; simp only [HU.out]; rfl, HX.out⟩
          · rw [hhp] at HPC HPT
            have HH := Lib.hid (HPT.out.1 rfl).2
            have HQ := Lib.hid (show litP (lst s) (k + 2) (t ++ [39]) = R by rw [← litP_two _ k t hkl HC.out HH.out]; exact HE.out)
            have HQ2 := Lib.hid (mid_two _ k t hk1 hkl HM.out HC.out HH.out)
            have hk2 : k + 2 ≤ s.size := by rw [← HL.out]; exact HQ2.out.1
            have hk2i : (k : Int) + 2 ≤ s.size := by omega
            go_wp2_with fail
            refine (CPX.out _).mono ?_
            rintro e wa ⟨rfl, hw⟩
            replace hw := hw.symm
            subst hw
            go_wp2_with fail
            refine (HPC.out _).mono ?_
            rintro e wb ⟨rfl, hw⟩
            replace hw := hw.symm
            subst hw
            go_wp2
            go_round
            case rel => exact ⟨k + 2, _, by omega, hk2, by go_num, HQ.out, HQ2.out.2⟩
            case measure => simp [intOf]; omega
    · have hle : ¬ (k : Int) < s.size := by omega
      have HN := Lib.hid (show none = R by rw [← HE.out, litP_end _ k t (by rw [HL.out]; omega)])
      have HF := Lib.hid (show (⟨0, [], 0, 2⟩ : TR) = res by rw [← HRES.out, ← HN.out]; rfl)
      have S3 := store3 ZW0.out (.int .i64 0) (.string ⟨#[]⟩) (.int .i64 0)
      have HX := Lib.hid (S3.2 _ _ BW0.out (Nat.le_refl _))
      have HK := Lib.hid S3.1
      clear S3
      go_wp2
      refine bodyPost_ret (results_c3 rfl _ _ _ w.heap.size _ rfl (load37 HK.out rfl)) rfl ?_
      rw [← HF.out]
      exact ⟨rfl, HX.out⟩
end Go.Proofs.YtdkkflmhpncglaaDoor
