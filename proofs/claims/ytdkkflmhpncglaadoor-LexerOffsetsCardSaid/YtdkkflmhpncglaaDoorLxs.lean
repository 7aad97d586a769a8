/- White space and comments skipped: the walks. -/
import Derived.Test.YtdkkflmhpncglaaDoorLxm
namespace Go.Proofs.YtdkkflmhpncglaaDoor
open Go.ChangeShapes Go.WideShapes Go.ChangeAt Go.RowKit Go.ChangeMaps

theorem spc_iff (c : UInt8) : spcN c.toNat = (((c.toNat : Int) == 32) || ((c.toNat : Int) == 9) || ((c.toNat : Int) == 10)) := rfl
theorem ten_iff (c : UInt8) : c = 10 ↔ (c.toNat : Int) = 10 := by
  rw [← UInt8.toNat_inj]
  show c.toNat = 10 ↔ _
  omega
theorem dash_iff (c : UInt8) : c = 45 ↔ (c.toNat : Int) = 45 := by
  rw [← UInt8.toNat_inj]
  show c.toNat = 45 ↔ _
  omega
set_option maxRecDepth 100000 in
set_option maxHeartbeats 1000000 in
theorem skip_any (s : ByteArray) (k0 : Nat) (w : World) (hs : s.size ≤ 100000) (hk0 : k0 ≤ s.size) : Calls Tryd.prog 23 #[.string s, .int .i64 (k0 : Int)] w fun e w' => e = .returned (.int .i64 (skP (lst s) k0 : Nat)) ∧ w' = w := by
  have HL := Lib.hid (lst_len s)
  obtain ⟨res, hres⟩ : ∃ z, skP (lst s) k0 = z := ⟨_, rfl⟩
  rw [hres]
  have HRES := Lib.hid hres
  clear hres
  have HP := Lib.hid (fun (t : ByteArray) w => Tryd.strings_HasPrefix t ⟨#[45, 45]⟩ w)
  have HX := Lib.hid (fun (t : ByteArray) w => Tryd.strings_IndexByte t 10 w)
  go_enter Tryd.func23, Tryd.ntmps23
  go_wp2
  go_loop [1] (fun s1 => ∃ k : Nat, k ≤ s.size ∧ s1 = .int .i64 (k : Int) ∧ skP (lst s) k = res) (fun s1 => s.size - (intOf s1).toNat)
  case atStart => exact ⟨k0, hk0, rfl, HRES.out⟩
  case round =>
    obtain ⟨k, hkn, rfl, hE⟩ := hrel
    have HE := Lib.hid hE
    clear hE
    by_cases hlt : k < s.size
    · have hkl : k < (lst s).length := by rw [HL.out]; exact hlt
      have hki : (k : Int) < s.size := by omega
      have hki0 : (0 : Int) ≤ (k : Int) := by omega
      cases t0 : ((s[k].toNat : Int) == 32)
      · cases t1 : ((s[k].toNat : Int) == 9)
        · cases t2 : ((s[k].toNat : Int) == 10)
          · have hsp : spcN (lst s)[k].toNat = false := by rw [lst_get s k hlt hkl, spc_iff, t0, t1, t2]; rfl
            have HPT := Lib.hid (pre_two (lst s) k hkl)
            have HPV := Lib.hid (show Lib.hasPrefix (s.extract k s.size).data.toList (⟨#[45, 45]⟩ : ByteArray).data.toList = Lib.hasPrefix ((lst s).drop k) [45, 45] by rw [← lst_from])
            have HPC := Lib.hid (fun w => show Calls Tryd.prog 37 #[.string (s.extract k s.size), .string ⟨#[45, 45]⟩] w fun e w' => e = .returned (.bool (Lib.hasPrefix ((lst s).drop k) [45, 45])) ∧ w' = w by rw [← HPV.out]; exact HP.out _ w)
            have HSP := Lib.hid hsp
            clear hsp
            generalize Lib.hasPrefix ((lst s).drop k) [45, 45] = hp at *
            go_wp2_with fail
            refine (HPC.out _).mono ?_
            rintro e w2 ⟨rfl, hw⟩
            replace hw := hw.symm
            subst hw
            cases hp
            · have HQ := Lib.hid (show k = res by rw [← HE.out, skP_stop (lst s) k hkl HSP.out (fun h => by have := HPT.out.2 h; cases this)])
              go_wp2
              go_ret
              exact ⟨ret_int (by rw [← HQ.out]), rfl⟩
            · obtain ⟨hd, hh⟩ := HPT.out.1 rfl
              have HQ0 := Lib.hid (show skQ true (lst s) k = res by rw [← HE.out, skP_comment (lst s) k hkl hd hh])
              have HIL := Lib.hid (idx_line (lst s) k (by rw [HL.out]; exact hkn))
              have HXC := Lib.hid (fun w => show Calls Tryd.prog 38 #[.string (s.extract k s.size), .int .u8 10] w fun e w' => e = .returned (.int .i64 (Lib.indexByte ((lst s).drop k) 10)) ∧ w' = w by rw [← lst_from]; exact HX.out _ w)
              have HGE := Lib.hid (Lib.indexByte_ge ((lst s).drop k) 10)
              have HM0 := Lib.hid (show ∀ m : Nat, Lib.indexByte ((lst s).drop k) 10 = m → 0 < m from fun m hm => by
                rw [List.drop_eq_getElem_cons hkl, hd] at hm
                unfold Lib.indexByte at hm
                rw [if_neg (by decide)] at hm
                have := Lib.indexByte_ge ((lst s).drop (k + 1)) 10
                split at hm
                · omega
                · rename_i h
                  have : Lib.indexByte ((lst s).drop (k + 1)) 10 ≠ -1 := by simpa using h
                  omega)
              clear hd hh
              generalize Lib.indexByte ((lst s).drop k) 10 = n at *
              go_wp2_with fail
              refine (HXC.out _).mono ?_
              rintro e w2 ⟨rfl, hw⟩
              replace hw := hw.symm
              subst hw
              have hge := HGE.out
              by_cases hn : n < 0
              · have HQ := Lib.hid (show s.size = res by rw [← HQ0.out, HIL.out.1 (by omega), HL.out])
                clear hge
                go_wp2
                go_ret
                exact ⟨ret_int (by rw [← HQ.out]), rfl⟩
              · obtain ⟨m, rfl⟩ : ∃ m : Nat, n = m := ⟨n.toNat, by omega⟩
                obtain ⟨j1, j2⟩ := HIL.out.2 m rfl
                rw [HL.out] at j1
                have hkx : (lst s).length = s.size := HL.out
                have hm0 : 0 < m := HM0.out m rfl
                have HQ := Lib.hid (show skP (lst s) (k + m) = res by rw [← HQ0.out, j2])
                clear j2 hge
                go_wp2
                go_round
                case rel => exact ⟨k + m, by omega, by go_num, HQ.out⟩
                case measure => simp [intOf]; omega
          · have HQ := Lib.hid (show skP (lst s) (k + 1) = res by rw [← HE.out, skP_space (lst s) k hkl (by rw [lst_get s k hlt hkl, spc_iff, t0, t1, t2]; rfl)])
            go_wp2
            go_round
            case rel => exact ⟨k + 1, hlt, by go_num, HQ.out⟩
            case measure => simp [intOf]; omega
        · have HQ := Lib.hid (show skP (lst s) (k + 1) = res by rw [← HE.out, skP_space (lst s) k hkl (by rw [lst_get s k hlt hkl, spc_iff, t0, t1]; rfl)])
          go_wp2
          go_round
          case rel => exact ⟨k + 1, hlt, by go_num, HQ.out⟩
          case measure => simp [intOf]; omega
      · have HQ := Lib.hid (show skP (lst s) (k + 1) = res by rw [← HE.out, skP_space (lst s) k hkl (by rw [lst_get s k hlt hkl, spc_iff, t0]; rfl)])
        go_wp2
        go_round
        case rel => exact ⟨k + 1, hlt, by go_num, HQ.out⟩
        case measure => simp [intOf]; omega
    · obtain rfl : k = s.size := by omega
      have HQ := Lib.hid (show s.size = res by rw [← HE.out]; unfold skP; rw [skQ_end _ _ _ (by rw [HL.out]; exact Nat.le_refl _), HL.out])
      go_wp2
      go_ret
      exact ⟨ret_int (by rw [← HQ.out]), rfl⟩
set_option maxRecDepth 100000 in
set_option maxHeartbeats 1000000 in
theorem rskip_any (s : ByteArray) (k0 : Nat) (w : World) (hs : s.size ≤ 100000) (hk0 : k0 ≤ s.size) : Calls Tryd.prog 25 #[.string s, .int .i64 (k0 : Int)] w fun e w' => e = .returned (.int .i64 (skP (lst s) k0 : Nat)) ∧ w' = w := by
  have HL := Lib.hid (lst_len s)
  obtain ⟨res, hres⟩ : ∃ z, skP (lst s) k0 = z := ⟨_, rfl⟩
  rw [hres]
  have HRES := Lib.hid hres
  clear hres
  have CS := Lib.hid (fun (x : Nat) w => space_any x w)
  go_enter Tryd.func25, Tryd.ntmps25
  go_wp2
  go_loop [1] (fun s1 => ∃ k : Nat, k ≤ s.size ∧ s1 = .int .i64 (k : Int) ∧ skP (lst s) k = res) (fun s1 => s.size - (intOf s1).toNat)
  case atStart => exact ⟨k0, hk0, rfl, HRES.out⟩
  case round =>
    obtain ⟨k, hkn, rfl, hE⟩ := hrel
    have HE := Lib.hid hE
    clear hE
    by_cases hlt : k < s.size
    · have hkl : k < (lst s).length := by rw [HL.out]; exact hlt
      have hki : (k : Int) < s.size := by omega
      have hki0 : (0 : Int) ≤ (k : Int) := by omega
      have CSX := Lib.hid (fun w => CS.out s[k].toNat w)
      cases hsp : spcN s[k].toNat
      · rw [hsp] at CSX
        have HSP := Lib.hid (show spcN (lst s)[k].toNat = false by rw [lst_get s k hlt hkl]; exact hsp)
        have stop : ¬ ((lst s)[k] = 45 ∧ ((lst s).drop (k + 1)).head? = some 45) → k = res := fun h => by rw [← HE.out, skP_stop (lst s) k hkl HSP.out h]
        have HST := Lib.hid stop
        have HG := Lib.hid (lst_get s k hlt hkl)
        clear stop hsp
        by_cases h1 : k + 1 < s.size
        · have h1i : (k : Int) + 1 < s.size := by omega
          have hkl1 : k + 1 < (lst s).length := by rw [HL.out]; exact h1
          have HG1 := Lib.hid (show ((lst s).drop (k + 1)).head? = some s[k + 1] by rw [List.drop_eq_getElem_cons hkl1, lst_get s (k + 1) h1 hkl1]; rfl)
          cases t0 : ((s[k].toNat : Int) == 45)
          · have HQ := Lib.hid (HST.out (fun h => by rw [HG.out, dash_iff] at h; simp [h.1] at t0))
            go_wp2_with fail
            refine (CSX.out _).mono ?_
            rintro e w2 ⟨rfl, hw⟩
            replace hw := hw.symm
            subst hw
            go_wp2
            go_ret
            exact ⟨ret_int (by rw [← HQ.out]), rfl⟩
          · cases t1 : ((s[k + 1].toNat : Int) == 45)
            · have HQ := Lib.hid (HST.out (fun h => by
                have h2 := h.2
                rw [HG1.out] at h2
                have h3 := Option.some.inj h2
                rw [dash_iff] at h3
                simp [h3] at t1))
              go_wp2_with fail
              refine (CSX.out _).mono ?_
              rintro e w2 ⟨rfl, hw⟩
              replace hw := hw.symm
              subst hw
              go_wp2
              go_ret
              exact ⟨ret_int (by rw [← HQ.out]), rfl⟩
            · have HQ := Lib.hid (show skQ true (lst s) k = res by
                rw [← HE.out, skP_comment (lst s) k hkl (by rw [HG.out, dash_iff]; simpa using t0) (by rw [HG1.out]; exact congrArg some ((dash_iff _).2 (by simpa using t1)))])
              have HN10 := Lib.hid (show (lst s)[k] ≠ 10 by rw [HG.out]; intro h; rw [ten_iff] at h; simp [h] at t0)
              go_wp2_with fail
              refine (CSX.out _).mono ?_
              rintro e w2 ⟨rfl, hw⟩
              replace hw := hw.symm
              subst hw
              go_wp2
              go_loop [1] (fun s1 => ∃ j : Nat, k ≤ j ∧ j ≤ s.size ∧ s1 = .int .i64 (j : Int) ∧ skQ true (lst s) j = res) (fun s1 => s.size - (intOf s1).toNat)
              case atStart => exact ⟨k, Nat.le_refl _, hkn, rfl, HQ.out⟩
              case round =>
                obtain ⟨j, hkj, hjn, rfl, hE⟩ := hrel
                have HEJ := Lib.hid hE
                clear hE
                by_cases hlj : j < s.size
                · have hjl : j < (lst s).length := by rw [HL.out]; exact hlj
                  have hji : (j : Int) < s.size := by omega
                  have hji0 : (0 : Int) ≤ (j : Int) := by omega
                  cases t2 : ((s[j].toNat : Int) != 10)
                  · have HQ2 := Lib.hid (show skP (lst s) j = res by
                      rw [← HEJ.out, skQ_line (lst s) j hjl (by rw [lst_get s j hlj hjl, ten_iff]; simpa using t2)])
                    have hne : k < j := by
                      rcases Nat.lt_or_ge k j with h | h
                      · exact h
                      · exfalso
                        obtain rfl : j = k := by omega
                        apply HN10.out
                        rw [lst_get s j hlj hjl, ten_iff]
                        simpa using t2
                    go_wp2
                    go_round
                    case rel => exact ⟨j, hjn, rfl, HQ2.out⟩
                    case measure => simp [intOf]; omega
                  · have HQ2 := Lib.hid (show skQ true (lst s) (j + 1) = res by
                      rw [← HEJ.out, skQ_step (lst s) j hjl (by rw [lst_get s j hlj hjl]; intro h; rw [ten_iff] at h; simp [h] at t2)])
                    go_wp2
                    go_round
                    case rel => exact ⟨j + 1, by omega, hlj, by go_num, HQ2.out⟩
                    case measure => simp [intOf]; omega
                · obtain rfl : j = s.size := by omega
                  have HQ2 := Lib.hid (show skP (lst s) s.size = res by
                    rw [← HEJ.out]; unfold skP; rw [skQ_end _ _ _ (by rw [HL.out]; exact Nat.le_refl _), skQ_end _ _ _ (by rw [HL.out]; exact Nat.le_refl _)])
                  go_wp2
                  go_round
                  case rel => exact ⟨s.size, Nat.le_refl _, rfl, HQ2.out⟩
                  case measure => simp [intOf]; omega
        · have h1i : ¬ (k : Int) + 1 < s.size := by omega
          have HQ := Lib.hid (HST.out (fun h => by rw [List.drop_eq_nil_of_le (by rw [HL.out]; omega)] at h; simp at h))
          go_wp2_with fail
          refine (CSX.out _).mono ?_
          rintro e w2 ⟨rfl, hw⟩
          replace hw := hw.symm
          subst hw
          go_wp2
          go_ret
          exact ⟨ret_int (by rw [← HQ.out]), rfl⟩
      · rw [hsp] at CSX
        have HQ := Lib.hid (show skP (lst s) (k + 1) = res by rw [← HE.out, skP_space (lst s) k hkl (by rw [lst_get s k hlt hkl]; exact hsp)])
        clear hsp
        go_wp2_with fail
        refine (CSX.out _).mono ?_
        rintro e w2 ⟨rfl, hw⟩
        replace hw := hw.symm
        subst hw
        go_wp2
        go_round
        case rel => exact ⟨k + 1, hlt, by go_num, HQ.out⟩
        case measure => simp [intOf]; omega
    · obtain rfl : k = s.size := by omega
      have HQ := Lib.hid (show s.size = res by rw [← HE.out]; unfold skP; rw [skQ_end _ _ _ (by rw [HL.out]; exact Nat.le_refl _), HL.out])
      go_wp2
      go_ret
      exact ⟨ret_int (by rw [← HQ.out]), rfl⟩
end Go.Proofs.YtdkkflmhpncglaaDoor
