/- Names, of the reference. -/
import Derived.Test.YtdkkflmhpncglaaDoorLxh
namespace Go.Proofs.YtdkkflmhpncglaaDoor
open Go.ChangeShapes Go.WideShapes Go.ChangeAt Go.RowKit Go.ChangeMaps

set_option maxRecDepth 100000 in
set_option maxHeartbeats 2000000 in
theorem RIsName_any (s : ByteArray) (w : World) (hs : s.size ≤ 1000) : Calls Tryd.prog 15 #[.string s] w fun e w' => e = .returned (.bool (nameL (lst s))) ∧ Below w.heap.size w w' := by
  have HL := Lib.hid (lst_len s)
  have HN0 := Lib.hid (name_nil s)
  have HN1 := Lib.hid (name_eq s)
  have CD := Lib.hid (fun (x : Nat) w => digit_any x w)
  have CK := Lib.hid (fun W => rIsKeyword_any s W (by omega))
  obtain ⟨r, hr⟩ : ∃ r, nameL (lst s) = r := ⟨_, rfl⟩
  rw [hr] at HN0 HN1
  rw [hr]
  clear hr
  by_cases h0 : s.size = 0
  · have HF := Lib.hid (HN0.out h0)
    have hlt1 : (s.size : Int) < 1 := by omega
    clear h0
    go_enter Tryd.func15, Tryd.ntmps15
    go_wp2
    go_ret
    exact ⟨by rw [HF.out]; rfl, Below.refl _ _⟩
  · have h0 : 0 < s.size := by omega
    have h0i : (0 : Int) < s.size := by omega
    have hlt1 : ¬ (s.size : Int) < 1 := by omega
    have HNE := Lib.hid (HN1.out h0)
    clear HN0 HN1
    by_cases h24 : 24 < s.size
    · have h24i : (24 : Int) < s.size := by omega
      have HF := Lib.hid (show r = false by rw [HNE.out, decide_eq_false (by omega)]; rfl)
      go_enter Tryd.func15, Tryd.ntmps15
      go_wp2
      go_ret
      exact ⟨by rw [HF.out]; rfl, Below.refl _ _⟩
    · have h24i : ¬ (24 : Int) < s.size := by omega
      have HNF : Hid (r = (lowN s[0].toNat && ((lst s).all nmc && !kwL ((lst s).map upB)))) := Lib.hid (by rw [HNE.out, decide_eq_true (by omega), Bool.true_and])
      clear HNE
      by_cases hlo : (s[0].toNat : Int) < 97
      · have HF := Lib.hid (show r = false by rw [HNF.out]; unfold lowN; rw [decide_eq_false (show ¬ (97 : Int) ≤ s[0].toNat by omega)]; rfl)
        go_enter Tryd.func15, Tryd.ntmps15
        go_wp2
        go_ret
        exact ⟨by rw [HF.out]; rfl, Below.refl _ _⟩
      · by_cases hhi : (122 : Int) < s[0].toNat
        · have HF := Lib.hid (show r = false by rw [HNF.out]; unfold lowN; rw [decide_eq_false (show ¬ (s[0].toNat : Int) ≤ 122 by omega), Bool.and_false]; rfl)
          go_enter Tryd.func15, Tryd.ntmps15
          go_wp2
          go_ret
          exact ⟨by rw [HF.out]; rfl, Below.refl _ _⟩
        · have HR := Lib.hid (show r = ((lst s).all nmc && !kwL ((lst s).map upB)) by rw [HNF.out]; unfold lowN; rw [decide_eq_true (show (97 : Int) ≤ s[0].toNat by omega), decide_eq_true (show (s[0].toNat : Int) ≤ 122 by omega)]; rfl)
          clear HNF
          go_enter Tryd.func15, Tryd.ntmps15
          go_wp2
          go_loop [3] (fun s9 => ∃ k : Nat, k ≤ s.size ∧ s9 = .int .i64 (k : Int) ∧ ((lst s).take k).all nmc = true) (fun s9 => s.size - (intOf s9).toNat)
          case atStart => exact ⟨0, Nat.zero_le _, rfl, rfl⟩
          case round =>
            obtain ⟨k, hkn, rfl, hE⟩ := hrel
            have HE := Lib.hid hE
            clear hE
            have hk0 : (0 : Int) ≤ (k : Int) := by omega
            by_cases hlt : k < s.size
            · have hkl : k < (lst s).length := by rw [HL.out]; exact hlt
              have hki : (k : Int) < s.size := by omega
              have HG := Lib.hid (lst_get s k hlt hkl)
              have HYES := Lib.hid (show nmc s[k] = true → ((lst s).take (k + 1)).all nmc = true from fun h => by rw [nall_take _ k hkl, HE.out, HG.out, h]; rfl)
              have HNO := Lib.hid (show nmc s[k] = false → r = false from fun h => by rw [HR.out, nall_not _ k hkl (by rw [HG.out]; exact h)]; rfl)
              have CDX := Lib.hid (CD.out s[k].toNat)
              have HNM := Lib.hid (show nmc s[k] = (lowN s[k].toNat || dgtN s[k].toNat || ((s[k].toNat : Int) == 95)) from rfl)
              cases hu : ((s[k].toNat : Int) == 95)
              · have hub : ((s[k].toNat : Int) != 95) = true := by simp only [bne, hu]; rfl
                cases hdg : dgtN s[k].toNat
                · rw [hdg] at CDX
                  by_cases n1 : (s[k].toNat : Int) < 97
                  · have HF := Lib.hid (HNO.out (by rw [HNM.out, hdg, hu]; unfold lowN; rw [decide_eq_false (show ¬ (97 : Int) ≤ s[k].toNat by omega)]; rfl))
                    go_wp2_with fail
                    refine (CDX.out _).mono ?_
                    rintro e wa ⟨rfl, hw⟩
                    replace hw := hw.symm
                    subst hw
                    go_wp2
                    go_ret
                    exact ⟨by rw [HF.out]; rfl, Below.refl _ _⟩
                  · by_cases n2 : (122 : Int) < s[k].toNat
                    · have HF := Lib.hid (HNO.out (by rw [HNM.out, hdg, hu]; unfold lowN; rw [decide_eq_false (show ¬ (s[k].toNat : Int) ≤ 122 by omega), Bool.and_false]; rfl))
                      go_wp2_with fail
                      refine (CDX.out _).mono ?_
                      rintro e wa ⟨rfl, hw⟩
                      replace hw := hw.symm
                      subst hw
                      go_wp2
                      go_ret
                      exact ⟨by rw [HF.out]; rfl, Below.refl _ _⟩
                    · have HQ := Lib.hid (HYES.out (by rw [HNM.out]; unfold lowN; rw [decide_eq_true (show (97 : Int) ≤ s[k].toNat by omega), decide_eq_true (show (s[k].toNat : Int) ≤ 122 by omega)]; rfl))
                      go_wp2_with fail
                      refine (CDX.out _).mono ?_
                      rintro e wa ⟨rfl, hw⟩
                      replace hw := hw.symm
                      subst hw
                      go_wp2
                      go_round
                      case rel => exact ⟨k + 1, hlt, by go_num, HQ.out⟩
                      case measure => simp [intOf]; omega
                · rw [hdg] at CDX
                  have HQ := Lib.hid (HYES.out (by rw [HNM.out, hdg, Bool.or_true]; rfl))
                  go_wp2_with fail
                  refine (CDX.out _).mono ?_
                  rintro e wa ⟨rfl, hw⟩
                  replace hw := hw.symm
                  subst hw
                  go_wp2
                  go_round
                  case rel => exact ⟨k + 1, hlt, by go_num, HQ.out⟩
                  case measure => simp [intOf]; omega
              · have hub : ((s[k].toNat : Int) != 95) = false := by simp only [bne, hu]; rfl
                have HQ := Lib.hid (HYES.out (by rw [HNM.out, hu, Bool.or_true]))
                go_wp2
                go_round
                case rel => exact ⟨k + 1, hlt, by go_num, HQ.out⟩
                case measure => simp [intOf]; omega
            · obtain rfl : k = s.size := by omega
              have hle : ¬ (s.size : Int) < s.size := by omega
              have HALL := Lib.hid (show (lst s).all nmc = true by
                have h := HE.out
                rw [List.take_of_length_le (by rw [HL.out]; exact Nat.le_refl _)] at h
                exact h)
              have HF := Lib.hid (show (!kwL ((lst s).map upB)) = r by rw [HR.out, HALL.out, Bool.true_and])
              generalize kwL ((lst s).map upB) = kw at *
              go_wp2_with fail
              refine (CK.out _).mono ?_
              rintro e w2 ⟨rfl, hb⟩
              have HB2 := Lib.hid hb
              clear hb CK
              go_wp2
              go_ret
              exact ⟨ret_bool HF.out, HB2.out⟩
end Go.Proofs.YtdkkflmhpncglaaDoor
