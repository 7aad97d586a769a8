/- Text and Quote of the reference. -/
import Derived.Test.YtdkkflmhpncglaaDoorLxz
namespace Go.Proofs.YtdkkflmhpncglaaDoor
open Go.ChangeShapes Go.WideShapes Go.ChangeAt Go.RowKit Go.ChangeMaps

theorem prt_split (c : UInt8) : prt c = (!decide ((c.toNat : Int) < 32) && !decide ((126 : Int) < c.toNat)) := by
  unfold prt prtN
  congr 1
  · rw [← decide_not]; congr 1; simp
  · rw [← decide_not]; congr 1; simp
set_option maxRecDepth 100000 in
set_option maxHeartbeats 2000000 in
theorem RText_any (s : ByteArray) (w : World) (hs : s.size ≤ 100000) : Calls Tryd.prog 21 #[.string s] w fun e w' => e = .returned (.bool (txtL (lst s))) ∧ w' = w := by
  have HL := Lib.hid (lst_len s)
  have HR0 := Lib.hid (show txtL (lst s) = (decide ((lst s).length ≤ 16) && (lst s).all prt) from rfl)
  obtain ⟨r, hr⟩ : ∃ r, txtL (lst s) = r := ⟨_, rfl⟩
  rw [hr] at HR0
  rw [hr]
  clear hr
  go_enter Tryd.func21, Tryd.ntmps21
  go_wp2
  go_loop [3] (fun s9 => ∃ k : Nat, k ≤ s.size ∧ s9 = .int .i64 (k : Int) ∧ ((lst s).take k).all prt = true) (fun s9 => s.size - (intOf s9).toNat)
  case atStart => exact ⟨0, Nat.zero_le _, rfl, rfl⟩
  case round =>
    obtain ⟨k, hkn, rfl, hE⟩ := hrel
    have HE := Lib.hid hE
    clear hE
    have hk0 : (0 : Int) ≤ (k : Int) := by omega
    by_cases hlt : k < s.size
    · have hkl : k < (lst s).length := by rw [HL.out]; exact hlt
      have hki : (k : Int) < s.size := by omega
      have HG := Lib.hid (lst_get s k hlt hkl)
      cases h32 : decide ((s[k].toNat : Int) < 32)
      · cases h126 : decide ((126 : Int) < s[k].toNat)
        · have HQ := Lib.hid (show ((lst s).take (k + 1)).all prt = true by rw [all_take _ k hkl, HE.out, HG.out, prt_split, h32, h126]; rfl)
          go_wp2
          go_round
          case rel => exact ⟨k + 1, hlt, by go_num, HQ.out⟩
          case measure => simp [intOf]; omega
        · have HF := Lib.hid (show r = false by rw [HR0.out, all_not _ k hkl (by rw [HG.out, prt_split, h32, h126]; rfl)]; exact Bool.and_false _)
          go_wp2
          go_ret
          exact ⟨by rw [HF.out]; rfl, rfl⟩
      · have HF := Lib.hid (show r = false by rw [HR0.out, all_not _ k hkl (by rw [HG.out, prt_split, h32]; rfl)]; exact Bool.and_false _)
        go_wp2
        go_ret
        exact ⟨by rw [HF.out]; rfl, rfl⟩
    · obtain rfl : k = s.size := by omega
      have hle : ¬ (s.size : Int) < s.size := by omega
      have HF := Lib.hid (show decide ((s.size : Int) ≤ 16) = r by
        have h := HE.out
        rw [List.take_of_length_le (by rw [HL.out]; exact Nat.le_refl _)] at h
        rw [HR0.out, h, Bool.and_true, HL.out]
        exact decide_eq_decide.2 (by omega))
      go_wp2
      go_ret
      exact ⟨ret_bool HF.out, rfl⟩
set_option maxRecDepth 100000 in
set_option maxHeartbeats 2000000 in
theorem RQuote_any (s : ByteArray) (w : World) (hs : s.size ≤ 1000) : Calls Tryd.prog 19 #[.string s] w fun e w' => e = .returned (.string ⟨(QuoteL (lst s)).toArray⟩) ∧ w' = w := by
  have HL := Lib.hid (lst_len s)
  have CT := Lib.hid (fun W => RText_any s W (by omega))
  have HR := Lib.hid (show QuoteL (lst s) = if txtL (lst s) then quoL (lst s) else [] from rfl)
  obtain ⟨r, hr⟩ : ∃ r, QuoteL (lst s) = r := ⟨_, rfl⟩
  rw [hr] at HR
  rw [hr]
  clear hr
  cases ht : txtL (lst s)
  · rw [ht] at CT
    have HF := Lib.hid (show r = [] by rw [HR.out, ht]; rfl)
    go_enter Tryd.func19, Tryd.ntmps19
    go_wp2_with fail
    refine (CT.out _).mono ?_
    rintro e wa ⟨rfl, hw⟩
    replace hw := hw.symm
    subst hw
    go_wp2
    go_ret
    rw [HF.out]
    exact ⟨rfl, rfl⟩
  · rw [ht] at CT
    have HF := Lib.hid (show quoL (lst s) = r by rw [HR.out, ht]; rfl)
    go_enter Tryd.func19, Tryd.ntmps19
    go_wp2_with fail
    refine (CT.out _).mono ?_
    rintro e wa ⟨rfl, hw⟩
    replace hw := hw.symm
    subst hw
    go_wp2
    go_loop [3, 4] (fun s6 s7 => ∃ (o : ByteArray) (k : Nat), k ≤ s.size ∧ o.size ≤ 1 + 2 * k ∧ s6 = .string o ∧ s7 = .int .i64 (k : Int) ∧ lst o = 39 :: dbl ((lst s).take k)) (fun _ s7 => s.size - (intOf s7).toNat)
    case atStart => exact ⟨⟨#[39]⟩, 0, Nat.zero_le _, Nat.le_refl _, rfl, rfl, rfl⟩
    case round =>
      obtain ⟨o, k, hkn, ho, rfl, rfl, hE⟩ := hrel
      have HE := Lib.hid hE
      clear hE
      have hk0 : (0 : Int) ≤ (k : Int) := by omega
      have hkn2 : (k : Int) ≤ s.size := by omega
      by_cases hlt : k < s.size
      · have hkl : k < (lst s).length := by rw [HL.out]; exact hlt
        have hki : (k : Int) < s.size := by omega
        have HG := Lib.hid (lst_get s k hlt hkl)
        have hwk : IntKind.i64.wrap ((k : Int) + 1) = (k : Int) + 1 := by rw [IntKind.wrap_i64]; omega
        have HZ := Lib.hid (cat_size o s k hlt)
        have HC1 := Lib.hid (cat_one o s k hkl)
        have HTK := Lib.hid (show (lst s).take (k + 1) = (lst s).take k ++ [(lst s)[k]] from List.take_succ_eq_append_getElem hkl)
        cases hq : ((s[k].toNat : Int) == 39)
        · have HC := Lib.hid (show (lst s)[k] ≠ 39 by rw [HG.out]; intro e; have := (quo_iff _).1 e; rw [this] at hq; exact absurd hq (by decide))
          have HQ := Lib.hid (show lst (o ++ s.extract k (k + 1)) = 39 :: dbl ((lst s).take (k + 1)) by rw [HC1.out, HTK.out, dbl_app, dbl_one _ HC.out, HE.out]; rfl)
          go_wp2
          go_round
          case rel => exact ⟨o ++ s.extract k (k + 1), k + 1, hlt, by rw [HZ.out]; omega, rfl, by go_num, HQ.out⟩
          case measure => simp [intOf]; omega
        · have HC := Lib.hid (show (lst s)[k] = 39 by rw [HG.out]; exact (quo_iff _).2 (beq_iff_eq.1 hq))
          have HQ := Lib.hid (show lst (o ++ s.extract k (k + 1) ++ ⟨#[39]⟩) = 39 :: dbl ((lst s).take (k + 1)) by
            have e : lst (o ++ s.extract k (k + 1) ++ ⟨#[39]⟩) = lst (o ++ s.extract k (k + 1)) ++ [39] := by simp [lst]
            rw [e, HC1.out, HTK.out, dbl_app, HC.out, dbl_q, HE.out]
            simp)
          have HZ2 := Lib.hid (show (o ++ s.extract k (k + 1) ++ ⟨#[39]⟩).size = o.size + 2 by rw [ByteArray.size_append, HZ.out]; rfl)
          go_wp2
          go_round
          case rel => exact ⟨o ++ s.extract k (k + 1) ++ ⟨#[39]⟩, k + 1, hlt, by rw [HZ2.out]; omega, rfl, by go_num, HQ.out⟩
          case measure => simp [intOf]; omega
      · obtain rfl : k = s.size := by omega
        have hle : ¬ (s.size : Int) < s.size := by omega
        have HV := Lib.hid (show o ++ ⟨#[39]⟩ = ⟨(quoL (lst s)).toArray⟩ by
          rw [← of_lst (o ++ ⟨#[39]⟩)]
          have e : lst (o ++ ⟨#[39]⟩) = quoL (lst s) := by
            have e1 : lst (o ++ ⟨#[39]⟩) = lst o ++ [39] := by simp [lst]
            rw [e1, HE.out, List.take_of_length_le (by rw [HL.out]; exact Nat.le_refl _)]
            rfl
          rw [e])
        go_wp2
        go_ret
        rw [← HF.out, ← HV.out]
        exact ⟨rfl, rfl⟩
end Go.Proofs.YtdkkflmhpncglaaDoor
