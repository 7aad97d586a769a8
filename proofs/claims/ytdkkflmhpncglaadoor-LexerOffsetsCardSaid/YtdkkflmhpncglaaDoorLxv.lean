/- Texts, quotes, literals taken apart. -/
import Derived.Test.YtdkkflmhpncglaaDoorLxx
namespace Go.Proofs.YtdkkflmhpncglaaDoor
open Go.ChangeShapes Go.WideShapes Go.ChangeAt Go.RowKit Go.ChangeMaps

def txtL (l : List UInt8) : Bool := decide (l.length ≤ 16) && l.all prt
theorem all_take (l : List UInt8) (k : Nat) (hk : k < l.length) : (l.take (k + 1)).all prt = ((l.take k).all prt && prt l[k]) := by
  rw [List.take_succ_eq_append_getElem hk, List.all_append]; simp
theorem all_not (l : List UInt8) (k : Nat) (hk : k < l.length) (h : prt l[k] = false) : l.all prt = false := by
  rw [List.all_eq_false]
  exact ⟨_, List.getElem_mem hk, by rw [h]; decide⟩
set_option maxRecDepth 100000 in
set_option maxHeartbeats 2000000 in
theorem isText_any (s : ByteArray) (w : World) (hs : s.size ≤ 100000) : Calls Tryd.prog 33 #[.string s] w fun e w' => e = .returned (.bool (txtL (lst s))) ∧ w' = w := by
  have HL := Lib.hid (lst_len s)
  have CP := Lib.hid (fun (x : Nat) w => isPrintable_any x w)
  have HR0 := Lib.hid (show txtL (lst s) = (decide ((lst s).length ≤ 16) && (lst s).all prt) from rfl)
  obtain ⟨r, hr⟩ : ∃ r, txtL (lst s) = r := ⟨_, rfl⟩
  rw [hr] at HR0
  rw [hr]
  clear hr
  by_cases h16 : 16 < s.size
  · have h16i : (16 : Int) < s.size := by omega
    have HF := Lib.hid (show r = false by rw [HR0.out, decide_eq_false (by rw [HL.out]; omega)]; rfl)
    go_enter Tryd.func33, Tryd.ntmps33
    go_wp2
    go_ret
    exact ⟨by rw [HF.out]; rfl, rfl⟩
  · have h16i : ¬ (16 : Int) < s.size := by omega
    have HR := Lib.hid (show r = (lst s).all prt by rw [HR0.out, decide_eq_true (by rw [HL.out]; omega)]; rfl)
    go_enter Tryd.func33, Tryd.ntmps33
    go_wp2
    go_loop [9] (fun s9 => ∃ k : Nat, k ≤ s.size ∧ s9 = .int .i64 (k : Int) ∧ ((lst s).take k).all prt = true) (fun s9 => s.size - (intOf s9).toNat)
    case atStart => exact ⟨0, Nat.zero_le _, rfl, rfl⟩
    case round =>
      obtain ⟨k, hkn, rfl, hE⟩ := hrel
      have HE := Lib.hid hE
      clear hE
      have hk0 : (0 : Int) ≤ (k : Int) := by omega
      by_cases hlt : k < s.size
      · have hkl : k < (lst s).length := by rw [HL.out]; exact hlt
        have hki : (k : Int) < s.size := by omega
        have CPX := Lib.hid (CP.out s[k].toNat)
        cases hp : prtN s[k].toNat
        · rw [hp] at CPX
          have HF := Lib.hid (show r = false by rw [HR.out]; exact all_not _ k hkl (by rw [lst_get s k hlt hkl]; exact hp))
          go_wp2_with fail
          refine (CPX.out _).mono ?_
          rintro e wa ⟨rfl, hw⟩
          replace hw := hw.symm
          subst hw
          go_wp2
          go_ret
          exact ⟨by rw [HF.out]; rfl, rfl⟩
        · rw [hp] at CPX
          have HQ := Lib.hid (show ((lst s).take (k + 1)).all prt = true by rw [all_take _ k hkl, HE.out, lst_get s k hlt hkl]; exact hp)
          go_wp2_with fail
          refine (CPX.out _).mono ?_
          rintro e wa ⟨rfl, hw⟩
          replace hw := hw.symm
          subst hw
          go_wp2
          go_round
          case rel => exact ⟨k + 1, hlt, by go_num, HQ.out⟩
          case measure => simp [intOf]; omega
      · obtain rfl : k = s.size := by omega
        have hle : ¬ (s.size : Int) < s.size := by omega
        have HF := Lib.hid (show r = true by
          have h := HE.out
          rw [List.take_of_length_le (by rw [HL.out]; exact Nat.le_refl _)] at h
          rw [HR.out, h])
        go_wp2
        go_ret
        exact ⟨by rw [HF.out]; rfl, rfl⟩
/-- The literal of a text. -/
def quoL (l : List UInt8) : List UInt8 := 39 :: (dbl l ++ [39])
set_option maxRecDepth 100000 in
set_option maxHeartbeats 2000000 in
theorem sQuote_any (s : ByteArray) (w : World) (hs : s.size ≤ 1000) (hE : LEnv w) : Calls Tryd.prog 34 #[.string s] w fun e w' => e = .returned (.string ⟨(quoL (lst s)).toArray⟩) ∧ Below w.heap.size w w' := by
  obtain ⟨m, hm⟩ := hE.max
  have hc := Lib.countB_mul_le ⟨#[39]⟩ (by decide) _ s (Nat.le_refl _)
  have hc2 : Lib.countB s ⟨#[39]⟩ * 1 ≤ s.size := hc
  have CR := Lib.hid (show Calls Tryd.prog 51 #[.string s, .string ⟨#[39]⟩, .string ⟨#[39, 39]⟩] w fun e w' => e = .returned (.string ⟨(dbl (lst s)).toArray⟩) ∧ Below w.heap.size w w' by
    have hr := Tryd.strings_ReplaceAll s ⟨#[39]⟩ ⟨#[39, 39]⟩ m w (by omega) hm (by decide) (by
      show s.size + Lib.countB s ⟨#[39]⟩ * 2 ≤ _
      omega)
    have e2 : Lib.replaceAll s.data.toList (⟨#[39]⟩ : ByteArray).data.toList (⟨#[39, 39]⟩ : ByteArray).data.toList = dbl (lst s) := replace_dbl (lst s)
    rw [e2] at hr
    exact hr)
  have HD := Lib.hid (show (dbl (lst s)).length ≤ 2000 by have := dbl_len (lst s); rw [lst_len] at this; omega)
  obtain ⟨u, hu⟩ : ∃ u : ByteArray, (⟨(dbl (lst s)).toArray⟩ : ByteArray) = u := ⟨_, rfl⟩
  have hus : u.size ≤ 2000 := by rw [← hu]; exact HD.out
  have HV := Lib.hid (show (⟨#[39]⟩ : ByteArray) ++ u ++ ⟨#[39]⟩ = ⟨(quoL (lst s)).toArray⟩ by
    rw [← hu]
    apply ByteArray.ext
    apply Array.ext'
    simp [quoL])
  rw [hu] at CR
  clear hu hc hc2 hm
  go_enter Tryd.func34, Tryd.ntmps34
  go_wp2_with fail
  refine CR.out.mono ?_
  rintro e w2 ⟨rfl, hb⟩
  have HB := Lib.hid hb
  clear hb CR
  go_wp2
  go_ret
  rw [← HV.out]
  exact ⟨rfl, HB.out⟩
def QuoteL (l : List UInt8) : List UInt8 := if txtL l then quoL l else []
set_option maxRecDepth 100000 in
set_option maxHeartbeats 2000000 in
theorem Quote_any (s : ByteArray) (w : World) (hs : s.size ≤ 1000) (hE : LEnv w) : Calls Tryd.prog 18 #[.string s] w fun e w' => e = .returned (.string ⟨(QuoteL (lst s)).toArray⟩) ∧ Below w.heap.size w w' := by
  have CT := Lib.hid (fun W => isText_any s W (by omega))
  have CQ := Lib.hid (fun W hW => sQuote_any s W hs hW)
  have HE := Lib.hid hE
  clear hE
  have HR := Lib.hid (show QuoteL (lst s) = if txtL (lst s) then quoL (lst s) else [] from rfl)
  obtain ⟨r, hr⟩ : ∃ r, QuoteL (lst s) = r := ⟨_, rfl⟩
  rw [hr] at HR
  rw [hr]
  clear hr
  cases ht : txtL (lst s)
  · rw [ht] at CT
    have HF := Lib.hid (show r = [] by rw [HR.out, ht]; rfl)
    go_enter Tryd.func18, Tryd.ntmps18
    go_wp2_with fail
    refine (CT.out _).mono ?_
    rintro e wa ⟨rfl, hw⟩
    replace hw := hw.symm
    subst hw
    go_wp2
    go_ret
    rw [HF.out]
    exact ⟨rfl, Below.refl _ _⟩
  · rw [ht] at CT
    have HF := Lib.hid (show quoL (lst s) = r by rw [HR.out, ht]; rfl)
    rw [HF.out] at CQ
    go_enter Tryd.func18, Tryd.ntmps18
    go_wp2_with fail
    refine (CT.out _).mono ?_
    rintro e wa ⟨rfl, hw⟩
    replace hw := hw.symm
    subst hw
    go_wp2_with fail
    refine (CQ.out _ HE.out).mono ?_
    rintro e w2 ⟨rfl, hb⟩
    have HB := Lib.hid hb
    clear hb
    go_wp2
    go_ret
    exact ⟨rfl, HB.out⟩
end Go.Proofs.YtdkkflmhpncglaaDoor
