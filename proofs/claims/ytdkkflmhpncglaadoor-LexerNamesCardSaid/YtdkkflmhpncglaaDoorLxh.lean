/- Names. -/
import Derived.Test.YtdkkflmhpncglaaDoorLxi
import Derived.Test.YtdkkflmhpncglaaDoorLxw
namespace Go.Proofs.YtdkkflmhpncglaaDoor
open Go.ChangeShapes Go.WideShapes Go.ChangeAt Go.RowKit Go.ChangeMaps

def lowN (x : Nat) : Bool := decide ((97 : Int) ≤ x) && decide ((x : Int) ≤ 122)
def nmc (c : UInt8) : Bool := lowN c.toNat || dgtN c.toNat || ((c.toNat : Int) == 95)
def nameL (l : List UInt8) : Bool := (decide (l.length ≤ 24) && (match l with | [] => false | c :: _ => lowN c.toNat)) && (l.all nmc && !kwL (l.map upB))
theorem nmc_ascii {c : UInt8} (h : nmc c = true) : c.toNat < 128 := by
  simp only [nmc, lowN, dgtN, Bool.or_eq_true, Bool.and_eq_true, decide_eq_true_eq, beq_iff_eq] at h
  omega
theorem nall_take (l : List UInt8) (k : Nat) (hk : k < l.length) : (l.take (k + 1)).all nmc = ((l.take k).all nmc && nmc l[k]) := by
  rw [List.take_succ_eq_append_getElem hk, List.all_append]; simp
theorem nall_not (l : List UInt8) (k : Nat) (hk : k < l.length) (h : nmc l[k] = false) : l.all nmc = false := by
  rw [List.all_eq_false]
  exact ⟨_, List.getElem_mem hk, by rw [h]; decide⟩
theorem name_eq (s : ByteArray) (h : 0 < s.size) : nameL (lst s) = ((decide (s.size ≤ 24) && lowN s[0].toNat) && ((lst s).all nmc && !kwL ((lst s).map upB))) := by
  have h0 : 0 < (lst s).length := by rw [lst_len]; exact h
  have e := lst_get s 0 h h0
  unfold nameL
  rw [lst_len]
  congr 2
  rcases hl : lst s with _ | ⟨a, b⟩
  · rw [hl] at h0; exact absurd h0 (by decide)
  · simp only [hl, List.getElem_cons_zero] at e
    simp only [e]
theorem name_nil (s : ByteArray) (h : s.size = 0) : nameL (lst s) = false := by
  have : lst s = [] := List.eq_nil_of_length_eq_zero (by rw [lst_len]; exact h)
  rw [this]
  rfl
set_option maxRecDepth 100000 in
set_option maxHeartbeats 2000000 in
theorem sIsName_any (s : ByteArray) (w : World) (hs : s.size ≤ 1000) (hE0 : LEnv w) : Calls Tryd.prog 27 #[.string s] w fun e w' => e = .returned (.bool (nameL (lst s))) ∧ Below w.heap.size w w' := by
  have HL := Lib.hid (lst_len s)
  have HE0 := Lib.hid hE0
  clear hE0
  have HN0 := Lib.hid (name_nil s)
  have HN1 := Lib.hid (name_eq s)
  obtain ⟨r, hr⟩ : ∃ r, nameL (lst s) = r := ⟨_, rfl⟩
  rw [hr] at HN0 HN1
  rw [hr]
  clear hr
  by_cases h0 : s.size = 0
  · have htl : s.toList = [] := by rw [tol]; exact List.eq_nil_of_length_eq_zero (by rw [HL.out]; exact h0)
    have hte : s.toList.isEmpty = true := by rw [htl]; rfl
    have HF := Lib.hid (HN0.out h0)
    clear h0
    go_enter Tryd.func27, Tryd.ntmps27
    go_wp2
    go_ret
    exact ⟨by rw [HF.out]; rfl, Below.refl _ _⟩
  · have h0 : 0 < s.size := by omega
    have h0i : (0 : Int) < s.size := by omega
    have htl : ¬ s.toList = [] := by rw [tol]; intro e; have := HL.out; rw [e] at this; simp at this; omega
    have hte : s.toList.isEmpty = false := by simpa using htl
    have HNE := Lib.hid (HN1.out h0)
    clear HN0 HN1
    by_cases h24 : 24 < s.size
    · have h24i : (24 : Int) < s.size := by omega
      have HF := Lib.hid (show r = false by rw [HNE.out, decide_eq_false (by omega)]; rfl)
      go_enter Tryd.func27, Tryd.ntmps27
      go_wp2
      go_ret
      exact ⟨by rw [HF.out]; rfl, Below.refl _ _⟩
    · have h24i : ¬ (24 : Int) < s.size := by omega
      have HNF : Hid (r = (lowN s[0].toNat && ((lst s).all nmc && !kwL ((lst s).map upB)))) := Lib.hid (by rw [HNE.out, decide_eq_true (by omega), Bool.true_and])
      clear HNE
      by_cases hlo : (s[0].toNat : Int) < 97
      · have HF := Lib.hid (show r = false by rw [HNF.out]; unfold lowN; rw [decide_eq_false (show ¬ (97 : Int) ≤ s[0].toNat by omega)]; rfl)
        go_enter Tryd.func27, Tryd.ntmps27
        go_wp2
        go_ret
        exact ⟨by rw [HF.out]; rfl, Below.refl _ _⟩
      · by_cases hhi : (122 : Int) < s[0].toNat
        · have HF := Lib.hid (show r = false by rw [HNF.out]; unfold lowN; rw [decide_eq_false (show ¬ (s[0].toNat : Int) ≤ 122 by omega), Bool.and_false]; rfl)
          go_enter Tryd.func27, Tryd.ntmps27
          go_wp2
          go_ret
          exact ⟨by rw [HF.out]; rfl, Below.refl _ _⟩
        · have HR := Lib.hid (show r = ((lst s).all nmc && !kwL ((lst s).map upB)) by rw [HNF.out]; unfold lowN; rw [decide_eq_true (show (97 : Int) ≤ s[0].toNat by omega), decide_eq_true (show (s[0].toNat : Int) ≤ 122 by omega)]; rfl)
          clear HNF
          go_enter Tryd.func27, Tryd.ntmps27
          go_wp2
          go_loop [24] (fun s9 => ∃ k : Nat, k ≤ s.size ∧ s9 = .int .i64 (k : Int) ∧ ((lst s).take k).all nmc = true) (fun s9 => s.size - (intOf s9).toNat)
          case atStart => exact ⟨0, Nat.zero_le _, rfl, rfl⟩
          case round =>
            obtain ⟨k, hkn, rfl, hE⟩ := hrel
            have HE := Lib.hid hE
            clear hE
            have hk0 : (0 : Int) ≤ (k : Int) := by omega
            by_cases hlt : k < s.size
            · have hkl : k < (lst s).length := by rw [HL.out]; exact hlt
              have hki : (k : Int) < s.size := by omega
              have HG := Lib.hid (lst_get s k hlt hkl)
              cases n1 : decide ((97 : Int) ≤ s[k].toNat) <;> cases n2 : decide ((s[k].toNat : Int) ≤ 122) <;> cases n3 : decide ((48 : Int) ≤ s[k].toNat) <;> cases n4 : decide ((s[k].toNat : Int) ≤ 57) <;> cases n5 : ((s[k].toNat : Int) == 95)
              all_goals first
                | (have HB := Lib.hid (show nmc (lst s)[k] = false by rw [HG.out]; unfold nmc lowN dgtN; rw [n1, n2, n3, n4, n5]; rfl)
                   have HF := Lib.hid (show r = false by rw [HR.out, nall_not _ k hkl HB.out]; rfl)
                   go_wp2
                   go_ret
                   exact ⟨by rw [HF.out]; rfl, Below.refl _ _⟩)
                | (have HB := Lib.hid (show nmc (lst s)[k] = true by rw [HG.out]; unfold nmc lowN dgtN; rw [n1, n2, n3, n4, n5]; rfl)
                   have HQ := Lib.hid (show ((lst s).take (k + 1)).all nmc = true by rw [nall_take _ k hkl, HE.out, HB.out]; rfl)
                   go_wp2
                   go_round
                   case rel => exact ⟨k + 1, hlt, by go_num, HQ.out⟩
                   case measure => simp [intOf]; omega)
            · obtain rfl : k = s.size := by omega
              have hle : ¬ (s.size : Int) < s.size := by omega
              have HALL := Lib.hid (show (lst s).all nmc = true by
                have h := HE.out
                rw [List.take_of_length_le (by rw [HL.out]; exact Nat.le_refl _)] at h
                exact h)
              have HF := Lib.hid (show (!kwL ((lst s).map upB)) = r by rw [HR.out, HALL.out, Bool.true_and])
              have CU := Lib.hid (show Calls Tryd.prog 30 #[.string s] w fun e w' => e = .returned (.string ⟨((lst s).map upB).toArray⟩) ∧ Below w.heap.size w w' by
                have h := Upper_any s w (by omega) HE0.out
                rw [map_up _ (fun c hc => nmc_ascii (List.all_eq_true.1 HALL.out c hc))] at h
                exact h)
              obtain ⟨u, hu⟩ : ∃ u : ByteArray, (⟨((lst s).map upB).toArray⟩ : ByteArray) = u := ⟨_, rfl⟩
              have CK := Lib.hid (show ∀ W, Calls Tryd.prog 29 #[.string u] W fun e w' => e = .returned (.bool (kwL ((lst s).map upB))) ∧ w' = W by
                intro W
                have h := isKeyword_any u W
                rw [← hu] at h
                rw [← hu]
                exact h)
              rw [hu] at CU
              clear hu
              generalize kwL ((lst s).map upB) = kw at *
              go_wp2_with fail
              refine CU.out.mono ?_
              rintro e w2 ⟨rfl, hb⟩
              have HB2 := Lib.hid hb
              clear hb CU
              go_wp2_with fail
              refine (CK.out _).mono ?_
              rintro e w3 ⟨rfl, hw⟩
              replace hw := hw.symm
              subst hw
              go_wp2
              go_ret
              exact ⟨ret_bool HF.out, HB2.out⟩
set_option maxRecDepth 100000 in
set_option maxHeartbeats 2000000 in
theorem IsName_any (s : ByteArray) (w : World) (hs : s.size ≤ 1000) (hE0 : LEnv w) : Calls Tryd.prog 14 #[.string s] w fun e w' => e = .returned (.bool (nameL (lst s))) ∧ Below w.heap.size w w' := by
  have CN := Lib.hid (sIsName_any s w hs hE0)
  generalize nameL (lst s) = r at *
  go_enter Tryd.func14, Tryd.ntmps14
  go_wp2_with fail
  refine CN.out.mono ?_
  rintro e w2 ⟨rfl, hb⟩
  have HB2 := Lib.hid hb
  clear hb CN
  go_wp2
  go_ret
  exact ⟨rfl, HB2.out⟩
end Go.Proofs.YtdkkflmhpncglaaDoor
