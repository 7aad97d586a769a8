/- A pattern matched against a text. -/
import Derived.Test.YtfhbffgnpedaeaaElm
import Derived.BigQuiet
import Derived.Lib.QuietBelow
namespace Go.Proofs.Ytfhbffgnpedaeaa
open Go.ChangeShapes Go.WideShapes Go.ChangeAt Go.RowKit Go.ChangeMaps

set_option maxRecDepth 100000 in
set_option maxHeartbeats 2000000 in
theorem Like_any (s p : ByteArray) (w : World) (hs : s.size ≤ 4611686018427387904) (hp : p.size ≤ 4611686018427387904) :
    Calls Try.prog 22 #[.string s, .string p] w fun e w' => e = .returned (.bool (likeM p.data.toList s.data.toList)) ∧ Below w.heap.size w w' := by
  have HL := Lib.hid (show s.data.toList.length = s.size by simp)
  have HM := Lib.hid (show p.data.toList.length = p.size by simp)
  go_enter Try.func22, Try.ntmps22
  go_wp2
  go_loopw [5, 6, 7, 8] (fun s5 s6 s7 s8 wr => ∃ (i j taken : Nat) (st : Int), s5 = .int .i64 (i : Int) ∧ s6 = .int .i64 (j : Int) ∧ s7 = .int .i64 st ∧ s8 = .int .i64 (taken : Int) ∧ LI p.data.toList s.data.toList i j taken st ∧ Below w.heap.size w wr) (fun _ s6 _ s8 _ => (s.size - (intOf s8).toNat) * (p.size + 2) + (p.size + 1 - (intOf s6).toNat))
  case atStart => exact ⟨0, 0, 0, -1, rfl, rfl, rfl, rfl, LI.start, Below.refl _ _⟩
  case round =>
    obtain ⟨i, j, taken, st, rfl, rfl, rfl, rfl, hI, hb⟩ := hrel
    obtain ⟨g1, g2, g3, g4, -, g6⟩ := id hI
    rw [HL.out] at g1
    rw [HM.out] at g2
    have G6 := Lib.hid g6
    have HI := Lib.hid hI
    have HB := Lib.hid hb
    clear hI hb g6
    by_cases hi : i < s.size
    · have hii : (i : Int) < s.size := by omega
      have HTi := Lib.hid (show s.data.toList[i]? = some s[i] by rw [List.getElem?_eq_getElem (by rw [HL.out]; exact hi)]; simp; rfl)
      have HBD := Lib.hid (below_drew HB.out)
      by_cases hj : j < p.size
      · have hjj : (j : Int) < p.size := by omega
        have HPj := Lib.hid (show p.data.toList[j]? = some p[j] by rw [List.getElem?_eq_getElem (by rw [HM.out]; exact hj)]; simp; rfl)
        by_cases h37 : p[j].toNat = 37
        · have HP2 := Lib.hid (show p.data.toList[j]? = some 37 by rw [HPj.out]; congr 1; exact UInt8.toNat_inj.1 h37)
          go_wp2
          go_roundw
          case rel => exact ⟨i, j + 1, i, j, rfl, by go_num, rfl, rfl, HI.out.star HP2.out, HB.out⟩
          case measure => simp only [intOf, Int.toNat_natCast]; rw [show ((j : Int) + 1).toNat = j + 1 by omega]; exact meas (by omega) (by omega) g2
        · have hne37 : p[j] ≠ 37 := fun e => h37 (by rw [e]; rfl)
          have b37 : ((p[j].toNat : Int) == 37) = false := by simp; omega
          have HN37 := Lib.hid hne37
          clear hne37 h37
          by_cases h95 : p[j].toNat = 95
          · have hm := Lib.hid (show (p[j] == 95 || p[j] == s[i]) = true by rw [show p[j] = 95 from UInt8.toNat_inj.1 h95]; rfl)
            go_wp2
            go_quiet (fail)
            have HBQ := Lib.hid (below_drewN (n := nq) HB.out)
            go_wp2
            go_roundw
            case rel => exact ⟨i + 1, j + 1, taken, st, by go_num, by go_num, rfl, rfl, HI.out.step HPj.out HN37.out HTi.out hm.out, HBQ.out⟩
            case measure => simp only [intOf, Int.toNat_natCast]; rw [show ((j : Int) + 1).toNat = j + 1 by omega]; exact meas (by omega) (by omega) g2
          · have b95 : ((p[j].toNat : Int) == 95) = false := by simp; omega
            have HN95 := Lib.hid (show (p[j] == 95) = false by simp; intro e; apply h95; rw [e]; rfl)
            clear h95
            by_cases heq : p[j].toNat = s[i].toNat
            · have beq : ((p[j].toNat : Int) == (s[i].toNat : Int)) = true := by simp; omega
              have hm := Lib.hid (show (p[j] == 95 || p[j] == s[i]) = true by rw [UInt8.toNat_inj.1 heq]; simp)
              clear heq
              go_wp2
              go_quiet (fail)
              have HBQ := Lib.hid (below_drewN (n := nq) HB.out)
              go_wp2
              go_roundw
              case rel => exact ⟨i + 1, j + 1, taken, st, by go_num, by go_num, rfl, rfl, HI.out.step HPj.out HN37.out HTi.out hm.out, HBQ.out⟩
              case measure => simp only [intOf, Int.toNat_natCast]; rw [show ((j : Int) + 1).toNat = j + 1 by omega]; exact meas (by omega) (by omega) g2
            · have beq : ((p[j].toNat : Int) == (s[i].toNat : Int)) = false := by simp; omega
              have hmiss := Lib.hid (show likeM (p.data.toList.drop j) (s.data.toList.drop i) = false from LI.miss (by rw [HL.out]; exact hi) (.inr ⟨p[j], HPj.out, HN37.out, by
                have e2 : (s.data.toList[i]'(by rw [HL.out]; exact hi)) = s[i] := by simp; rfl
                rw [e2, HN95.out, Bool.false_or]
                simp
                intro e
                apply heq
                rw [e]⟩))
              clear heq
              by_cases hst : 0 ≤ st
              · obtain ⟨sn, rfl⟩ : ∃ sn : Nat, st = (sn : Int) := ⟨st.toNat, by omega⟩
                have hq := (G6.out (by omega)).1
                simp only [Int.toNat_natCast] at hq
                have HI2 := Lib.hid (HI.out.back (by rw [HL.out]; exact hi) (by omega) hmiss.out)
                go_wp2
                go_quiet (fail)
                have HBQ := Lib.hid (below_drewN (n := nq) HB.out)
                go_wp2
                go_roundw
                case rel => exact ⟨taken + 1, sn + 1, taken + 1, sn, by go_num, by go_num, rfl, by go_num, HI2.out, HBQ.out⟩
                case measure => simp only [intOf, Int.toNat_natCast]; rw [show ((taken : Int) + 1).toNat = taken + 1 by omega]; exact meas (by omega) (by omega) g2
              · have hst' : st < 0 := by omega
                have HF := Lib.hid (HI.out.fail hst' hmiss.out)
                go_wp2
                go_quiet (fail)
                have HBQ := Lib.hid (below_drewN (n := nq) HB.out)
                go_wp2
                go_ret
                exact ⟨by rw [HF.out]; rfl, HBQ.out⟩
      · have hjj : ¬ (j : Int) < p.size := by omega
        have hmiss := Lib.hid (show likeM (p.data.toList.drop j) (s.data.toList.drop i) = false from LI.miss (by rw [HL.out]; exact hi) (.inl (List.getElem?_eq_none (by rw [HM.out]; omega))))
        by_cases hst : 0 ≤ st
        · obtain ⟨sn, rfl⟩ : ∃ sn : Nat, st = (sn : Int) := ⟨st.toNat, by omega⟩
          have hq := (G6.out (by omega)).1
          simp only [Int.toNat_natCast] at hq
          have HI2 := Lib.hid (HI.out.back (by rw [HL.out]; exact hi) (by omega) hmiss.out)
          go_wp2
          go_quiet (fail)
          have HBQ := Lib.hid (below_drewN (n := nq) HB.out)
          go_wp2
          go_roundw
          case rel => exact ⟨taken + 1, sn + 1, taken + 1, sn, by go_num, by go_num, rfl, by go_num, HI2.out, HBQ.out⟩
          case measure => simp only [intOf, Int.toNat_natCast]; rw [show ((taken : Int) + 1).toNat = taken + 1 by omega]; exact meas (by omega) (by omega) g2
        · have hst' : st < 0 := by omega
          have HF := Lib.hid (HI.out.fail hst' hmiss.out)
          go_wp2
          go_quiet (fail)
          have HBQ := Lib.hid (below_drewN (n := nq) HB.out)
          go_wp2
          go_ret
          exact ⟨by rw [HF.out]; rfl, HBQ.out⟩
    · have hie : i = s.size := by omega
      have hii : ¬ (i : Int) < s.size := by omega
      have HE := Lib.hid (HI.out.done (by rw [HL.out]; exact hie))
      obtain ⟨r, hr⟩ : ∃ r, likeM p.data.toList s.data.toList = r := ⟨_, rfl⟩
      rw [hr] at HE
      have HR := Lib.hid hr
      clear hie hr
      go_wp2
      go_loopw [6] (fun s6 wr' => ∃ j' : Nat, s6 = .int .i64 (j' : Int) ∧ j' ≤ p.size ∧ r = likeM (p.data.toList.drop j') [] ∧ Below w.heap.size w wr') (fun s6 _ => p.size - (intOf s6).toNat)
      case atStart => exact ⟨j, rfl, g2, HE.out, HB.out⟩
      case round =>
        obtain ⟨j', rfl, hj', hE', hb'⟩ := hrel
        have HE' := Lib.hid hE'
        have HB' := Lib.hid hb'
        clear hE' hb'
        by_cases hj : j' < p.size
        · have hjj : (j' : Int) < p.size := by omega
          have HPj := Lib.hid (show p.data.toList[j']? = some p[j'] by rw [List.getElem?_eq_getElem (by rw [HM.out]; exact hj)]; simp; rfl)
          by_cases h37 : p[j'].toNat = 37
          · have HP2 := Lib.hid (show p.data.toList[j']? = some 37 by rw [HPj.out]; congr 1; exact UInt8.toNat_inj.1 h37)
            go_wp2
            go_roundw
            case rel => exact ⟨j' + 1, by go_num, hj, by rw [HE'.out, like_skip HP2.out], HB'.out⟩
            case measure => simp [intOf]; omega
          · have b37 : ((p[j'].toNat : Int) == 37) = false := by simp; omega
            have hne := Lib.hid (show r = false by rw [HE'.out]; exact like_end (T := []) HPj.out (fun e => h37 (by rw [e]; rfl)))
            have hje : ((j' : Int) == p.size) = false := by simp; omega
            clear h37
            go_wp2
            go_ret
            exact ⟨by rw [HR.out, hne.out]; rfl, HB'.out⟩
        · have hje : j' = p.size := by omega
          subst hje
          have ht := Lib.hid (show r = true by rw [HE'.out, List.drop_of_length_le (by rw [HM.out]; omega)]; rfl)
          go_wp2
          go_ret
          exact ⟨by rw [HR.out, ht.out]; rfl, HB'.out⟩
end Go.Proofs.Ytfhbffgnpedaeaa
