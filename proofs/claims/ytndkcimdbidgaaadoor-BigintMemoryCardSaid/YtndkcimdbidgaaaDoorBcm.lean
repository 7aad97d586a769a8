/- The order of two lists of digits. -/
import Derived.Test.YtndkcimdbidgaaaDoorBtr
import Derived.BigQuiet
import Derived.Lib.QuietBelow
namespace Go.Proofs.YtndkcimdbidgaaaDoor
open Go.ChangeShapes Go.WideShapes Go.ChangeAt Go.RowKit Go.ChangeMaps

def scmp (a b : Nat) : Int := if a < b then -1 else if b < a then 1 else 0
set_option maxRecDepth 100000 in
set_option maxHeartbeats 4000000 in
theorem compare_any (A : Option Addr) (n c : Nat) (D : List Nat) (A2 : Option Addr) (m c2 : Nat) (E : List Nat) (w : World) (h : DG w A n D) (h2 : DG w A2 m E) (hn : n ≤ 100000) (hnz : n = m ∨ (nmz D ∧ nmz E)) :
    Calls Tryd.prog 51 #[.slice A n c, .slice A2 m c2] w fun e w' => e = .returned (.int .i64 (scmp (dv 4294967296 D) (dv 4294967296 E))) ∧ Below w.heap.size w w' := by
  have HA := Lib.hid h.at
  have HL := Lib.hid h.1
  have HD := Lib.hid h.2.1
  have HA2 := Lib.hid h2.at
  have HL2 := Lib.hid h2.1
  have HD2 := Lib.hid h2.2.1
  obtain ⟨r, hr⟩ : ∃ r, scmp (dv 4294967296 D) (dv 4294967296 E) = r := ⟨_, rfl⟩
  rw [hr]
  have HR := Lib.hid hr
  clear h h2 hr
  rcases Nat.lt_trichotomy n m with hlt | hlt | hlt
  · have HF := Lib.hid (show -1 = r by
      have hz := hnz.resolve_left (by omega)
      rw [← HR.out]; unfold scmp; rw [if_pos (nmz_len (by decide) D E HD.out HD2.out hz.2 (by rw [HL.out, HL2.out]; exact hlt))])
    have h1 : ((n : Int) == (m : Int)) = false := by simp; omega
    have h1' : ((n : Int) != (m : Int)) = true := by simp; omega
    have hlti : (n : Int) < m := by omega
    go_enter Tryd.func51, Tryd.ntmps51
    go_wp2
    go_ret
    exact ⟨ret_int HF.out, Below.refl _ _⟩
  · subst hlt
    go_enter Tryd.func51, Tryd.ntmps51
    go_wp2
    go_loopw [5] (fun s5 wr => ∃ (k : Nat) (x : Int), s5 = .int .i64 x ∧ x = (k : Int) - 1 ∧ k ≤ n ∧ D.drop k = E.drop k ∧ Below w.heap.size w wr) (fun s5 _ => (intOf s5 + 1).toNat)
    case atStart => exact ⟨n, _, rfl, rfl, Nat.le_refl _, by rw [List.drop_of_length_le (show D.length ≤ n by rw [HL.out]; exact Nat.le_refl _), List.drop_of_length_le (show E.length ≤ n by rw [HL2.out]; exact Nat.le_refl _)], Below.refl _ _⟩
    case round =>
      obtain ⟨k, x, rfl, hx, hkn, he, hb⟩ := hrel
      have HE := Lib.hid he
      have HB := Lib.hid hb
      clear he hb
      by_cases h0 : k = 0
      · subst h0
        obtain rfl : x = -1 := by omega
        clear hx
        have HF := Lib.hid (show 0 = r by
          have := HE.out
          simp only [List.drop_zero] at this
          rw [← HR.out, this]; unfold scmp; rw [if_neg (by omega), if_neg (by omega)])
        go_wp2
        go_ret
        exact ⟨ret_int HF.out, HB.out⟩
      · obtain ⟨j, rfl⟩ : ∃ j : Nat, k = j + 1 := ⟨k - 1, by omega⟩
        obtain rfl : x = (j : Int) := by omega
        clear hx h0
        have hjn : (j : Int) < n := by omega
        obtain ⟨b, off, rfl, hbl, hc⟩ := HA.out (by omega)
        obtain ⟨b2, off2, rfl, hbl2, hc2⟩ := HA2.out (by omega)
        obtain ⟨d, hd⟩ : ∃ d, D[j]? = some d := ⟨_, List.getElem?_eq_getElem (by have := HL.out; omega)⟩
        obtain ⟨e, hee⟩ : ∃ d, E[j]? = some d := ⟨_, List.getElem?_eq_getElem (by have := HL2.out; omega)⟩
        have c0 := hc wr HB.out j d hd
        have c1 := hc2 wr HB.out j e hee
        have HDd := Lib.hid hd
        have HEe := Lib.hid hee
        clear hc hc2 hd hee
        by_cases hde : d = e
        · subst hde
          have HE2 := Lib.hid (show D.drop j = E.drop j by
            obtain ⟨h1, h2⟩ := List.getElem?_eq_some_iff.1 HDd.out
            obtain ⟨h3, h4⟩ := List.getElem?_eq_some_iff.1 HEe.out
            rw [List.drop_eq_getElem_cons h1, List.drop_eq_getElem_cons h3, h2, h4, HE.out])
          go_wp2
          go_quiet (fail)
          have HBQ := Lib.hid (below_drewN (n := nq) HB.out)
          go_wp2
          go_roundw
          case rel => exact ⟨j, _, by go_num, by go_num, by omega, HE2.out, HBQ.out⟩
          case measure => simp only [intOf]; omega
        · have hne : ((d : Int) == (e : Int)) = false := by simp; omega
          have hne' : ((d : Int) != (e : Int)) = true := by simp; omega
          rcases Nat.lt_or_ge d e with hlt | hge
          · have hlti : (d : Int) < e := by omega
            have HF := Lib.hid (show -1 = r by rw [← HR.out]; unfold scmp; rw [if_pos (cmp_top (by decide) D E j d e HD.out HD2.out HDd.out HEe.out HE.out hlt)])
            clear hde
            go_wp2
            go_quiet (fail)
            have HBQ := Lib.hid (below_drewN (n := nq) HB.out)
            have c0' : (wr.drewN nq).cell? ⟨b, off + j, none⟩ = some (.int .u32 (d : Int)) := c0
            have c1' : (wr.drewN nq).cell? ⟨b2, off2 + j, none⟩ = some (.int .u32 (e : Int)) := c1
            go_wp2
            go_quiet (fail)
            go_wp2
            go_ret
            exact ⟨ret_int HF.out, by have := below_drewN (n := nq) HBQ.out; exact this⟩
          · have hlti : ¬ (d : Int) < e := by omega
            have HF := Lib.hid (show 1 = r by
              have h1 := cmp_top (by decide) E D j e d HD2.out HD.out HEe.out HDd.out HE.out.symm (by omega)
              rw [← HR.out]; unfold scmp; rw [if_neg (by omega), if_pos h1])
            clear hde hge
            go_wp2
            go_quiet (fail)
            have HBQ := Lib.hid (below_drewN (n := nq) HB.out)
            have c0' : (wr.drewN nq).cell? ⟨b, off + j, none⟩ = some (.int .u32 (d : Int)) := c0
            have c1' : (wr.drewN nq).cell? ⟨b2, off2 + j, none⟩ = some (.int .u32 (e : Int)) := c1
            go_wp2
            go_quiet (fail)
            go_wp2
            go_ret
            exact ⟨ret_int HF.out, by have := below_drewN (n := nq) HBQ.out; exact this⟩
  · have HF := Lib.hid (show 1 = r by
      have hz := hnz.resolve_left (by omega)
      have h1 := nmz_len (by decide) E D HD2.out HD.out hz.1 (by rw [HL.out, HL2.out]; exact hlt)
      rw [← HR.out]; unfold scmp; rw [if_neg (by omega), if_pos h1])
    have h1 : ((n : Int) == (m : Int)) = false := by simp; omega
    have h1' : ((n : Int) != (m : Int)) = true := by simp; omega
    have hlti : ¬ (n : Int) < m := by omega
    go_enter Tryd.func51, Tryd.ntmps51
    go_wp2
    go_ret
    exact ⟨ret_int HF.out, Below.refl _ _⟩
end Go.Proofs.YtndkcimdbidgaaaDoor
