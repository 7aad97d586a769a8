/- Rows of numbers compared. -/
import Derived.Test.YtgenpldldgplhaaSow
import Derived.BigQuiet
import Derived.Deep.Cut
namespace Go.Proofs.Ytgenpldldgplhaa
open Go.ChangeShapes Go.WideShapes Go.ChangeAt Go.RowKit Go.ChangeMaps

def Nms (w : World) (A : Option Addr) (n : Nat) (R : List Int) : Prop := At w A n 1 (ic .i64 R)
theorem Nms.at {w : World} {A : Option Addr} {n : Nat} {R : List Int} (h : Nms w A n R) (hn : 0 < n) : ∃ b off, A = some ⟨b, off, none⟩ ∧ b < w.heap.size ∧ ∀ (W : World), Below w.heap.size w W → ∀ i (hi : i < R.length), W.cell? ⟨b, off + i, none⟩ = some (.int .i64 R[i]) := by
  obtain ⟨b, off, e, hb, hc⟩ := h.2 hn
  exact ⟨b, off, e, hb, fun W hW i hi => (hW.cell (p := ⟨b, off + i, none⟩) hb).trans (hc i _ (by simp [ic, List.getElem?_eq_getElem hi]))⟩
set_option maxRecDepth 100000 in
set_option maxHeartbeats 2000000 in
theorem Same_any (A B : Option Addr) (n m c c2 : Nat) (R T : List Int) (w : World) (h : Nms w A n R) (h2 : Nms w B m T) (hn : n ≤ 100000) : Calls Try.prog 13 #[.slice A n c, .slice B m c2] w fun e w' => e = .returned (.bool (decide (R = T))) ∧ Below w.heap.size w w' := by
  have HL := Lib.hid (show R.length = n from h.int)
  have HA := Lib.hid h.at
  have HL2 := Lib.hid (show T.length = m from h2.int)
  have HA2 := Lib.hid h2.at
  clear h h2
  obtain ⟨r, hr⟩ : ∃ r, decide (R = T) = r := ⟨_, rfl⟩
  rw [hr]
  have HR := Lib.hid hr
  clear hr
  by_cases hnm : n = m
  · subst hnm
    go_enter Try.func13, Try.ntmps13
    go_wp2
    go_loopw [5] (fun s5 wr => ∃ (k : Nat), s5 = .int .i64 (k : Int) ∧ k ≤ n ∧ R.take k = T.take k ∧ Below w.heap.size w wr) (fun s5 _ => n - (intOf s5).toNat)
    case atStart => exact ⟨0, rfl, Nat.zero_le _, rfl, Below.refl _ _⟩
    case round =>
      obtain ⟨k, rfl, hkn, hE, hB⟩ := hrel
      have HE := Lib.hid hE
      have HB := Lib.hid hB
      clear hE hB
      by_cases hlt : k < n
      · have hki : (k : Int) < n := by omega
        have hk0 : (0 : Int) ≤ (k : Int) := by omega
        obtain ⟨b, off, rfl, hbl, hc⟩ := HA.out (by omega)
        obtain ⟨b2, off2, rfl, hbl2, hc2⟩ := HA2.out (by omega)
        have hi' : k < R.length := by rw [HL.out]; exact hlt
        have hj' : k < T.length := by rw [HL2.out]; exact hlt
        have c0 := hc wr HB.out k hi'
        have d0 := hc2 wr HB.out k hj'
        have HT := Lib.hid (show R.take (k + 1) = R.take k ++ [R[k]] ∧ T.take (k + 1) = T.take k ++ [T[k]] from ⟨List.take_succ_eq_append_getElem hi', List.take_succ_eq_append_getElem hj'⟩)
        have HNE := Lib.hid (show R[k] ≠ T[k] → r = false from fun h => by
          rw [← HR.out]
          simp only [decide_eq_false_iff_not]
          intro e
          subst e
          exact h rfl)
        clear hc hbl hc2 hbl2
        generalize R[k] = x at *
        generalize T[k] = y at *
        cases h0 : (x == y)
        · have HF := Lib.hid (HNE.out (fun e => by subst e; simp at h0))
          go_upto_region 6 with fail
          go_quiet (fail)
          go_wp2
          go_ret
          exact ⟨by rw [HF.out]; rfl, by first | exact HB.out | exact below_drew HB.out | exact HB.out.drewN _ | exact ⟨HB.out.os, HB.out.tape, HB.out.output, HB.out.size, HB.out.block⟩⟩
        · have HQ := Lib.hid (show R.take (k + 1) = T.take (k + 1) from by
            rw [HT.out.1, HT.out.2, HE.out, show x = y by simpa using h0])
          go_upto_region 6 with fail
          go_quiet (fail)
          go_wp2
          go_roundw
          case rel => exact ⟨k + 1, by go_num, hlt, HQ.out, by first | exact HB.out | exact below_drew HB.out | exact HB.out.drewN _ | exact ⟨HB.out.os, HB.out.tape, HB.out.output, HB.out.size, HB.out.block⟩⟩
          case measure => simp only [intOf]; omega
      · obtain rfl : k = n := by omega
        have hlt2 : ¬ ((k : Int) < (k : Int)) := by omega
        have HF := Lib.hid (show r = true from by
          have h := HE.out
          rw [List.take_of_length_le (by rw [HL.out]; exact Nat.le_refl _), List.take_of_length_le (by rw [HL2.out]; exact Nat.le_refl _)] at h
          rw [← HR.out, h]
          simp)
        go_wp2
        go_ret
        exact ⟨by rw [HF.out]; rfl, HB.out⟩
  · have h1 : ((n : Int) == (m : Int)) = false := by simp; omega
    have h1' : ((n : Int) != (m : Int)) = true := by simp; omega
    have HF := Lib.hid (show r = false from by
      rw [← HR.out]
      simp only [decide_eq_false_iff_not]
      intro e
      subst e
      exact hnm (HL.out.symm.trans HL2.out))
    go_enter Try.func13, Try.ntmps13
    go_wp2
    go_ret
    exact ⟨by rw [HF.out]; rfl, Below.refl _ _⟩
end Go.Proofs.Ytgenpldldgplhaa
