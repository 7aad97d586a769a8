/- Tokens compared. -/
import Derived.Test.YtdkkflmhpncglaaDoorLxp
import Derived.BigQuiet
import Derived.Deep.QuietTactic
import Derived.Deep.Cut
namespace Go.Proofs.YtdkkflmhpncglaaDoor
open Go.ChangeShapes Go.WideShapes Go.ChangeAt Go.RowKit Go.ChangeMaps

def shf (d : Nat) (x : Tk) : Tk := ⟨x.k, x.t, x.p + d⟩
set_option maxRecDepth 100000 in
set_option maxHeartbeats 2000000 in
theorem same_any (A B : Option Addr) (n m c c2 d : Nat) (R T : List Tk) (w : World) (h : Tks w A n R) (h2 : Tks w B m T) (hn : n ≤ 100000) (hp : ∀ y ∈ T, y.p ≤ 100000) (hd : d ≤ 100000) : Calls Tryd.prog 13 #[.slice A n c, .slice B m c2, .int .i64 (d : Int)] w fun e w' => e = .returned (.bool (decide (R = T.map (shf d)))) ∧ Below w.heap.size w w' := by
  have HL := Lib.hid h.len
  have HA := Lib.hid h.at
  have HL2 := Lib.hid h2.len
  have HA2 := Lib.hid h2.at
  have HPP := Lib.hid hp
  clear h h2 hp
  obtain ⟨r, hr⟩ : ∃ r, decide (R = T.map (shf d)) = r := ⟨_, rfl⟩
  rw [hr]
  have HR := Lib.hid hr
  clear hr
  by_cases hnm : n = m
  · subst hnm
    go_enter Tryd.func13, Tryd.ntmps13
    go_wp2
    go_loopw [15] (fun s5 wr => ∃ (k : Nat), s5 = .int .i64 (k : Int) ∧ k ≤ n ∧ R.take k = (T.map (shf d)).take k ∧ Below w.heap.size w wr) (fun s5 _ => n - (intOf s5).toNat)
    case atStart => exact ⟨0, rfl, Nat.zero_le _, rfl, Below.refl _ _⟩
    case round =>
      obtain ⟨k, rfl, hkn, hE, hB⟩ := hrel
      have HE := Lib.hid hE
      have HB := Lib.hid hB
      clear hE hB
      by_cases hlt : k < n
      · have hki : (k : Int) < n := by omega
        have hk0 : (0 : Int) ≤ (k : Int) := by omega
        obtain ⟨b, off, rfl, hbl, hc⟩ := HA.out (by omega)
        obtain ⟨b2, off2, rfl, hbl2, hc2⟩ := HA2.out (by omega)
        have hi' : k < R.length := by rw [HL.out]; exact hlt
        have hj' : k < T.length := by rw [HL2.out]; exact hlt
        have hm' : k < (T.map (shf d)).length := by rw [List.length_map]; exact hj'
        obtain ⟨c0, c1, c2⟩ := hc wr HB.out k hi'
        obtain ⟨d0, d1, d2⟩ := hc2 wr HB.out k hj'
        have hyp := HPP.out _ (List.getElem_mem hj')
        have HT := Lib.hid (show R.take (k + 1) = R.take k ++ [R[k]] ∧ (T.map (shf d)).take (k + 1) = (T.map (shf d)).take k ++ [shf d T[k]] from ⟨List.take_succ_eq_append_getElem hi', by rw [List.take_succ_eq_append_getElem hm', List.getElem_map]⟩)
        have HNE := Lib.hid (show R[k] ≠ shf d T[k] → r = false from fun h => by
          rw [← HR.out]
          simp only [decide_eq_false_iff_not]
          intro e
          subst e
          exact h (by rw [List.getElem_map]))
        clear hc hbl hc2 hbl2
        generalize R[k] = x at *
        generalize T[k] = y at *
        obtain ⟨x0, x1, x2⟩ := x
        obtain ⟨y0, y1, y2⟩ := y
        simp only at c0 c1 c2 d0 d1 d2 hyp
        obtain ⟨qa, hqa⟩ : ∃ q : ByteArray, (⟨x1.toArray⟩ : ByteArray) = q := ⟨_, rfl⟩
        obtain ⟨qb, hqb⟩ : ∃ q : ByteArray, (⟨y1.toArray⟩ : ByteArray) = q := ⟨_, rfl⟩
        have HSE := Lib.hid (show (qa.toList == qb.toList) = (x1 == y1) by rw [tol, tol, ← hqa, ← hqb])
        rw [hqa] at c1
        rw [hqb] at d1
        clear hqa hqb
        have hwk : IntKind.i64.wrap ((y2 : Int) + (d : Int)) = (y2 : Int) + (d : Int) := by rw [IntKind.wrap_i64]; omega
        cases h0 : (x0 == y0)
        · have HF := Lib.hid (HNE.out (fun e => by injection e with e _ _; subst e; simp at h0))
          have n0 : (x0 != y0) = true := by simp [bne, h0]
          go_upto_region 6 with fail
          go_quiet (fail)
          go_wp2
          go_ret
          exact ⟨by rw [HF.out]; rfl, by first | exact HB.out | exact below_drew HB.out | exact HB.out.drewN _ | exact below_drewN HB.out⟩
        · have n0 : (x0 != y0) = false := by simp [bne, h0]
          cases h1 : (x1 == y1)
          · have HF := Lib.hid (HNE.out (fun e => by injection e with _ e _; subst e; simp at h1))
            have h1s : (qa.toList == qb.toList) = false := by rw [HSE.out]; exact h1
            have n1 : (qa.toList != qb.toList) = true := by simp only [bne, h1s]; rfl
            go_upto_region 6 with fail
            go_quiet (fail)
            go_wp2
            go_ret
            exact ⟨by rw [HF.out]; rfl, by first | exact HB.out | exact below_drew HB.out | exact HB.out.drewN _ | exact below_drewN HB.out⟩
          · have h1s : (qa.toList == qb.toList) = true := by rw [HSE.out]; exact h1
            have n1 : (qa.toList != qb.toList) = false := by simp only [bne, h1s]; rfl
            cases h2 : ((x2 : Int) == (y2 : Int) + (d : Int))
            · have HF := Lib.hid (HNE.out (fun e => by injection e with _ _ e; subst e; simp at h2))
              have n2 : ((x2 : Int) != (y2 : Int) + (d : Int)) = true := by simp only [bne, h2]; rfl
              go_upto_region 6 with fail
              go_quiet (fail)
              go_wp2
              go_ret
              exact ⟨by rw [HF.out]; rfl, by first | exact HB.out | exact below_drew HB.out | exact HB.out.drewN _ | exact below_drewN HB.out⟩
            · have n2 : ((x2 : Int) != (y2 : Int) + (d : Int)) = false := by simp only [bne, h2]; rfl
              have HQ := Lib.hid (show R.take (k + 1) = (T.map (shf d)).take (k + 1) from by
                have e2 : x2 = y2 + d := by have := beq_iff_eq.1 h2; omega
                rw [HT.out.1, HT.out.2, HE.out, show x0 = y0 by simpa using h0, show x1 = y1 by simpa using h1, e2]
                rfl)
              go_upto_region 6 with fail
              go_quiet (fail)
              go_wp2
              go_roundw
              case rel => exact ⟨k + 1, by go_num, hlt, HQ.out, by first | exact HB.out | exact below_drew HB.out | exact HB.out.drewN _ | exact below_drewN HB.out⟩
              case measure => simp only [intOf]; omega
      · obtain rfl : k = n := by omega
        have hlt2 : ¬ ((k : Int) < (k : Int)) := by omega
        have HF := Lib.hid (show r = true from by
          have h := HE.out
          rw [List.take_of_length_le (by rw [HL.out]; exact Nat.le_refl _), List.take_of_length_le (by rw [List.length_map, HL2.out]; exact Nat.le_refl _)] at h
          rw [← HR.out, h]
          simp)
        go_wp2
        go_ret
        exact ⟨by rw [HF.out]; rfl, HB.out⟩
  · have h1 : ((n : Int) == (m : Int)) = false := by simp; omega
    have h1' : ((n : Int) != (m : Int)) = true := by simp; omega
    have HF := Lib.hid (show r = false from by
      rw [← HR.out]
      simp only [decide_eq_false_iff_not]
      intro e
      apply hnm
      rw [← HL.out, ← HL2.out, e, List.length_map])
    go_enter Tryd.func13, Tryd.ntmps13
    go_wp2
    go_ret
    exact ⟨by rw [HF.out]; rfl, Below.refl _ _⟩
end Go.Proofs.YtdkkflmhpncglaaDoor
