/- Lists of intervals equal; the hull. -/
import Derived.Test.YtnoddkbpdfimmaaIvg
namespace Go.Proofs.Ytnoddkbpdfimmaa
open Go.ChangeShapes Go.WideShapes Go.ChangeAt Go.RowKit Go.ChangeMaps

set_option maxRecDepth 100000 in
set_option maxHeartbeats 2000000 in
theorem Equal_any (A B : Option Addr) (n m c c2 : Nat) (R T : List Iv) (w : World) (h : Ivs w A n R) (h2 : Ivs w B m T) (hn : n ≤ 100000) : Calls Try.prog 44 #[.slice A n c, .slice B m c2] w fun e w' => e = .returned (.bool (decide (R = T))) ∧ Below w.heap.size w w' := by
  have HL := Lib.hid h.len
  have HA := Lib.hid h.at
  have HL2 := Lib.hid h2.len
  have HA2 := Lib.hid h2.at
  clear h h2
  obtain ⟨r, hr⟩ : ∃ r, decide (R = T) = r := ⟨_, rfl⟩
  rw [hr]
  have HR := Lib.hid hr
  clear hr
  by_cases hnm : n = m
  · subst hnm
    go_enter Try.func44, Try.ntmps44
    go_wp2
    go_loopw [13] (fun s5 wr => ∃ (k : Nat), s5 = .int .i64 (k : Int) ∧ k ≤ n ∧ R.take k = T.take k ∧ Below w.heap.size w wr) (fun s5 _ => n - (intOf s5).toNat)
    case atStart => exact ⟨0, rfl, Nat.zero_le _, rfl, Below.refl _ _⟩
    case round =>
      obtain ⟨k, rfl, hkn, hE, hB⟩ := hrel
      have HE := Lib.hid hE
      have HB := Lib.hid hB
      clear hE hB
      by_cases hlt : k < n
      · have hki : (k : Int) < n := by omega
        have hk0 : (0 : Int) ≤ (k : Int) := by omega
        obtain ⟨b, off, rfl, hbl, hc⟩ := HA.out (by omega)
        obtain ⟨b2, off2, rfl, hbl2, hc2⟩ := HA2.out (by omega)
        have hi' : k < R.length := by rw [HL.out]; exact hlt
        have hj' : k < T.length := by rw [HL2.out]; exact hlt
        obtain ⟨c0, c1⟩ := hc wr HB.out k hi'
        obtain ⟨d0, d1⟩ := hc2 wr HB.out k hj'
        have HT := Lib.hid (show R.take (k + 1) = R.take k ++ [R[k]] ∧ T.take (k + 1) = T.take k ++ [T[k]] from ⟨List.take_succ_eq_append_getElem hi', List.take_succ_eq_append_getElem hj'⟩)
        have HNE := Lib.hid (show R[k] ≠ T[k] → r = false from fun h => by
          rw [← HR.out]
          simp only [decide_eq_false_iff_not]
          intro e
          subst e
          exact h rfl)
        clear hc hbl hc2 hbl2
        generalize R[k] = x at *
        generalize T[k] = y at *
        obtain ⟨x0, x1⟩ := x
        obtain ⟨y0, y1⟩ := y
        simp only at c0 c1 d0 d1
        cases h0 : (x0 == y0)
        · have HF := Lib.hid (HNE.out (fun e => by injection e with e _; subst e; simp at h0))
          go_upto_region 6 with fail
          go_quiet (fail)
          go_wp2
          go_ret
          exact ⟨by rw [HF.out]; rfl, by first | exact HB.out | exact below_drew HB.out | exact HB.out.drewN _ | exact below_drewN HB.out⟩
        · cases h1 : (x1 == y1)
          · have HF := Lib.hid (HNE.out (fun e => by injection e with _ e; subst e; simp at h1))
            go_upto_region 6 with fail
            go_quiet (fail)
            go_wp2
            go_ret
            exact ⟨by rw [HF.out]; rfl, by first | exact HB.out | exact below_drew HB.out | exact HB.out.drewN _ | exact below_drewN HB.out⟩
          · have HQ := Lib.hid (show R.take (k + 1) = T.take (k + 1) from by
              rw [HT.out.1, HT.out.2, HE.out, show x0 = y0 by simpa using h0, show x1 = y1 by simpa using h1])
            go_upto_region 6 with fail
            go_quiet (fail)
            go_wp2
            go_roundw
            case rel => exact ⟨k + 1, by go_num, hlt, HQ.out, by first | exact HB.out | exact below_drew HB.out | exact HB.out.drewN _ | exact below_drewN HB.out⟩
            case measure => simp only [intOf]; omega
      · obtain rfl : k = n := by omega
        have hlt2 : ¬ ((k : Int) < (k : Int)) := by omega
        have HF := Lib.hid (show r = true from by
          have h := HE.out
          rw [List.take_of_length_le (by rw [HL.out]; exact Nat.le_refl _), List.take_of_length_le (by rw [HL2.out]; exact Nat.le_refl _)] at h
          rw [← HR.out, h]
          simp)
        go_wp2
        go_ret
        exact ⟨by rw [HF.out]; rfl, HB.out⟩
  · have h1 : ((n : Int) == (m : Int)) = false := by simp; omega
    have h1' : ((n : Int) != (m : Int)) = true := by simp; omega
    have HF := Lib.hid (show r = false from by
      rw [← HR.out]
      simp only [decide_eq_false_iff_not]
      intro e
      subst e
      exact hnm (HL.out.symm.trans HL2.out))
    go_enter Try.func44, Try.ntmps44
    go_wp2
    go_ret
    exact ⟨by rw [HF.out]; rfl, Below.refl _ _⟩

def hullA (R : List Iv) : Value := if R.length = 0 then .tuple #[(Iv.mk 0 0).agg, .bool false] else .tuple #[(Iv.mk (R.getD 0 ⟨0, 0⟩).lo (R.getD (R.length - 1) ⟨0, 0⟩).hi).agg, .bool true]
set_option maxRecDepth 100000 in
set_option maxHeartbeats 1000000 in
theorem Hull_any (A : Option Addr) (n c : Nat) (R : List Iv) (w : World) (h : Ivs w A n R) (hn : n ≤ 100000) : Calls Try.prog 25 #[.slice A n c] w fun e w' => e = .returned (hullA R) ∧ Below w.heap.size w w' := by
  have HL := Lib.hid h.len
  have HA := Lib.hid h.at
  obtain ⟨res, hres⟩ : ∃ res, hullA R = res := ⟨_, rfl⟩
  rw [hres]
  have HR := Lib.hid hres
  clear h hres
  obtain ⟨W0, hW0⟩ : ∃ W, W = w.alloc (.cells #[.int .i64 0, .int .i64 0] 39) := ⟨_, rfl⟩
  have HB := Lib.hid (show Below w.heap.size w W0 by rw [hW0]; exact (Below.refl _ w).alloc (Nat.le_refl _) _)
  have K2 := Lib.hid (show Blk W0 w.heap.size 39 #[.int .i64 0, .int .i64 0] by rw [hW0]; exact Blk.new _ _ _)
  rcases n with _ | p
  · have HE := Lib.hid (show Value.tuple #[(Iv.mk 0 0).agg, .bool false] = res by rw [← HR.out]; unfold hullA; rw [if_pos HL.out])
    have e0 : W0.cell? ⟨w.heap.size, 0, none⟩ = some (.int .i64 0) := K2.out.cell 0
    have e1 : W0.cell? ⟨w.heap.size, 1, none⟩ = some (.int .i64 0) := K2.out.cell 1
    have z2 : ∀ j, W0.frozen? ⟨w.heap.size, j, none⟩ = false := fun j => Joins.unfrozen_of_block K2.out _
    have s1 := store_step K2.out 0 (.int .i64 0)
    have s2 := store_step s1.1 1 (.int .i64 0)
    have HX := Lib.hid (s2.2.2 _ _ (s1.2.2 _ _ HB.out (Nat.le_refl _)) (Nat.le_refl _))
    have HK := Lib.hid s2.1
    clear s1 s2
    go_enter Try.func25, Try.ntmps25
    go_upto_region 1 with fail
    rw [← hW0]
    clear hW0
    go_wp2
    refine bodyPost_ret (results_c2 rfl _ _ _ w.heap.size _ rfl (load39 HK.out rfl)) rfl ?_
    rw [← HE.out]
    exact ⟨rfl, HX.out⟩
  · obtain ⟨b, off, rfl, hbl, hc⟩ := HA.out (by omega)
    obtain ⟨a0, -⟩ := hc W0 HB.out 0 (by rw [HL.out]; omega)
    obtain ⟨-, a1⟩ := hc W0 HB.out p (by rw [HL.out]; omega)
    have HE := Lib.hid (show Value.tuple #[(Iv.mk (R[0]'(by rw [HL.out]; omega)).lo (R[p]'(by rw [HL.out]; omega)).hi).agg, .bool true] = res by
      rw [← HR.out]
      unfold hullA
      have h0 : 0 < R.length := by rw [HL.out]; omega
      have h1 : p < R.length := by rw [HL.out]; omega
      rw [if_neg (by rw [HL.out]; omega), show R.length - 1 = p by rw [HL.out]; rfl]
      simp [List.getD, List.getElem?_eq_getElem h0, List.getElem?_eq_getElem h1])
    clear hc
    generalize (R[0]'(by rw [HL.out]; omega)).lo = l0 at *
    generalize (R[p]'(by rw [HL.out]; omega)).hi = l1 at *
    simp only [Nat.zero_mul, Nat.add_zero] at a0
    have hp0 : (0 : Int) ≤ (p : Int) := by omega
    have hp1 : (0 : Int) < (p : Int) + 1 := by omega
    have hpz : ((p : Int) + 1 == 0) = false := by simp; omega
    have e0 : W0.cell? ⟨w.heap.size, 0, none⟩ = some (.int .i64 0) := K2.out.cell 0
    have e1 : W0.cell? ⟨w.heap.size, 1, none⟩ = some (.int .i64 0) := K2.out.cell 1
    have z2 : ∀ j, W0.frozen? ⟨w.heap.size, j, none⟩ = false := fun j => Joins.unfrozen_of_block K2.out _
    go_enter Try.func25, Try.ntmps25
    go_upto_region 1 with fail
    rw [← hW0]
    clear hW0
    go_upto_region 3 with fail
    have s1 := store_step K2.out 0 (.int .i64 l0)
    have s2 := store_step s1.1 1 (.int .i64 l1)
    have HX := Lib.hid (s2.2.2 _ _ (s1.2.2 _ _ HB.out (Nat.le_refl _)) (Nat.le_refl _))
    have HK := Lib.hid s2.1
    clear s1 s2
    go_region
    go_wp2
    refine bodyPost_ret (results_c2 rfl _ _ _ w.heap.size _ rfl (load39 HK.out.drew rfl)) rfl ?_
    rw [← HE.out]
    exact ⟨rfl, below_drew HX.out⟩
end Go.Proofs.Ytnoddkbpdfimmaa
