/- Random schedules. -/
import Derived.Test.YthageombfifffaaDoorRnm
namespace Go.Proofs.YthageombfifffaaDoor
open Go.ChangeShapes Go.WideShapes Go.ChangeAt Go.RowKit Go.ChangeMaps

set_option maxRecDepth 100000 in
set_option maxHeartbeats 2000000 in
theorem Random_any (s l ck cr seed S ck' cr' : Int) (L : Nat) (w : World) (hS : wi s 0 8 = S) (h0 : 0 < S) (hL : wi l 0 10000 = L) (hck : wi ck 0 1000 = ck') (hcr : wi cr 0 1000 = cr') (hs0 : 0 ≤ seed) (hs1 : seed < 18446744073709551616) :
    Calls Tryd.prog 16 #[.int .i64 s, .int .i64 l, .agg #[.int .i64 ck, .int .i64 cr], .int .u64 seed] w fun e w' => ∃ v, e = .returned v ∧ w'.ownsRow w.heap.size 29 4 v L (ActC (rL S ck' cr' seed L)) ∧ Below w.heap.size w w' := by
  obtain ⟨i0, hi, hz0, hz1, hz2⟩ := info_parts Tryd.info29
  have b1 := wi_bd s 0 8 (by omega)
  have b2 := wi_bd l 0 10000 (by omega)
  have b3 := wi_bd ck 0 1000 (by omega)
  have b4 := wi_bd cr 0 1000 (by omega)
  have C1 := fun w => within_any s 0 8 w (by omega)
  have C2 := fun w => within_any l 0 10000 w (by omega)
  have C3 := fun w => within_any ck 0 1000 w (by omega)
  have C4 := fun w => within_any cr 0 1000 w (by omega)
  rw [hS] at b1 C1
  rw [hL] at b2 C2
  rw [hck] at b3 C3
  rw [hcr] at b4 C4
  have C1 := Lib.hid C1
  have C2 := Lib.hid C2
  have C3 := Lib.hid C3
  have C4 := Lib.hid C4
  clear hS hL hck hcr
  go_enter Tryd.func16, Tryd.ntmps16
  go_wp2_with fail
  refine (C1.out _).mono ?_
  rintro e w' ⟨rfl, rfl⟩
  go_wp2_with fail
  refine (C3.out _).mono ?_
  rintro e w' ⟨rfl, rfl⟩
  go_wp2_with fail
  refine (C4.out _).mono ?_
  rintro e w' ⟨rfl, rfl⟩
  go_wp2_with fail
  refine (C2.out _).mono ?_
  rintro e w' ⟨rfl, rfl⟩
  go_wp2
  go_loopw [12, 13, 30] (fun v c i wr => ∃ (k : Nat) (st : Int) (op : Bool), k ≤ L ∧ i = .int .i64 k ∧ c = .bool op ∧ rS S ck' cr' seed k = (st, op) ∧ 0 ≤ st ∧ st < 18446744073709551616 ∧ wr.heap[w.heap.size + 1]? = some (.cells #[.int .u64 st] 51 (0, 0)) ∧ wr.ownsRow (w.heap.size + 1 + 1) 29 4 v k (ActC (rL S ck' cr' seed k)) ∧ Below w.heap.size w wr) (fun _ _ i _ => L - (intOf i).toNat)
  case atStart =>
    refine ⟨0, seed, false, Nat.zero_le _, rfl, rfl, rfl, hs0, hs1, ?_, World.ownsRow_nil _ _ _ _, ((Below.refl w.heap.size w).alloc (Nat.le_refl _) _).alloc (by simp) _⟩
    have := Go.Deep.blk_alloc_new (w.alloc (.cells #[.int .i64 ck, .int .i64 cr] 32)) (.cells #[.int .u64 seed] 51)
    rw [Go.Deep.nblk_alloc] at this
    exact this
  case round =>
    obtain ⟨k, st, op, hk, rfl, rfl, hst, hst0, hst1, hnum, hown, hB⟩ := hrel
    by_cases hlt : k < L
    · have R0 := RA.start hnum hown hB (by omega)
      have hsz := hB.size
      have HST := Lib.hid hst
      have HR0 := Lib.hid R0
      have HKW := Lib.hid hsz
      have kb := nR_bd st 1000 (by omega)
      clear hst hnum hown hB R0 hsz
      go_wp2_with fail
      refine (next26 st 1000 (w.heap.size + 1) _ hst0 hst1 (by omega) (by omega) (Joins.cell_of_block HR0.out.num 0) (Joins.unfrozen_of_block HR0.out.num 0)).mono ?_
      rintro e w1 ⟨rfl, hw1⟩
      have R1 := Lib.hid (show RA w w1 _ _ _ _ _ _ _ from by rw [hw1]; exact HR0.out.next (nS st))
      clear hw1 HR0
      by_cases q1 : nR st 1000 < ck'
      · have HK : Hid (rK S ck' cr' st op = (⟨2, 0, 0, 0⟩, nS st, op)) := Lib.hid (by unfold rK; rw [if_pos q1])
        have R2 := Lib.hid (R1.out.set 0 2 ⟨2, 0, 0, 0⟩ rfl)
        have c0 := Joins.cell_of_block R1.out.act 0
        have c1 := Joins.cell_of_block R1.out.act 1
        have c2 := Joins.cell_of_block R1.out.act 2
        have c3 := Joins.cell_of_block R1.out.act 3
        have cf := Joins.unfrozen_of_block R1.out.act
        simp only [List.getElem?_toArray, List.getElem?_cons_zero, List.getElem?_cons_succ] at c0 c1 c2 c3
        have d0 := Joins.cell_of_block R2.out.act 0
        have d1 := Joins.cell_of_block R2.out.act 1
        have d2 := Joins.cell_of_block R2.out.act 2
        have d3 := Joins.cell_of_block R2.out.act 3
        have df := Joins.unfrozen_of_block R2.out.act
        simp only [List.getElem?_toArray, List.getElem?_cons_zero, List.getElem?_cons_succ] at d0 d1 d2 d3
        go_wp2_with (at_builtin; go_loud (refine wpList_append_own _ rfl _ _ 24 rfl (w.heap.size + 1 + 1) 29 i0 (.agg #[.int .i64 0, .int .i64 0, .int .i64 0, .int .i64 0]) 4 32 Tryd.underlying24 hi hz0 hz1 hz2 rfl (by decide) _ _ _ rfl (R2.out.own.alloc _) ⟨_, 0, none⟩ 1 1 [.int .i64 2, .int .i64 0, .int .i64 0, .int .i64 0] rfl rfl ?c1 ?c2 ?c3 ?c4 ?c5 ?_))
        case c1 =>
          intro jj u hj
          match jj, hj with
          | 0, hj => simp at hj; subst hj; exact newcell 0 _ (by simp [Go.Deep.nblk_setCell]) rfl
          | 1, hj => simp at hj; subst hj; exact newcell 1 _ (by simp [Go.Deep.nblk_setCell]) rfl
          | 2, hj => simp at hj; subst hj; exact newcell 2 _ (by simp [Go.Deep.nblk_setCell]) rfl
          | 3, hj => simp at hj; subst hj; exact newcell 3 _ (by simp [Go.Deep.nblk_setCell]) rfl
        case c2 => intro u hu; simp at hu; rcases hu with rfl | rfl | rfl | rfl <;> rfl
        case c3 => unfold maxLen; omega
        case c4 => omega
        case c5 => have := (Array.getElem?_eq_some_iff.1 R2.out.num).1; simp [Go.Deep.nblk_setCell] at this ⊢; omega
        intro v' w3 hown' hgrow _
        have AP := Lib.hid (R2.out.appended hgrow)
        have HO3 : Hid (w3.ownsRow (w.heap.size + 1 + 1) 29 4 v' (k + 1) (ActC (rL S ck' cr' seed (k + 1)))) := Lib.hid (by rw [rL_succ HST.out HK.out]; exact hown')
        clear hown' hgrow
        go_wp2
        go_roundw
        case rel => exact ⟨k + 1, _, _, by omega, by go_num, rfl, rS_succ HST.out HK.out, (nS_bd st).1, (nS_bd st).2, AP.out.1, HO3.out, AP.out.2⟩
        case measure => simp [intOf]; omega

      by_cases q2 : nR st 1000 < ck' + cr'
      · have z1 : decide (nR st 1000 < ck') = false := decide_eq_false q1
        have sb := nS_bd st
        have kb6 := nR_bd (nS st) 6 (by omega)
        have c0 := Joins.cell_of_block R1.out.act 0
        have c1 := Joins.cell_of_block R1.out.act 1
        have c2 := Joins.cell_of_block R1.out.act 2
        have c3 := Joins.cell_of_block R1.out.act 3
        have cf := Joins.unfrozen_of_block R1.out.act
        simp only [List.getElem?_toArray, List.getElem?_cons_zero, List.getElem?_cons_succ] at c0 c1 c2 c3
        have HKa : Hid (nR (nS st) 6 = 0 → rK S ck' cr' st op = (⟨3, 0, 0, 0⟩, nS (nS st), true)) := Lib.hid (fun q3 => by unfold rK; rw [if_neg q1, if_pos q2, if_pos q3])
        have HKb : Hid (¬ nR (nS st) 6 = 0 → rK S ck' cr' st op = (⟨3, 0, nR (nS st) 6, nR (nS (nS st)) 65⟩, nS (nS (nS st)), true)) := Lib.hid (fun q3 => by unfold rK; rw [if_neg q1, if_pos q2, if_neg q3])
        have sb2 := nS_bd (nS st)
        have sb3 := nS_bd (nS (nS st))
        go_wp2_with fail
        refine (next26 (nS st) 6 (w.heap.size + 1) _ sb.1 sb.2 (by omega) (by omega) (Joins.cell_of_block R1.out.num 0) (Joins.unfrozen_of_block R1.out.num 0)).mono ?_
        rintro e w2 ⟨rfl, hw2⟩
        have R2 := Lib.hid (show RA w w2 _ _ _ _ _ _ _ from by rw [hw2]; exact R1.out.next (nS (nS st)))
        clear hw2 c0 c1 c2 c3 cf R1
        have R3 := Lib.hid (R2.out.set 0 3 ⟨3, 0, 0, 0⟩ rfl)
        have R4 := Lib.hid (R3.out.set 2 (nR (nS st) 6) ⟨3, 0, nR (nS st) 6, 0⟩ rfl)
        have c0 := Joins.cell_of_block R2.out.act 0
        have c1 := Joins.cell_of_block R2.out.act 1
        have c2 := Joins.cell_of_block R2.out.act 2
        have c3 := Joins.cell_of_block R2.out.act 3
        have cf := Joins.unfrozen_of_block R2.out.act
        simp only [List.getElem?_toArray, List.getElem?_cons_zero, List.getElem?_cons_succ] at c0 c1 c2 c3
        have d0 := Joins.cell_of_block R3.out.act 0
        have d1 := Joins.cell_of_block R3.out.act 1
        have d2 := Joins.cell_of_block R3.out.act 2
        have d3 := Joins.cell_of_block R3.out.act 3
        have df := Joins.unfrozen_of_block R3.out.act
        simp only [List.getElem?_toArray, List.getElem?_cons_zero, List.getElem?_cons_succ] at d0 d1 d2 d3
        have e0 := Joins.cell_of_block R4.out.act 0
        have e1 := Joins.cell_of_block R4.out.act 1
        have e2 := Joins.cell_of_block R4.out.act 2
        have e3 := Joins.cell_of_block R4.out.act 3
        have ef := Joins.unfrozen_of_block R4.out.act
        simp only [List.getElem?_toArray, List.getElem?_cons_zero, List.getElem?_cons_succ] at e0 e1 e2 e3
        by_cases q3 : nR (nS st) 6 = 0
        · have z3 : (nR (nS st) 6 == 0) = true := by simpa using q3
          have HK : Hid (rK S ck' cr' st op = (⟨3, 0, 0, 0⟩, nS (nS st), true)) := Lib.hid (HKa.out q3)
          rw [q3] at R4 e0 e1 e2 e3 ef
          go_wp2_with (at_builtin; go_loud (refine wpList_append_own _ rfl _ _ 24 rfl (w.heap.size + 1 + 1) 29 i0 (.agg #[.int .i64 0, .int .i64 0, .int .i64 0, .int .i64 0]) 4 32 Tryd.underlying24 hi hz0 hz1 hz2 rfl (by decide) _ _ _ rfl (R4.out.own.alloc _) ⟨_, 0, none⟩ 1 1 [.int .i64 3, .int .i64 0, .int .i64 0, .int .i64 0] rfl rfl ?c1 ?c2 ?c3 ?c4 ?c5 ?_))
          case c1 =>
            intro jj u hj
            match jj, hj with
            | 0, hj => simp at hj; subst hj; exact newcell 0 _ (by simp [Go.Deep.nblk_setCell]) rfl
            | 1, hj => simp at hj; subst hj; exact newcell 1 _ (by simp [Go.Deep.nblk_setCell]) rfl
            | 2, hj => simp at hj; subst hj; exact newcell 2 _ (by simp [Go.Deep.nblk_setCell]) rfl
            | 3, hj => simp at hj; subst hj; exact newcell 3 _ (by simp [Go.Deep.nblk_setCell]) rfl
          case c2 => intro u hu; simp at hu; rcases hu with rfl | rfl | rfl | rfl <;> rfl
          case c3 => unfold maxLen; omega
          case c4 => omega
          case c5 => have := (Array.getElem?_eq_some_iff.1 R4.out.num).1; simp [Go.Deep.nblk_setCell] at this ⊢; omega
          intro v' w3 hown' hgrow _
          have AP := Lib.hid (R4.out.appended hgrow)
          have HO3 : Hid (w3.ownsRow (w.heap.size + 1 + 1) 29 4 v' (k + 1) (ActC (rL S ck' cr' seed (k + 1)))) := Lib.hid (by rw [rL_succ HST.out HK.out]; exact hown')
          clear hown' hgrow
          go_wp2
          go_roundw
          case rel => exact ⟨k + 1, _, _, by omega, by go_num, rfl, rS_succ HST.out HK.out, sb2.1, sb2.2, AP.out.1, HO3.out, AP.out.2⟩
          case measure => simp [intOf]; omega

        · have z3 : (nR (nS st) 6 == 0) = false := by simpa using q3
          have HK : Hid (rK S ck' cr' st op = (⟨3, 0, nR (nS st) 6, nR (nS (nS st)) 65⟩, nS (nS (nS st)), true)) := Lib.hid (HKb.out q3)
          go_wp2_with fail
          refine (next26 (nS (nS st)) 65 (w.heap.size + 1) _ sb2.1 sb2.2 (by omega) (by omega) (Joins.cell_of_block R4.out.num 0) (Joins.unfrozen_of_block R4.out.num 0)).mono ?_
          rintro e w3 ⟨rfl, hw3⟩
          have R5 := Lib.hid (show RA w w3 _ _ _ _ _ _ _ from by rw [hw3]; exact R4.out.next (nS (nS (nS st))))
          clear hw3 c0 c1 c2 c3 cf d0 d1 d2 d3 df e0 e1 e2 e3 ef R2 R3 R4
          have R6 := Lib.hid (R5.out.set 3 (nR (nS (nS st)) 65) ⟨3, 0, nR (nS st) 6, nR (nS (nS st)) 65⟩ rfl)
          have c0 := Joins.cell_of_block R5.out.act 0
          have c1 := Joins.cell_of_block R5.out.act 1
          have c2 := Joins.cell_of_block R5.out.act 2
          have c3 := Joins.cell_of_block R5.out.act 3
          have cf := Joins.unfrozen_of_block R5.out.act
          simp only [List.getElem?_toArray, List.getElem?_cons_zero, List.getElem?_cons_succ] at c0 c1 c2 c3
          have d0 := Joins.cell_of_block R6.out.act 0
          have d1 := Joins.cell_of_block R6.out.act 1
          have d2 := Joins.cell_of_block R6.out.act 2
          have d3 := Joins.cell_of_block R6.out.act 3
          have df := Joins.unfrozen_of_block R6.out.act
          simp only [List.getElem?_toArray, List.getElem?_cons_zero, List.getElem?_cons_succ] at d0 d1 d2 d3
          go_wp2_with (at_builtin; go_loud (refine wpList_append_own _ rfl _ _ 24 rfl (w.heap.size + 1 + 1) 29 i0 (.agg #[.int .i64 0, .int .i64 0, .int .i64 0, .int .i64 0]) 4 32 Tryd.underlying24 hi hz0 hz1 hz2 rfl (by decide) _ _ _ rfl (R6.out.own.alloc _) ⟨_, 0, none⟩ 1 1 [.int .i64 3, .int .i64 0, .int .i64 (nR (nS st) 6), .int .i64 (nR (nS (nS st)) 65)] rfl rfl ?c1 ?c2 ?c3 ?c4 ?c5 ?_))
          case c1 =>
            intro jj u hj
            match jj, hj with
            | 0, hj => simp at hj; subst hj; exact newcell 0 _ (by simp [Go.Deep.nblk_setCell]) rfl
            | 1, hj => simp at hj; subst hj; exact newcell 1 _ (by simp [Go.Deep.nblk_setCell]) rfl
            | 2, hj => simp at hj; subst hj; exact newcell 2 _ (by simp [Go.Deep.nblk_setCell]) rfl
            | 3, hj => simp at hj; subst hj; exact newcell 3 _ (by simp [Go.Deep.nblk_setCell]) rfl
          case c2 => intro u hu; simp at hu; rcases hu with rfl | rfl | rfl | rfl <;> rfl
          case c3 => unfold maxLen; omega
          case c4 => omega
          case c5 => have := (Array.getElem?_eq_some_iff.1 R6.out.num).1; simp [Go.Deep.nblk_setCell] at this ⊢; omega
          intro v' w3 hown' hgrow _
          have AP := Lib.hid (R6.out.appended hgrow)
          have HO3 : Hid (w3.ownsRow (w.heap.size + 1 + 1) 29 4 v' (k + 1) (ActC (rL S ck' cr' seed (k + 1)))) := Lib.hid (by rw [rL_succ HST.out HK.out]; exact hown')
          clear hown' hgrow
          go_wp2
          go_roundw
          case rel => exact ⟨k + 1, _, _, by omega, by go_num, rfl, rS_succ HST.out HK.out, sb3.1, sb3.2, AP.out.1, HO3.out, AP.out.2⟩
          case measure => simp [intOf]; omega


      · have z1 : decide (nR st 1000 < ck') = false := decide_eq_false q1
        have z2 : decide (nR st 1000 < ck' + cr') = false := decide_eq_false q2
        have sb := nS_bd st
        have kS := nR_bd (nS st) S h0
        by_cases q4 : 800 ≤ nR st 1000
        · rcases op with _ | _
          · skip
            have z4 : decide (800 ≤ nR st 1000) = true := decide_eq_true q4
            have HK : Hid (rK S ck' cr' st false = (⟨1, nR (nS st) S, 0, 0⟩, nS (nS st), false)) := Lib.hid (by unfold rK; rw [if_neg q1, if_neg q2, if_neg (by simp)])
            have c0 := Joins.cell_of_block R1.out.act 0
            have c1 := Joins.cell_of_block R1.out.act 1
            have c2 := Joins.cell_of_block R1.out.act 2
            have c3 := Joins.cell_of_block R1.out.act 3
            have cf := Joins.unfrozen_of_block R1.out.act
            simp only [List.getElem?_toArray, List.getElem?_cons_zero, List.getElem?_cons_succ] at c0 c1 c2 c3
            go_wp2_with fail
            refine (next26 (nS st) S (w.heap.size + 1) _ sb.1 sb.2 h0 (by omega) (Joins.cell_of_block R1.out.num 0) (Joins.unfrozen_of_block R1.out.num 0)).mono ?_
            rintro e w2 ⟨rfl, hw2⟩
            have R2 := Lib.hid (show RA w w2 _ _ _ _ _ _ _ from by rw [hw2]; exact R1.out.next (nS (nS st)))
            clear hw2 c0 c1 c2 c3 cf R1
            have R3 := Lib.hid (R2.out.set 0 1 ⟨1, 0, 0, 0⟩ rfl)
            have R4 := Lib.hid (R3.out.set 1 (nR (nS st) S) ⟨1, nR (nS st) S, 0, 0⟩ rfl)
            have c0 := Joins.cell_of_block R2.out.act 0
            have c1 := Joins.cell_of_block R2.out.act 1
            have c2 := Joins.cell_of_block R2.out.act 2
            have c3 := Joins.cell_of_block R2.out.act 3
            have cf := Joins.unfrozen_of_block R2.out.act
            simp only [List.getElem?_toArray, List.getElem?_cons_zero, List.getElem?_cons_succ] at c0 c1 c2 c3
            have d0 := Joins.cell_of_block R3.out.act 0
            have d1 := Joins.cell_of_block R3.out.act 1
            have d2 := Joins.cell_of_block R3.out.act 2
            have d3 := Joins.cell_of_block R3.out.act 3
            have df := Joins.unfrozen_of_block R3.out.act
            simp only [List.getElem?_toArray, List.getElem?_cons_zero, List.getElem?_cons_succ] at d0 d1 d2 d3
            have e0 := Joins.cell_of_block R4.out.act 0
            have e1 := Joins.cell_of_block R4.out.act 1
            have e2 := Joins.cell_of_block R4.out.act 2
            have e3 := Joins.cell_of_block R4.out.act 3
            have ef := Joins.unfrozen_of_block R4.out.act
            simp only [List.getElem?_toArray, List.getElem?_cons_zero, List.getElem?_cons_succ] at e0 e1 e2 e3
            have sb2 := nS_bd (nS st)
            go_wp2_with (at_builtin; go_loud (refine wpList_append_own _ rfl _ _ 24 rfl (w.heap.size + 1 + 1) 29 i0 (.agg #[.int .i64 0, .int .i64 0, .int .i64 0, .int .i64 0]) 4 32 Tryd.underlying24 hi hz0 hz1 hz2 rfl (by decide) _ _ _ rfl (R4.out.own.alloc _) ⟨_, 0, none⟩ 1 1 [.int .i64 1, .int .i64 (nR (nS st) S), .int .i64 0, .int .i64 0] rfl rfl ?c1 ?c2 ?c3 ?c4 ?c5 ?_))
            case c1 =>
              intro jj u hj
              match jj, hj with
              | 0, hj => simp at hj; subst hj; exact newcell 0 _ (by simp [Go.Deep.nblk_setCell]) rfl
              | 1, hj => simp at hj; subst hj; exact newcell 1 _ (by simp [Go.Deep.nblk_setCell]) rfl
              | 2, hj => simp at hj; subst hj; exact newcell 2 _ (by simp [Go.Deep.nblk_setCell]) rfl
              | 3, hj => simp at hj; subst hj; exact newcell 3 _ (by simp [Go.Deep.nblk_setCell]) rfl
            case c2 => intro u hu; simp at hu; rcases hu with rfl | rfl | rfl | rfl <;> rfl
            case c3 => unfold maxLen; omega
            case c4 => omega
            case c5 => have := (Array.getElem?_eq_some_iff.1 R4.out.num).1; simp [Go.Deep.nblk_setCell] at this ⊢; omega
            intro v' w3 hown' hgrow _
            have AP := Lib.hid (R4.out.appended hgrow)
            have HO3 : Hid (w3.ownsRow (w.heap.size + 1 + 1) 29 4 v' (k + 1) (ActC (rL S ck' cr' seed (k + 1)))) := Lib.hid (by rw [rL_succ HST.out HK.out]; exact hown')
            clear hown' hgrow
            go_wp2
            go_roundw
            case rel => exact ⟨k + 1, _, _, by omega, by go_num, rfl, rS_succ HST.out HK.out, sb2.1, sb2.2, AP.out.1, HO3.out, AP.out.2⟩
            case measure => simp [intOf]; omega


          · have z4 : decide (800 ≤ nR st 1000) = true := decide_eq_true q4
            have HK : Hid (rK S ck' cr' st true = (⟨4, 0, 0, 0⟩, nS st, false)) := Lib.hid (by unfold rK; rw [if_neg q1, if_neg q2, if_pos ⟨q4, rfl⟩])
            have R2 := Lib.hid (R1.out.set 0 4 ⟨4, 0, 0, 0⟩ rfl)
            have c0 := Joins.cell_of_block R1.out.act 0
            have c1 := Joins.cell_of_block R1.out.act 1
            have c2 := Joins.cell_of_block R1.out.act 2
            have c3 := Joins.cell_of_block R1.out.act 3
            have cf := Joins.unfrozen_of_block R1.out.act
            simp only [List.getElem?_toArray, List.getElem?_cons_zero, List.getElem?_cons_succ] at c0 c1 c2 c3
            have d0 := Joins.cell_of_block R2.out.act 0
            have d1 := Joins.cell_of_block R2.out.act 1
            have d2 := Joins.cell_of_block R2.out.act 2
            have d3 := Joins.cell_of_block R2.out.act 3
            have df := Joins.unfrozen_of_block R2.out.act
            simp only [List.getElem?_toArray, List.getElem?_cons_zero, List.getElem?_cons_succ] at d0 d1 d2 d3
            go_wp2_with (at_builtin; go_loud (refine wpList_append_own _ rfl _ _ 24 rfl (w.heap.size + 1 + 1) 29 i0 (.agg #[.int .i64 0, .int .i64 0, .int .i64 0, .int .i64 0]) 4 32 Tryd.underlying24 hi hz0 hz1 hz2 rfl (by decide) _ _ _ rfl (R2.out.own.alloc _) ⟨_, 0, none⟩ 1 1 [.int .i64 4, .int .i64 0, .int .i64 0, .int .i64 0] rfl rfl ?c1 ?c2 ?c3 ?c4 ?c5 ?_))
            case c1 =>
              intro jj u hj
              match jj, hj with
              | 0, hj => simp at hj; subst hj; exact newcell 0 _ (by simp [Go.Deep.nblk_setCell]) rfl
              | 1, hj => simp at hj; subst hj; exact newcell 1 _ (by simp [Go.Deep.nblk_setCell]) rfl
              | 2, hj => simp at hj; subst hj; exact newcell 2 _ (by simp [Go.Deep.nblk_setCell]) rfl
              | 3, hj => simp at hj; subst hj; exact newcell 3 _ (by simp [Go.Deep.nblk_setCell]) rfl
            case c2 => intro u hu; simp at hu; rcases hu with rfl | rfl | rfl | rfl <;> rfl
            case c3 => unfold maxLen; omega
            case c4 => omega
            case c5 => have := (Array.getElem?_eq_some_iff.1 R2.out.num).1; simp [Go.Deep.nblk_setCell] at this ⊢; omega
            intro v' w3 hown' hgrow _
            have AP := Lib.hid (R2.out.appended hgrow)
            have HO3 : Hid (w3.ownsRow (w.heap.size + 1 + 1) 29 4 v' (k + 1) (ActC (rL S ck' cr' seed (k + 1)))) := Lib.hid (by rw [rL_succ HST.out HK.out]; exact hown')
            clear hown' hgrow
            go_wp2
            go_roundw
            case rel => exact ⟨k + 1, _, _, by omega, by go_num, rfl, rS_succ HST.out HK.out, sb.1, sb.2, AP.out.1, HO3.out, AP.out.2⟩
            case measure => simp [intOf]; omega


        · rcases op with _ | _
          · skip
            have z4 : decide (800 ≤ nR st 1000) = false := decide_eq_false q4
            have HK : Hid (rK S ck' cr' st false = (⟨1, nR (nS st) S, 0, 0⟩, nS (nS st), false)) := Lib.hid (by unfold rK; rw [if_neg q1, if_neg q2, if_neg (by simp)])
            have c0 := Joins.cell_of_block R1.out.act 0
            have c1 := Joins.cell_of_block R1.out.act 1
            have c2 := Joins.cell_of_block R1.out.act 2
            have c3 := Joins.cell_of_block R1.out.act 3
            have cf := Joins.unfrozen_of_block R1.out.act
            simp only [List.getElem?_toArray, List.getElem?_cons_zero, List.getElem?_cons_succ] at c0 c1 c2 c3
            go_wp2_with fail
            refine (next26 (nS st) S (w.heap.size + 1) _ sb.1 sb.2 h0 (by omega) (Joins.cell_of_block R1.out.num 0) (Joins.unfrozen_of_block R1.out.num 0)).mono ?_
            rintro e w2 ⟨rfl, hw2⟩
            have R2 := Lib.hid (show RA w w2 _ _ _ _ _ _ _ from by rw [hw2]; exact R1.out.next (nS (nS st)))
            clear hw2 c0 c1 c2 c3 cf R1
            have R3 := Lib.hid (R2.out.set 0 1 ⟨1, 0, 0, 0⟩ rfl)
            have R4 := Lib.hid (R3.out.set 1 (nR (nS st) S) ⟨1, nR (nS st) S, 0, 0⟩ rfl)
            have c0 := Joins.cell_of_block R2.out.act 0
            have c1 := Joins.cell_of_block R2.out.act 1
            have c2 := Joins.cell_of_block R2.out.act 2
            have c3 := Joins.cell_of_block R2.out.act 3
            have cf := Joins.unfrozen_of_block R2.out.act
            simp only [List.getElem?_toArray, List.getElem?_cons_zero, List.getElem?_cons_succ] at c0 c1 c2 c3
            have d0 := Joins.cell_of_block R3.out.act 0
            have d1 := Joins.cell_of_block R3.out.act 1
            have d2 := Joins.cell_of_block R3.out.act 2
            have d3 := Joins.cell_of_block R3.out.act 3
            have df := Joins.unfrozen_of_block R3.out.act
            simp only [List.getElem?_toArray, List.getElem?_cons_zero, List.getElem?_cons_succ] at d0 d1 d2 d3
            have e0 := Joins.cell_of_block R4.out.act 0
            have e1 := Joins.cell_of_block R4.out.act 1
            have e2 := Joins.cell_of_block R4.out.act 2
            have e3 := Joins.cell_of_block R4.out.act 3
            have ef := Joins.unfrozen_of_block R4.out.act
            simp only [List.getElem?_toArray, List.getElem?_cons_zero, List.getElem?_cons_succ] at e0 e1 e2 e3
            have sb2 := nS_bd (nS st)
            go_wp2_with (at_builtin; go_loud (refine wpList_append_own _ rfl _ _ 24 rfl (w.heap.size + 1 + 1) 29 i0 (.agg #[.int .i64 0, .int .i64 0, .int .i64 0, .int .i64 0]) 4 32 Tryd.underlying24 hi hz0 hz1 hz2 rfl (by decide) _ _ _ rfl (R4.out.own.alloc _) ⟨_, 0, none⟩ 1 1 [.int .i64 1, .int .i64 (nR (nS st) S), .int .i64 0, .int .i64 0] rfl rfl ?c1 ?c2 ?c3 ?c4 ?c5 ?_))
            case c1 =>
              intro jj u hj
              match jj, hj with
              | 0, hj => simp at hj; subst hj; exact newcell 0 _ (by simp [Go.Deep.nblk_setCell]) rfl
              | 1, hj => simp at hj; subst hj; exact newcell 1 _ (by simp [Go.Deep.nblk_setCell]) rfl
              | 2, hj => simp at hj; subst hj; exact newcell 2 _ (by simp [Go.Deep.nblk_setCell]) rfl
              | 3, hj => simp at hj; subst hj; exact newcell 3 _ (by simp [Go.Deep.nblk_setCell]) rfl
            case c2 => intro u hu; simp at hu; rcases hu with rfl | rfl | rfl | rfl <;> rfl
            case c3 => unfold maxLen; omega
            case c4 => omega
            case c5 => have := (Array.getElem?_eq_some_iff.1 R4.out.num).1; simp [Go.Deep.nblk_setCell] at this ⊢; omega
            intro v' w3 hown' hgrow _
            have AP := Lib.hid (R4.out.appended hgrow)
            have HO3 : Hid (w3.ownsRow (w.heap.size + 1 + 1) 29 4 v' (k + 1) (ActC (rL S ck' cr' seed (k + 1)))) := Lib.hid (by rw [rL_succ HST.out HK.out]; exact hown')
            clear hown' hgrow
            go_wp2
            go_roundw
            case rel => exact ⟨k + 1, _, _, by omega, by go_num, rfl, rS_succ HST.out HK.out, sb2.1, sb2.2, AP.out.1, HO3.out, AP.out.2⟩
            case measure => simp [intOf]; omega


          · skip
            have z4 : decide (800 ≤ nR st 1000) = false := decide_eq_false q4
            have HK : Hid (rK S ck' cr' st true = (⟨1, nR (nS st) S, 0, 0⟩, nS (nS st), true)) := Lib.hid (by unfold rK; rw [if_neg q1, if_neg q2, if_neg (fun h => q4 h.1)])
            have c0 := Joins.cell_of_block R1.out.act 0
            have c1 := Joins.cell_of_block R1.out.act 1
            have c2 := Joins.cell_of_block R1.out.act 2
            have c3 := Joins.cell_of_block R1.out.act 3
            have cf := Joins.unfrozen_of_block R1.out.act
            simp only [List.getElem?_toArray, List.getElem?_cons_zero, List.getElem?_cons_succ] at c0 c1 c2 c3
            go_wp2_with fail
            refine (next26 (nS st) S (w.heap.size + 1) _ sb.1 sb.2 h0 (by omega) (Joins.cell_of_block R1.out.num 0) (Joins.unfrozen_of_block R1.out.num 0)).mono ?_
            rintro e w2 ⟨rfl, hw2⟩
            have R2 := Lib.hid (show RA w w2 _ _ _ _ _ _ _ from by rw [hw2]; exact R1.out.next (nS (nS st)))
            clear hw2 c0 c1 c2 c3 cf R1
            have R3 := Lib.hid (R2.out.set 0 1 ⟨1, 0, 0, 0⟩ rfl)
            have R4 := Lib.hid (R3.out.set 1 (nR (nS st) S) ⟨1, nR (nS st) S, 0, 0⟩ rfl)
            have c0 := Joins.cell_of_block R2.out.act 0
            have c1 := Joins.cell_of_block R2.out.act 1
            have c2 := Joins.cell_of_block R2.out.act 2
            have c3 := Joins.cell_of_block R2.out.act 3
            have cf := Joins.unfrozen_of_block R2.out.act
            simp only [List.getElem?_toArray, List.getElem?_cons_zero, List.getElem?_cons_succ] at c0 c1 c2 c3
            have d0 := Joins.cell_of_block R3.out.act 0
            have d1 := Joins.cell_of_block R3.out.act 1
            have d2 := Joins.cell_of_block R3.out.act 2
            have d3 := Joins.cell_of_block R3.out.act 3
            have df := Joins.unfrozen_of_block R3.out.act
            simp only [List.getElem?_toArray, List.getElem?_cons_zero, List.getElem?_cons_succ] at d0 d1 d2 d3
            have e0 := Joins.cell_of_block R4.out.act 0
            have e1 := Joins.cell_of_block R4.out.act 1
            have e2 := Joins.cell_of_block R4.out.act 2
            have e3 := Joins.cell_of_block R4.out.act 3
            have ef := Joins.unfrozen_of_block R4.out.act
            simp only [List.getElem?_toArray, List.getElem?_cons_zero, List.getElem?_cons_succ] at e0 e1 e2 e3
            have sb2 := nS_bd (nS st)
            go_wp2_with (at_builtin; go_loud (refine wpList_append_own _ rfl _ _ 24 rfl (w.heap.size + 1 + 1) 29 i0 (.agg #[.int .i64 0, .int .i64 0, .int .i64 0, .int .i64 0]) 4 32 Tryd.underlying24 hi hz0 hz1 hz2 rfl (by decide) _ _ _ rfl (R4.out.own.alloc _) ⟨_, 0, none⟩ 1 1 [.int .i64 1, .int .i64 (nR (nS st) S), .int .i64 0, .int .i64 0] rfl rfl ?c1 ?c2 ?c3 ?c4 ?c5 ?_))
            case c1 =>
              intro jj u hj
              match jj, hj with
              | 0, hj => simp at hj; subst hj; exact newcell 0 _ (by simp [Go.Deep.nblk_setCell]) rfl
              | 1, hj => simp at hj; subst hj; exact newcell 1 _ (by simp [Go.Deep.nblk_setCell]) rfl
              | 2, hj => simp at hj; subst hj; exact newcell 2 _ (by simp [Go.Deep.nblk_setCell]) rfl
              | 3, hj => simp at hj; subst hj; exact newcell 3 _ (by simp [Go.Deep.nblk_setCell]) rfl
            case c2 => intro u hu; simp at hu; rcases hu with rfl | rfl | rfl | rfl <;> rfl
            case c3 => unfold maxLen; omega
            case c4 => omega
            case c5 => have := (Array.getElem?_eq_some_iff.1 R4.out.num).1; simp [Go.Deep.nblk_setCell] at this ⊢; omega
            intro v' w3 hown' hgrow _
            have AP := Lib.hid (R4.out.appended hgrow)
            have HO3 : Hid (w3.ownsRow (w.heap.size + 1 + 1) 29 4 v' (k + 1) (ActC (rL S ck' cr' seed (k + 1)))) := Lib.hid (by rw [rL_succ HST.out HK.out]; exact hown')
            clear hown' hgrow
            go_wp2
            go_roundw
            case rel => exact ⟨k + 1, _, _, by omega, by go_num, rfl, rS_succ HST.out HK.out, sb2.1, sb2.2, AP.out.1, HO3.out, AP.out.2⟩
            case measure => simp [intOf]; omega


    · obtain rfl : k = L := by omega
      have HO := Lib.hid hown
      have HB := Lib.hid hB
      clear hown hB hst
      go_wp2
      go_ret
      exact ⟨_, rfl, own_mono HO.out (by omega), HB.out⟩
end Go.Proofs.YthageombfifffaaDoor
