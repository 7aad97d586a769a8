/- The reference of random schedules. -/
import Derived.Test.YthageombfifffaaDoorRrm
namespace Go.Proofs.YthageombfifffaaDoor
open Go.ChangeShapes Go.WideShapes Go.ChangeAt Go.RowKit Go.ChangeMaps

set_option maxRecDepth 100000 in
set_option maxHeartbeats 2000000 in
theorem rRandom_any (s l ck0 cr0 seed S ck cr : Int) (L : Nat) (w : World) (hS : wi s 0 8 = S) (h0 : 0 < S) (hL : wi l 0 10000 = L) (hck : wi ck0 0 1000 = ck) (hcr : wi cr0 0 1000 = cr) (hs0 : 0 ≤ seed) (hs1 : seed < 18446744073709551616) :
    Calls Tryd.prog 17 #[.int .i64 s, .int .i64 l, .int .i64 ck0, .int .i64 cr0, .int .u64 seed] w fun e w' => ∃ v, e = .returned v ∧ w'.ownsRow w.heap.size 29 4 v L (ActC (rL S ck cr seed L)) ∧ Below w.heap.size w w' := by
  obtain ⟨i0, hi, hz0, hz1, hz2⟩ := info_parts Tryd.info29
  have b1 := wi_bd s 0 8 (by omega)
  have b2 := wi_bd l 0 10000 (by omega)
  have b3 := wi_bd ck0 0 1000 (by omega)
  have b4 := wi_bd cr0 0 1000 (by omega)
  have C1 := fun w => clamp_any s 0 8 w (by omega)
  have C2 := fun w => clamp_any l 0 10000 w (by omega)
  have C3 := fun w => clamp_any ck0 0 1000 w (by omega)
  have C4 := fun w => clamp_any cr0 0 1000 w (by omega)
  rw [hS] at b1 C1
  rw [hL] at b2 C2
  rw [hck] at b3 C3
  rw [hcr] at b4 C4
  have C1 := Lib.hid C1
  have C2 := Lib.hid C2
  have C3 := Lib.hid C3
  have C4 := Lib.hid C4
  clear hS hL hck hcr
  go_enter Tryd.func17, Tryd.ntmps17
  go_wp2_with (go_at_call 24; first | ((with_reducible refine (C1.out _).mono ?_); rintro e w' ⟨rfl, rfl⟩) | ((with_reducible refine (C3.out _).mono ?_); rintro e w' ⟨rfl, rfl⟩) | ((with_reducible refine (C4.out _).mono ?_); rintro e w' ⟨rfl, rfl⟩))
  go_loopw [11, 12, 13, 15] (fun v c t i wr => ∃ (k : Nat) (st : Int) (op : Bool), k ≤ L ∧ i = .int .i64 k ∧ c = .bool op ∧ t = .int .u64 st ∧ rS S ck cr seed k = (st, op) ∧ 0 ≤ st ∧ st < 18446744073709551616 ∧ wr.ownsRow w.heap.size 29 4 v k (ActC (rL S ck cr seed k)) ∧ Below w.heap.size w wr) (fun _ _ _ i _ => L - (intOf i).toNat)
  case atStart =>
    exact ⟨0, seed, false, Nat.zero_le _, rfl, rfl, rfl, rfl, hs0, hs1, World.ownsRow_nil _ _ _ _, Below.refl _ _⟩
  case round =>
    obtain ⟨k, st, op, hk, rfl, rfl, rfl, hst, hst0, hst1, hown, hB⟩ := hrel
    by_cases hlt : k < L
    · have R0 := RB.start hown hB
      have HST := Lib.hid hst
      have HOW := Lib.hid hown
      have HBW := Lib.hid hB
      have kb := nR_bd st 1000 (by omega)
      have sb := nS_bd st
      have sb2 := nS_bd (nS st)
      have sb3 := nS_bd (nS (nS st))
      have zb := nZ_bd st
      have zb1 := nZ_bd (nS st)
      have zb2 := nZ_bd (nS (nS st))
      have N0 := Lib.hid (fun w => next27 st w hst0 hst1)
      have N1 := Lib.hid (fun w => next27 (nS st) w sb.1 sb.2)
      have N2 := Lib.hid (fun w => next27 (nS (nS st)) w sb2.1 sb2.2)
      clear hst hown hB
      have kb6 := nR_bd (nS st) 6 (by omega)
      have kb65 := nR_bd (nS (nS st)) 65 (by omega)
      have kS := nR_bd (nS st) S h0
      have E0 : nZ st % 1000 = nR st 1000 := rfl
      have E6 : nZ (nS st) % 6 = nR (nS st) 6 := rfl
      have E65 : nZ (nS (nS st)) % 65 = nR (nS (nS st)) 65 := rfl
      have ES : wrap64 (nZ (nS st) % S) = nR (nS st) S := Go.IntWalk.wrap64_in _ (by show -9223372036854775808 ≤ nR (nS st) S ∧ nR (nS st) S ≤ 9223372036854775807; omega)
      by_cases q1 : nR st 1000 < ck
      · have z1 : decide (nR st 1000 < ck) = true := decide_eq_true q1
        have HK : Hid (rK S ck cr st op = (⟨2, 0, 0, 0⟩, nS st, op)) := Lib.hid (by unfold rK; rw [if_pos q1])
        go_wp2_with (first | (go_at_call 24; (with_reducible refine (C2.out _).mono ?_); rintro e w' ⟨rfl, rfl⟩) | (go_at_call 27; (first | ((with_reducible refine (N0.out _).mono ?_); rintro e w' ⟨rfl, rfl⟩) | ((with_reducible refine (N1.out _).mono ?_); rintro e w' ⟨rfl, rfl⟩) | ((with_reducible refine (N2.out _).mono ?_); rintro e w' ⟨rfl, rfl⟩))) | (at_builtin; go_loud (refine wpList_append_own _ rfl _ _ 24 rfl w.heap.size 29 i0 (.agg #[.int .i64 0, .int .i64 0, .int .i64 0, .int .i64 0]) 4 32 Tryd.underlying24 hi hz0 hz1 hz2 rfl (by decide) _ _ _ rfl ((HOW.out.alloc _).alloc _) ⟨_, 0, none⟩ 1 1 [.int .i64 2, .int .i64 0, .int .i64 0, .int .i64 0] rfl rfl ?c1 ?c2 ?c3 ?c4 ?c5 ?_)))
        case c1 =>
          intro jj u hj
          match jj, hj with
          | 0, hj => simp at hj; subst hj; exact newcell 0 _ (by simp) rfl
          | 1, hj => simp at hj; subst hj; exact newcell 1 _ (by simp) rfl
          | 2, hj => simp at hj; subst hj; exact newcell 2 _ (by simp) rfl
          | 3, hj => simp at hj; subst hj; exact newcell 3 _ (by simp) rfl
        case c2 => intro u hu; simp at hu; rcases hu with rfl | rfl | rfl | rfl <;> rfl
        case c3 => unfold maxLen; omega
        case c4 => omega
        case c5 => have := HBW.out.size; simp; omega
        intro v' w3 hown' hgrow _
        have AP := Lib.hid (((HBW.out.alloc HBW.out.size _).alloc (by have := HBW.out.size; simp; omega) _).grown hgrow (by have := HBW.out.size; simp; omega) (fun j hj => (HOW.out.lt j hj).1))
        have HO3 : Hid (w3.ownsRow w.heap.size 29 4 v' (k + 1) (ActC (rL S ck cr seed (k + 1)))) := Lib.hid (by rw [rL_succ HST.out HK.out]; exact hown')
        clear hown' hgrow
        go_wp2
        go_roundw
        case rel => exact ⟨k + 1, _, _, by omega, by go_num, rfl, rfl, rS_succ HST.out HK.out, sb.1, sb.2, HO3.out, AP.out⟩
        case measure => simp [intOf]; omega


      by_cases q2 : nR st 1000 < ck + cr
      · have z1 : decide (nR st 1000 < ck) = false := decide_eq_false q1
        have z2 : decide (nR st 1000 < ck + cr) = true := decide_eq_true q2
        by_cases q3 : nR (nS st) 6 = 0
        · have z3 : decide (0 < nR (nS st) 6) = false := decide_eq_false (by omega)
          have HK : Hid (rK S ck cr st op = (⟨3, 0, 0, 0⟩, nS (nS st), true)) := Lib.hid (by unfold rK; rw [if_neg q1, if_pos q2, if_pos q3])
          go_wp2_with (first | (go_at_call 24; (with_reducible refine (C2.out _).mono ?_); rintro e w' ⟨rfl, rfl⟩) | (go_at_call 27; (first | ((with_reducible refine (N0.out _).mono ?_); rintro e w' ⟨rfl, rfl⟩) | ((with_reducible refine (N1.out _).mono ?_); rintro e w' ⟨rfl, rfl⟩) | ((with_reducible refine (N2.out _).mono ?_); rintro e w' ⟨rfl, rfl⟩))) | (at_builtin; go_loud (refine wpList_append_own _ rfl _ _ 24 rfl w.heap.size 29 i0 (.agg #[.int .i64 0, .int .i64 0, .int .i64 0, .int .i64 0]) 4 32 Tryd.underlying24 hi hz0 hz1 hz2 rfl (by decide) _ _ _ rfl ((HOW.out.alloc _).alloc _) ⟨_, 0, none⟩ 1 1 [.int .i64 3, .int .i64 0, .int .i64 0, .int .i64 0] rfl rfl ?c1 ?c2 ?c3 ?c4 ?c5 ?_)))
          case c1 =>
            intro jj u hj
            match jj, hj with
            | 0, hj => simp at hj; subst hj; exact newcell 0 _ (by simp) rfl
            | 1, hj => simp at hj; subst hj; exact newcell 1 _ (by simp) rfl
            | 2, hj => simp at hj; subst hj; exact newcell 2 _ (by simp) rfl
            | 3, hj => simp at hj; subst hj; exact newcell 3 _ (by simp) rfl
          case c2 => intro u hu; simp at hu; rcases hu with rfl | rfl | rfl | rfl <;> rfl
          case c3 => unfold maxLen; omega
          case c4 => omega
          case c5 => have := HBW.out.size; simp; omega
          intro v' w3 hown' hgrow _
          have AP := Lib.hid (((HBW.out.alloc HBW.out.size _).alloc (by have := HBW.out.size; simp; omega) _).grown hgrow (by have := HBW.out.size; simp; omega) (fun j hj => (HOW.out.lt j hj).1))
          have HO3 : Hid (w3.ownsRow w.heap.size 29 4 v' (k + 1) (ActC (rL S ck cr seed (k + 1)))) := Lib.hid (by rw [rL_succ HST.out HK.out]; exact hown')
          clear hown' hgrow
          go_wp2
          go_roundw
          case rel => exact ⟨k + 1, _, _, by omega, by go_num, rfl, rfl, rS_succ HST.out HK.out, sb2.1, sb2.2, HO3.out, AP.out⟩
          case measure => simp [intOf]; omega

        · have z3 : decide (0 < nR (nS st) 6) = true := decide_eq_true (by omega)
          have HK : Hid (rK S ck cr st op = (⟨3, 0, nR (nS st) 6, nR (nS (nS st)) 65⟩, nS (nS (nS st)), true)) := Lib.hid (by unfold rK; rw [if_neg q1, if_pos q2, if_neg q3])
          go_wp2_with (first | (go_at_call 24; (with_reducible refine (C2.out _).mono ?_); rintro e w' ⟨rfl, rfl⟩) | (go_at_call 27; (first | ((with_reducible refine (N0.out _).mono ?_); rintro e w' ⟨rfl, rfl⟩) | ((with_reducible refine (N1.out _).mono ?_); rintro e w' ⟨rfl, rfl⟩) | ((with_reducible refine (N2.out _).mono ?_); rintro e w' ⟨rfl, rfl⟩))) | (at_builtin; go_loud (refine wpList_append_own _ rfl _ _ 24 rfl w.heap.size 29 i0 (.agg #[.int .i64 0, .int .i64 0, .int .i64 0, .int .i64 0]) 4 32 Tryd.underlying24 hi hz0 hz1 hz2 rfl (by decide) _ _ _ rfl ((HOW.out.alloc _).alloc _) ⟨_, 0, none⟩ 1 1 [.int .i64 3, .int .i64 0, .int .i64 (nR (nS st) 6), .int .i64 (nR (nS (nS st)) 65)] rfl rfl ?c1 ?c2 ?c3 ?c4 ?c5 ?_)))
          case c1 =>
            intro jj u hj
            match jj, hj with
            | 0, hj => simp at hj; subst hj; exact newcell 0 _ (by simp) rfl
            | 1, hj => simp at hj; subst hj; exact newcell 1 _ (by simp) rfl
            | 2, hj => simp at hj; subst hj; exact newcell 2 _ (by simp) rfl
            | 3, hj => simp at hj; subst hj; exact newcell 3 _ (by simp) rfl
          case c2 => intro u hu; simp at hu; rcases hu with rfl | rfl | rfl | rfl <;> rfl
          case c3 => unfold maxLen; omega
          case c4 => omega
          case c5 => have := HBW.out.size; simp; omega
          intro v' w3 hown' hgrow _
          have AP := Lib.hid (((HBW.out.alloc HBW.out.size _).alloc (by have := HBW.out.size; simp; omega) _).grown hgrow (by have := HBW.out.size; simp; omega) (fun j hj => (HOW.out.lt j hj).1))
          have HO3 : Hid (w3.ownsRow w.heap.size 29 4 v' (k + 1) (ActC (rL S ck cr seed (k + 1)))) := Lib.hid (by rw [rL_succ HST.out HK.out]; exact hown')
          clear hown' hgrow
          go_wp2
          go_roundw
          case rel => exact ⟨k + 1, _, _, by omega, by go_num, rfl, rfl, rS_succ HST.out HK.out, sb3.1, sb3.2, HO3.out, AP.out⟩
          case measure => simp [intOf]; omega


      have z1 : decide (nR st 1000 < ck) = false := decide_eq_false q1
      have z2 : decide (nR st 1000 < ck + cr) = false := decide_eq_false q2
      by_cases q4 : 800 ≤ nR st 1000
      · have z4 : decide (800 ≤ nR st 1000) = true := decide_eq_true q4
        rcases op with _ | _
        · skip
          have HK : Hid (rK S ck cr st false = (⟨1, nR (nS st) S, 0, 0⟩, nS (nS st), false)) := Lib.hid (by unfold rK; rw [if_neg q1, if_neg q2, if_neg (by simp)])
          go_wp2_with (first | (go_at_call 24; (with_reducible refine (C2.out _).mono ?_); rintro e w' ⟨rfl, rfl⟩) | (go_at_call 27; (first | ((with_reducible refine (N0.out _).mono ?_); rintro e w' ⟨rfl, rfl⟩) | ((with_reducible refine (N1.out _).mono ?_); rintro e w' ⟨rfl, rfl⟩) | ((with_reducible refine (N2.out _).mono ?_); rintro e w' ⟨rfl, rfl⟩))) | (at_builtin; go_loud (refine wpList_append_own _ rfl _ _ 24 rfl w.heap.size 29 i0 (.agg #[.int .i64 0, .int .i64 0, .int .i64 0, .int .i64 0]) 4 32 Tryd.underlying24 hi hz0 hz1 hz2 rfl (by decide) _ _ _ rfl ((HOW.out.alloc _).alloc _) ⟨_, 0, none⟩ 1 1 [.int .i64 1, .int .i64 (nR (nS st) S), .int .i64 0, .int .i64 0] rfl rfl ?c1 ?c2 ?c3 ?c4 ?c5 ?_)))
          case c1 =>
            intro jj u hj
            match jj, hj with
            | 0, hj => simp at hj; subst hj; exact newcell 0 _ (by simp) rfl
            | 1, hj => simp at hj; subst hj; exact newcell 1 _ (by simp) rfl
            | 2, hj => simp at hj; subst hj; exact newcell 2 _ (by simp) rfl
            | 3, hj => simp at hj; subst hj; exact newcell 3 _ (by simp) rfl
          case c2 => intro u hu; simp at hu; rcases hu with rfl | rfl | rfl | rfl <;> rfl
          case c3 => unfold maxLen; omega
          case c4 => omega
          case c5 => have := HBW.out.size; simp; omega
          intro v' w3 hown' hgrow _
          have AP := Lib.hid (((HBW.out.alloc HBW.out.size _).alloc (by have := HBW.out.size; simp; omega) _).grown hgrow (by have := HBW.out.size; simp; omega) (fun j hj => (HOW.out.lt j hj).1))
          have HO3 : Hid (w3.ownsRow w.heap.size 29 4 v' (k + 1) (ActC (rL S ck cr seed (k + 1)))) := Lib.hid (by rw [rL_succ HST.out HK.out]; exact hown')
          clear hown' hgrow
          go_wp2
          go_roundw
          case rel => exact ⟨k + 1, _, _, by omega, by go_num, rfl, rfl, rS_succ HST.out HK.out, sb2.1, sb2.2, HO3.out, AP.out⟩
          case measure => simp [intOf]; omega


        · skip
          have HK : Hid (rK S ck cr st true = (⟨4, 0, 0, 0⟩, nS st, false)) := Lib.hid (by unfold rK; rw [if_neg q1, if_neg q2, if_pos ⟨q4, rfl⟩])
          go_wp2_with (first | (go_at_call 24; (with_reducible refine (C2.out _).mono ?_); rintro e w' ⟨rfl, rfl⟩) | (go_at_call 27; (first | ((with_reducible refine (N0.out _).mono ?_); rintro e w' ⟨rfl, rfl⟩) | ((with_reducible refine (N1.out _).mono ?_); rintro e w' ⟨rfl, rfl⟩) | ((with_reducible refine (N2.out _).mono ?_); rintro e w' ⟨rfl, rfl⟩))) | (at_builtin; go_loud (refine wpList_append_own _ rfl _ _ 24 rfl w.heap.size 29 i0 (.agg #[.int .i64 0, .int .i64 0, .int .i64 0, .int .i64 0]) 4 32 Tryd.underlying24 hi hz0 hz1 hz2 rfl (by decide) _ _ _ rfl ((HOW.out.alloc _).alloc _) ⟨_, 0, none⟩ 1 1 [.int .i64 4, .int .i64 0, .int .i64 0, .int .i64 0] rfl rfl ?c1 ?c2 ?c3 ?c4 ?c5 ?_)))
          case c1 =>
            intro jj u hj
            match jj, hj with
            | 0, hj => simp at hj; subst hj; exact newcell 0 _ (by simp) rfl
            | 1, hj => simp at hj; subst hj; exact newcell 1 _ (by simp) rfl
            | 2, hj => simp at hj; subst hj; exact newcell 2 _ (by simp) rfl
            | 3, hj => simp at hj; subst hj; exact newcell 3 _ (by simp) rfl
          case c2 => intro u hu; simp at hu; rcases hu with rfl | rfl | rfl | rfl <;> rfl
          case c3 => unfold maxLen; omega
          case c4 => omega
          case c5 => have := HBW.out.size; simp; omega
          intro v' w3 hown' hgrow _
          have AP := Lib.hid (((HBW.out.alloc HBW.out.size _).alloc (by have := HBW.out.size; simp; omega) _).grown hgrow (by have := HBW.out.size; simp; omega) (fun j hj => (HOW.out.lt j hj).1))
          have HO3 : Hid (w3.ownsRow w.heap.size 29 4 v' (k + 1) (ActC (rL S ck cr seed (k + 1)))) := Lib.hid (by rw [rL_succ HST.out HK.out]; exact hown')
          clear hown' hgrow
          go_wp2
          go_roundw
          case rel => exact ⟨k + 1, _, _, by omega, by go_num, rfl, rfl, rS_succ HST.out HK.out, sb.1, sb.2, HO3.out, AP.out⟩
          case measure => simp [intOf]; omega


      · have z4 : decide (800 ≤ nR st 1000) = false := decide_eq_false q4
        rcases op with _ | _
        · skip
          have HK : Hid (rK S ck cr st false = (⟨1, nR (nS st) S, 0, 0⟩, nS (nS st), false)) := Lib.hid (by unfold rK; rw [if_neg q1, if_neg q2, if_neg (by simp)])
          go_wp2_with (first | (go_at_call 24; (with_reducible refine (C2.out _).mono ?_); rintro e w' ⟨rfl, rfl⟩) | (go_at_call 27; (first | ((with_reducible refine (N0.out _).mono ?_); rintro e w' ⟨rfl, rfl⟩) | ((with_reducible refine (N1.out _).mono ?_); rintro e w' ⟨rfl, rfl⟩) | ((with_reducible refine (N2.out _).mono ?_); rintro e w' ⟨rfl, rfl⟩))) | (at_builtin; go_loud (refine wpList_append_own _ rfl _ _ 24 rfl w.heap.size 29 i0 (.agg #[.int .i64 0, .int .i64 0, .int .i64 0, .int .i64 0]) 4 32 Tryd.underlying24 hi hz0 hz1 hz2 rfl (by decide) _ _ _ rfl ((HOW.out.alloc _).alloc _) ⟨_, 0, none⟩ 1 1 [.int .i64 1, .int .i64 (nR (nS st) S), .int .i64 0, .int .i64 0] rfl rfl ?c1 ?c2 ?c3 ?c4 ?c5 ?_)))
          case c1 =>
            intro jj u hj
            match jj, hj with
            | 0, hj => simp at hj; subst hj; exact newcell 0 _ (by simp) rfl
            | 1, hj => simp at hj; subst hj; exact newcell 1 _ (by simp) rfl
            | 2, hj => simp at hj; subst hj; exact newcell 2 _ (by simp) rfl
            | 3, hj => simp at hj; subst hj; exact newcell 3 _ (by simp) rfl
          case c2 => intro u hu; simp at hu; rcases hu with rfl | rfl | rfl | rfl <;> rfl
          case c3 => unfold maxLen; omega
          case c4 => omega
          case c5 => have := HBW.out.size; simp; omega
          intro v' w3 hown' hgrow _
          have AP := Lib.hid (((HBW.out.alloc HBW.out.size _).alloc (by have := HBW.out.size; simp; omega) _).grown hgrow (by have := HBW.out.size; simp; omega) (fun j hj => (HOW.out.lt j hj).1))
          have HO3 : Hid (w3.ownsRow w.heap.size 29 4 v' (k + 1) (ActC (rL S ck cr seed (k + 1)))) := Lib.hid (by rw [rL_succ HST.out HK.out]; exact hown')
          clear hown' hgrow
          go_wp2
          go_roundw
          case rel => exact ⟨k + 1, _, _, by omega, by go_num, rfl, rfl, rS_succ HST.out HK.out, sb2.1, sb2.2, HO3.out, AP.out⟩
          case measure => simp [intOf]; omega


        · skip
          have HK : Hid (rK S ck cr st true = (⟨1, nR (nS st) S, 0, 0⟩, nS (nS st), true)) := Lib.hid (by unfold rK; rw [if_neg q1, if_neg q2, if_neg (fun h => q4 h.1)])
          go_wp2_with (first | (go_at_call 24; (with_reducible refine (C2.out _).mono ?_); rintro e w' ⟨rfl, rfl⟩) | (go_at_call 27; (first | ((with_reducible refine (N0.out _).mono ?_); rintro e w' ⟨rfl, rfl⟩) | ((with_reducible refine (N1.out _).mono ?_); rintro e w' ⟨rfl, rfl⟩) | ((with_reducible refine (N2.out _).mono ?_); rintro e w' ⟨rfl, rfl⟩))) | (at_builtin; go_loud (refine wpList_append_own _ rfl _ _ 24 rfl w.heap.size 29 i0 (.agg #[.int .i64 0, .int .i64 0, .int .i64 0, .int .i64 0]) 4 32 Tryd.underlying24 hi hz0 hz1 hz2 rfl (by decide) _ _ _ rfl ((HOW.out.alloc _).alloc _) ⟨_, 0, none⟩ 1 1 [.int .i64 1, .int .i64 (nR (nS st) S), .int .i64 0, .int .i64 0] rfl rfl ?c1 ?c2 ?c3 ?c4 ?c5 ?_)))
          case c1 =>
            intro jj u hj
            match jj, hj with
            | 0, hj => simp at hj; subst hj; exact newcell 0 _ (by simp) rfl
            | 1, hj => simp at hj; subst hj; exact newcell 1 _ (by simp) rfl
            | 2, hj => simp at hj; subst hj; exact newcell 2 _ (by simp) rfl
            | 3, hj => simp at hj; subst hj; exact newcell 3 _ (by simp) rfl
          case c2 => intro u hu; simp at hu; rcases hu with rfl | rfl | rfl | rfl <;> rfl
          case c3 => unfold maxLen; omega
          case c4 => omega
          case c5 => have := HBW.out.size; simp; omega
          intro v' w3 hown' hgrow _
          have AP := Lib.hid (((HBW.out.alloc HBW.out.size _).alloc (by have := HBW.out.size; simp; omega) _).grown hgrow (by have := HBW.out.size; simp; omega) (fun j hj => (HOW.out.lt j hj).1))
          have HO3 : Hid (w3.ownsRow w.heap.size 29 4 v' (k + 1) (ActC (rL S ck cr seed (k + 1)))) := Lib.hid (by rw [rL_succ HST.out HK.out]; exact hown')
          clear hown' hgrow
          go_wp2
          go_roundw
          case rel => exact ⟨k + 1, _, _, by omega, by go_num, rfl, rfl, rS_succ HST.out HK.out, sb2.1, sb2.2, HO3.out, AP.out⟩
          case measure => simp [intOf]; omega


    · obtain rfl : k = L := by omega
      have HO := Lib.hid hown
      have HB := Lib.hid hB
      clear hown hB hst
      go_wp2_with (go_at_call 24; (with_reducible refine (C2.out _).mono ?_); rintro e w' ⟨rfl, rfl⟩)
      go_ret
      exact ⟨_, rfl, HO.out, HB.out⟩
end Go.Proofs.YthageombfifffaaDoor
