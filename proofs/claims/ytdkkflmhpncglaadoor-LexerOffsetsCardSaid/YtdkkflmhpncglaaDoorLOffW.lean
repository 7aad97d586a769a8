/- The walk of the law LexerOffsets. -/
import Derived.Test.YtdkkflmhpncglaaDoorLsa
import Derived.Test.YtdkkflmhpncglaaDoorLTokW
import Derived.Test.YtdkkflmhpncglaaDoorLxp
import Derived.BigQuiet
import Derived.Deep.QuietTactic
import Derived.Deep.Cut
namespace Go.Proofs.YtdkkflmhpncglaaDoor
open Go.ChangeShapes Go.WideShapes Go.ChangeAt Go.RowKit Go.ChangeMaps

set_option maxRecDepth 100000 in
set_option maxHeartbeats 2000000 in
theorem lexerOffsets_walk (s : ByteArray) (w : World) (hs : s.size ≤ 140737488351232) (hE : LEnv w) : Calls Tryd.prog 6 #[.string s] w fun e w' => e = .returned (.bool true) ∧ Below w.heap.size w w' := by
  have HE := Lib.hid hE
  clear hE
  have AW := Lib.hid (fun W hW => awake_any W hW)
  have B1 := Lib.hid (Below.refl w.heap.size w)
  by_cases h200 : 2000 < s.size
  · have t1 : decide ((2000 : Int) < s.size) = true := decide_eq_true (by omega)
    go_enter Tryd.func6, Tryd.ntmps6
    go_wp2_with fail
    refine (AW.out _ (HE.out.below B1.out)).mono ?_
    rintro e w1 ⟨rfl, hb⟩
    have B1 := Lib.hid (B1.out.trans (hb.mono B1.out.size))
    clear hb
    go_wp2_with fail
    refine (AW.out _ (HE.out.below B1.out)).mono ?_
    rintro e w2 ⟨rfl, hb⟩
    have B1 := Lib.hid (B1.out.trans (hb.mono B1.out.size))
    clear hb
    go_wp2
    go_ret
    exact ⟨rfl, B1.out⟩
  · have t1 : decide ((2000 : Int) < s.size) = false := decide_eq_false (by omega)
    have HSS := Lib.hid (show s.size ≤ 2000 by omega)
    have CT := Lib.hid (fun W hW => Tokens_any s W (by omega) hW)
    have HBD := Lib.hid (tokL_bd (lst s) (by rw [lst_len]; omega))
    have HOF := Lib.hid (tok_off (lst s) (by rw [lst_len]; omega))
    have HER := Lib.hid (tok_err (lst s))
    generalize tokL (lst s) = R at *
    obtain ⟨T, k, x⟩ := R
    simp only at CT HBD HOF HER
    clear h200
    go_enter Tryd.func6, Tryd.ntmps6
    go_wp2_with fail
    refine (AW.out _ (HE.out.below B1.out)).mono ?_
    rintro e w1 ⟨rfl, hb⟩
    have B1 := Lib.hid (B1.out.trans (hb.mono B1.out.size))
    clear hb
    go_wp2_with fail
    refine (CT.out _ (HE.out.below B1.out)).mono ?_
    rintro e w2 ⟨vw2, rfl, hO, hb⟩
    obtain ⟨Aw2, cw2, rfl, hT, -⟩ := OT.tks hO
    have HT2 := Lib.hid hT
    have B1 := Lib.hid (B1.out.trans (hb.mono B1.out.size))
    clear hb hO hT CT
    by_cases hx : x = 0
    · subst hx
      obtain ⟨hne, hoff⟩ := HOF.out rfl
      have HOFF := Lib.hid hoff
      have HTN := Lib.hid (List.length_pos_iff.2 hne)
      have HTB := Lib.hid HBD.out.2
      clear HOF HER HBD hne hoff
      obtain ⟨n, hn⟩ : ∃ n, T.length = n := ⟨_, rfl⟩
      have HL := Lib.hid hn
      rw [hn] at HTN HTB HT2
      rw [hn]
      clear hn
      have HA := Lib.hid HT2.out.at
      clear HT2
      go_wp2
      go_loopw [30, 6] (fun s30 s6 wr => ∃ (k : Nat) (m : Int), s30 = .int .i64 (k : Int) ∧ s6 = .int .i64 m ∧ k ≤ n ∧ Off (lst s) m (T.drop k) ∧ Below w2.heap.size w2 wr) (fun s30 _ _ => n - (intOf s30).toNat)
      case atStart => exact ⟨0, -1, rfl, rfl, Nat.zero_le _, HOFF.out, Below.refl _ _⟩
      case round =>
        obtain ⟨k, m, rfl, rfl, hkn, hO, hB⟩ := hrel
        have HO := Lib.hid hO
        have HB := Lib.hid hB
        clear hO hB
        have hn1 := HTB.out
        by_cases hlt : k < n
        · have hki : (k : Int) < n := by omega
          have hk0 : (0 : Int) ≤ (k : Int) := by omega
          obtain ⟨b, off, rfl, hbl, hc⟩ := HA.out (by omega)
          have hi' : k < T.length := by rw [HL.out]; exact hlt
          obtain ⟨c0, c1, c2⟩ := hc wr HB.out k hi'
          have hO := HO.out
          rw [List.drop_eq_getElem_cons hi'] at hO
          have hbw : b < wr.heap.size := Nat.lt_of_lt_of_le hbl HB.out.size
          obtain ⟨o1, o2, o3, o4, o5, o6⟩ := hO
          have hem : T.drop (k + 1) = [] ↔ k + 1 = n := by
            rw [List.drop_eq_nil_iff, HL.out]
            omega
          rw [hem] at o3
          have HON := Lib.hid o6
          clear o6 hem HO hc hbl
          generalize T[k] = x at *
          obtain ⟨x0, x1, x2⟩ := x
          simp only at c0 c1 c2 o1 o2 o3 o4 o5 HON
          have HTX := Lib.hid o5
          clear o5
          rw [lst_len] at o2 HTX
          obtain ⟨q, hq⟩ : ∃ q : ByteArray, (⟨x1.toArray⟩ : ByteArray) = q := ⟨_, rfl⟩
          have HQ1 := Lib.hid hq
          have HQL := Lib.hid (show lst q = x1 by rw [← hq])
          rw [hq] at c1
          clear hq
          have g1 : ¬ ((x2 : Int) ≤ m) := by omega
          have g2 : ¬ ((s.size : Int) < (x2 : Int)) := by omega
          have hwn : IntKind.i64.wrap ((n : Int) - 1) = (n : Int) - 1 := by rw [IntKind.wrap_i64]; omega
          have hwk : IntKind.i64.wrap ((k : Int) + 1) = (k : Int) + 1 := by rw [IntKind.wrap_i64]; omega
          obtain ⟨W3, hW3⟩ : ∃ W, W = wr.alloc (.cells #[.int .i64 x0, .string q, .int .i64 (x2 : Int)] 37) := ⟨_, rfl⟩
          have K3 := Lib.hid (show Blk W3 wr.heap.size 37 #[.int .i64 x0, .string q, .int .i64 (x2 : Int)] by rw [hW3]; exact Blk.new _ _ _)
          have HB4 := Lib.hid (show Below w2.heap.size w2 W3 by rw [hW3]; exact HB.out.alloc HB.out.size _)
          go_upto_region 10 with fail
          rw [← hW3]
          clear hW3 c0 c1 c2
          have d0 : W3.cell? ⟨wr.heap.size, 0, none⟩ = some (.int .i64 x0) := K3.out.cell 0
          have d1 : W3.cell? ⟨wr.heap.size, 1, none⟩ = some (.string q) := K3.out.cell 1
          have d2 : W3.cell? ⟨wr.heap.size, 2, none⟩ = some (.int .i64 (x2 : Int)) := K3.out.cell 2
          by_cases hx0 : x0 = 0
          · subst hx0
            have e1 : (k : Int) = (n : Int) - 1 := by have := o3.1 rfl; omega
            have e2 : x2 = s.size := by have := o4 rfl; rw [lst_len] at this; exact this
            have e3 : ((k : Int) == (n : Int) - 1) = true := beq_iff_eq.2 e1
            have e4 : ((x2 : Int) != (s.size : Int)) = false := by rw [e2]; simp
            have e5 : ((x2 : Int) == (s.size : Int)) = true := by rw [e2]; simp
            clear o3 o4 HTX
            go_wp2_with fail
            go_quiet (fail)
            go_wp2
            go_roundw
            case rel => exact ⟨k + 1, x2, by go_num, by first | rfl | (congr 1; omega) | (rw [e2]), hlt, HON.out, by first | exact HB4.out | exact HB4.out.drewN _ | exact below_drewN HB4.out⟩
            case measure => simp only [intOf]; omega
          · have f1 : (x0 == 0) = false := beq_eq_false_iff_ne.2 hx0
            have f2 : ¬ ((k : Int) = (n : Int) - 1) := fun h => hx0 (o3.2 (by omega))
            have f3 : ((k : Int) == (n : Int) - 1) = false := beq_eq_false_iff_ne.2 f2
            clear o3 o4
            by_cases h3 : x0 = 3
            · subst h3
              obtain ⟨t1, t2, t3⟩ := HTX.out (by decide)
              have HQS := Lib.hid (show x1.length = q.size by rw [← HQL.out]; exact lst_len q)
              rw [HQS.out] at t1 t2 t3
              have u1 : ((q.size : Int) == 0) = false := beq_eq_false_iff_ne.2 (by omega)
              have u2 : ¬ ((s.size : Int) - (x2 : Int) < (q.size : Int)) := by omega
              have hws : IntKind.i64.wrap ((s.size : Int) - (x2 : Int)) = (s.size : Int) - (x2 : Int) := by rw [IntKind.wrap_i64]; omega
              have hwa : IntKind.i64.wrap ((x2 : Int) + (q.size : Int)) = (x2 : Int) + (q.size : Int) := by rw [IntKind.wrap_i64]; omega
              have u3 : (0 : Int) ≤ (x2 : Int) := by omega
              have u4 : (x2 : Int) ≤ (x2 : Int) + (q.size : Int) := by omega
              have u5 : (x2 : Int) + (q.size : Int) ≤ s.size := by omega
              have HXE : s.extract x2 (x2 + q.size) = q := by
                rw [← ext_of, show x2 + q.size - x2 = q.size by omega, ← t3, HQ1.out]
              have HX2 : (((x2 : Int) + (q.size : Int)).toNat) = x2 + q.size := by omega
              have HXB : ((s.extract x2 (x2 + q.size)).toList == q.toList) = true := by rw [HXE]; simp
              have HXN : ((s.extract x2 (x2 + q.size)).toList != q.toList) = false := by rw [HXE]; simp
              go_wp2_with fail
              go_quiet (fail)
              go_wp2
              go_roundw
              case rel => exact ⟨k + 1, x2, by go_num, by first | rfl | (congr 1; omega) | (rw [e2]), hlt, HON.out, by first | exact HB4.out | exact HB4.out.drewN _ | exact below_drewN HB4.out⟩
              case measure => simp only [intOf]; omega
            · by_cases h5 : x0 = 5
              · subst h5
                obtain ⟨t1, t2, t3⟩ := HTX.out (by decide)
                have HQS := Lib.hid (show x1.length = q.size by rw [← HQL.out]; exact lst_len q)
                rw [HQS.out] at t1 t2 t3
                have u1 : ((q.size : Int) == 0) = false := beq_eq_false_iff_ne.2 (by omega)
                have u2 : ¬ ((s.size : Int) - (x2 : Int) < (q.size : Int)) := by omega
                have hws : IntKind.i64.wrap ((s.size : Int) - (x2 : Int)) = (s.size : Int) - (x2 : Int) := by rw [IntKind.wrap_i64]; omega
                have hwa : IntKind.i64.wrap ((x2 : Int) + (q.size : Int)) = (x2 : Int) + (q.size : Int) := by rw [IntKind.wrap_i64]; omega
                have u3 : (0 : Int) ≤ (x2 : Int) := by omega
                have u4 : (x2 : Int) ≤ (x2 : Int) + (q.size : Int) := by omega
                have u5 : (x2 : Int) + (q.size : Int) ≤ s.size := by omega
                have HXE : s.extract x2 (x2 + q.size) = q := by
                  rw [← ext_of, show x2 + q.size - x2 = q.size by omega, ← t3, HQ1.out]
                have HX2 : (((x2 : Int) + (q.size : Int)).toNat) = x2 + q.size := by omega
                have HXB : ((s.extract x2 (x2 + q.size)).toList == q.toList) = true := by rw [HXE]; simp
                have HXN : ((s.extract x2 (x2 + q.size)).toList != q.toList) = false := by rw [HXE]; simp
                go_wp2_with fail
                go_quiet (fail)
                go_wp2
                go_roundw
                case rel => exact ⟨k + 1, x2, by go_num, by first | rfl | (congr 1; omega) | (rw [e2]), hlt, HON.out, by first | exact HB4.out | exact HB4.out.drewN _ | exact below_drewN HB4.out⟩
                case measure => simp only [intOf]; omega
              · have f5 : (x0 == 3) = false := beq_eq_false_iff_ne.2 h3
                have f6 : (x0 == 5) = false := beq_eq_false_iff_ne.2 h5
                go_wp2_with fail
                go_quiet (fail)
                go_wp2
                go_roundw
                case rel => exact ⟨k + 1, x2, by go_num, by first | rfl | (congr 1; omega) | (rw [e2]), hlt, HON.out, by first | exact HB4.out | exact HB4.out.drewN _ | exact below_drewN HB4.out⟩
                case measure => simp only [intOf]; omega
        · obtain rfl : k = n := by omega
          have hz : decide (0 < k) = true := decide_eq_true HTN.out
          have hz2 : (0 : Int) < (k : Int) := by have := HTN.out; omega
          go_wp2
          go_ret
          exact ⟨rfl, B1.out.trans (HB.out.mono B1.out.size)⟩
    · have hl := HER.out hx
      subst hl
      have h1 : (x == 0) = false := beq_eq_false_iff_ne.2 hx
      have h2 : (x != 0) = true := bne_iff_ne.2 hx
      clear HT2
      go_wp2
      go_ret
      exact ⟨rfl, B1.out⟩
end Go.Proofs.YtdkkflmhpncglaaDoor
