/- The walk of the law LexerConcatenation. -/
import Derived.Test.YtdkkflmhpncglaaDoorLsa
import Derived.Test.YtdkkflmhpncglaaDoorLTokW
import Derived.Test.YtdkkflmhpncglaaDoorLxp
import Derived.Test.YtdkkflmhpncglaaDoorLxq
import Derived.Lib.QuietBelow
import Derived.BigQuiet
import Derived.Deep.QuietTactic
import Derived.Deep.Cut
namespace Go.Proofs.YtdkkflmhpncglaaDoor
open Go.ChangeShapes Go.WideShapes Go.ChangeAt Go.RowKit Go.ChangeMaps

theorem fl_split (k : Nat) (R : List Tk) (hk : k ≤ R.length) : R.flatMap Tk.cells = (R.take k).flatMap Tk.cells ++ (R.drop k).flatMap Tk.cells ∧ ((R.take k).flatMap Tk.cells).length = k * 3 := by
  refine ⟨?_, by rw [flat_len Tk.cells 3 (fun _ => rfl), List.length_take, Nat.min_eq_left hk]⟩
  rw [← List.flatMap_append, List.take_append_drop]
theorem Tks.take {w : World} {A : Option Addr} {n k : Nat} {R : List Tk} (h : Tks w A n R) (hk : k ≤ n) : Tks w A k (R.take k) := by
  have hl := h.len
  have e : (R.take k).flatMap Tk.cells = (R.flatMap Tk.cells).take (k * 3) := by
    obtain ⟨f1, f2⟩ := fl_split k R (by omega)
    rw [f1, ← f2, List.take_left]
  unfold Tks At
  rw [e]
  refine ⟨by rw [List.length_take, h.1]; omega, fun hp => ?_⟩
  obtain ⟨b, off, e, hb, hc⟩ := h.2 (by omega)
  refine ⟨b, off, e, hb, fun j u hj => hc j u ?_⟩
  rw [List.getElem?_take] at hj
  split at hj
  · exact hj
  · cases hj
theorem Tks.drop {w : World} {b off : Nat} {n k : Nat} {R : List Tk} (h : Tks w (some ⟨b, off, none⟩) n R) (hk : k ≤ n) (hn : 0 < n) : Tks w (some ⟨b, off + k * 3, none⟩) (n - k) (R.drop k) := by
  have hl := h.len
  have e : (R.drop k).flatMap Tk.cells = (R.flatMap Tk.cells).drop (k * 3) := by
    obtain ⟨f1, f2⟩ := fl_split k R (by omega)
    rw [f1, ← f2, List.drop_left]
  unfold Tks At
  rw [e]
  refine ⟨by rw [List.length_drop, h.1]; rw [Nat.sub_mul], fun hp => ?_⟩
  obtain ⟨b2, off2, e, hb, hc⟩ := h.2 hn
  injection e with e
  injection e with e1 e2 _
  subst e1
  subst e2
  refine ⟨b, off + k * 3, rfl, hb, fun j u hj => ?_⟩
  rw [List.getElem?_drop] at hj
  rw [Nat.add_assoc]
  exact hc _ _ hj
theorem Tks.some {w : World} {A : Option Addr} {n : Nat} {R : List Tk} (h : Tks w A n R) (hn : 0 < n) : ∃ b off, A = some ⟨b, off, none⟩ := by
  obtain ⟨b, off, e, _⟩ := h.2 hn
  exact ⟨b, off, e⟩
theorem lcat_lst (a b : ByteArray) : lst (a ++ ⟨#[10]⟩ ++ b) = lst a ++ 10 :: lst b := by simp [lst]
theorem lcat_size (a b : ByteArray) : (a ++ ⟨#[10]⟩ ++ b).size = a.size + 1 + b.size := by rw [← lst_len, lcat_lst, List.length_append, List.length_cons, lst_len, lst_len]; omega
set_option maxRecDepth 100000 in
set_option maxHeartbeats 2000000 in
theorem lexerConcatenation_walk (s u : ByteArray) (w : World) (hs : s.size ≤ 140737488351232) (hu : u.size ≤ 140737488351232) (hE : LEnv w) : Calls Tryd.prog 4 #[.string s, .string u] w fun e w' => e = .returned (.bool true) ∧ Below w.heap.size w w' := by
  have HE := Lib.hid hE
  clear hE
  have AW := Lib.hid (fun W hW => awake_any W hW)
  have B1 := Lib.hid (Below.refl w.heap.size w)
  by_cases h200 : 2000 < s.size
  · have t1 : decide ((2000 : Int) < s.size) = true := decide_eq_true (by omega)
    go_enter Tryd.func4, Tryd.ntmps4
    go_wp2_with fail
    refine (AW.out _ (HE.out.below B1.out)).mono ?_
    rintro e w1 ⟨rfl, hb⟩
    have B1 := Lib.hid (B1.out.trans (hb.mono B1.out.size))
    clear hb
    go_wp2_with fail
    refine (AW.out _ (HE.out.below B1.out)).mono ?_
    rintro e w2 ⟨rfl, hb⟩
    have B1 := Lib.hid (B1.out.trans (hb.mono B1.out.size))
    clear hb
    go_wp2
    go_ret
    exact ⟨rfl, B1.out⟩
  · have t1 : decide ((2000 : Int) < s.size) = false := decide_eq_false (by omega)
    by_cases h201 : 2000 < u.size
    · have t2 : decide ((2000 : Int) < u.size) = true := decide_eq_true (by omega)
      go_enter Tryd.func4, Tryd.ntmps4
      go_wp2_with fail
      refine (AW.out _ (HE.out.below B1.out)).mono ?_
      rintro e w1 ⟨rfl, hb⟩
      have B1 := Lib.hid (B1.out.trans (hb.mono B1.out.size))
      clear hb
      go_wp2_with fail
      refine (AW.out _ (HE.out.below B1.out)).mono ?_
      rintro e w2 ⟨rfl, hb⟩
      have B1 := Lib.hid (B1.out.trans (hb.mono B1.out.size))
      clear hb
      go_wp2
      go_ret
      exact ⟨rfl, B1.out⟩
    · have t2 : decide ((2000 : Int) < u.size) = false := decide_eq_false (by omega)
      have HSS := Lib.hid (show s.size ≤ 2000 ∧ u.size ≤ 2000 by omega)
      have CS := Lib.hid (fun W hW => RTokens_any s W (by omega) hW)
      have CU := Lib.hid (fun W hW => RTokens_any u W (by omega) hW)
      have CT := Lib.hid (fun W hW => Tokens_any (s ++ ⟨#[10]⟩ ++ u) W (by rw [lcat_size]; omega) hW)
      have HBS := Lib.hid (tokL_bd (lst s) (by rw [lst_len]; omega))
      have HBU := Lib.hid (tokL_bd (lst u) (by rw [lst_len]; omega))
      have HBT := Lib.hid (tokL_bd (lst (s ++ ⟨#[10]⟩ ++ u)) (by rw [lst_len, lcat_size]; omega))
      have HC := Lib.hid (tok_cat (lst s) (lst u) (by rw [lst_len]; omega) (by rw [lst_len]; omega))
      have HOU := Lib.hid (tok_off (lst u) (by rw [lst_len]; omega))
      rw [← lcat_lst, lst_len] at HC
      generalize tokL (lst s) = R1 at *
      generalize tokL (lst u) = R2 at *
      generalize tokL (lst (s ++ ⟨#[10]⟩ ++ u)) = R3 at *
      obtain ⟨T1, k1, x1⟩ := R1
      obtain ⟨T2, k2, x2⟩ := R2
      obtain ⟨T3, k3, x3⟩ := R3
      simp only at CS CU CT HBS HBU HBT HC HOU
      clear h200 h201
      go_enter Tryd.func4, Tryd.ntmps4
      go_wp2_with fail
      refine (AW.out _ (HE.out.below B1.out)).mono ?_
      rintro e w1 ⟨rfl, hb⟩
      have B1 := Lib.hid (B1.out.trans (hb.mono B1.out.size))
      clear hb
      go_wp2_with fail
      refine (CS.out _ (HE.out.below B1.out)).mono ?_
      rintro e w2 ⟨vw2, rfl, hO, hb⟩
      obtain ⟨Aw2, cw2, rfl, hT, hlc, -⟩ := OT.tks hO
      have B1 := Lib.hid (B1.out.trans (hb.mono B1.out.size))
      have HT2 := Lib.hid hT
      have HLC1 := Lib.hid hlc
      clear hb hO hT CS hlc
      go_wp2_with fail
      refine (CU.out _ (HE.out.below B1.out)).mono ?_
      rintro e w3 ⟨vw3, rfl, hO, hb⟩
      obtain ⟨Aw3, cw3, rfl, hT, hlc, -⟩ := OT.tks hO
      have B1 := Lib.hid (B1.out.trans (hb.mono B1.out.size))
      have HT3 := Lib.hid hT
      have HT2 := Lib.hid (HT2.out.below hb)
      clear hb hO hT CU hlc
      by_cases hx1 : x1 = 0
      · by_cases hx2 : x2 = 0
        · subst hx1
          subst hx2
          obtain ⟨hne, hx3, hk3, hT3⟩ := HC.out rfl rfl
          have hne2 := (HOU.out rfl).1
          subst hx3
          subst hk3
          have HT1P := Lib.hid (List.length_pos_iff.2 hne)
          have HT2P := Lib.hid (List.length_pos_iff.2 hne2)
          obtain ⟨n, hn⟩ : ∃ n, T1.length = n + 1 := ⟨T1.length - 1, by have := HT1P.out; omega⟩
          have HL1 := Lib.hid hn
          have hl3 := congrArg List.length hT3
          rw [hn, show n + 1 - 1 = n by omega] at hT3
          rw [List.length_append, List.length_take, List.length_map, hn, Nat.min_eq_left (by omega), show n + 1 - 1 = n by omega] at hl3
          have e1 : T3.take n = (T1.take n).map (shf 0) := by
            have h := shf_zero (T1.take n)
            rw [decide_eq_true_eq] at h
            rw [← h, hT3, List.take_append_of_le_length (by rw [List.length_take]; omega), List.take_of_length_le (by rw [List.length_take]; omega)]
          have e2 : T3.drop n = T2.map (shf (s.size + 1)) := by
            rw [hT3]
            have hl : (T1.take n).length = n := by rw [List.length_take]; omega
            conv => lhs; arg 1; rw [← hl]
            rw [List.drop_left]
          have HE1 := Lib.hid e1
          have HE2 := Lib.hid e2
          clear HC HOU hne hne2 hT3 e1 e2
          rw [hn] at HT2 HBS
          rw [hn]
          clear hn
          have g0 : ((((n + 1 : Nat) : Int)) == 0) = false := beq_eq_false_iff_ne.2 (by omega)
          obtain ⟨q, hq⟩ : ∃ q, T2.length = q := ⟨_, rfl⟩
          rw [hq] at HT3 HBU hl3 HT2P
          rw [hq]
          have hwn : IntKind.i64.wrap (((n + 1 : Nat) : Int) - 1) = (n : Int) := by
            have := HBS.out.2
            rw [IntKind.wrap_i64]; omega
          obtain ⟨N1, hN1⟩ : ∃ N, N = n + 1 := ⟨_, rfl⟩
          rw [← hN1] at hwn g0 HT2 HL1
          rw [← hN1]
          go_wp2_with fail
          refine (CT.out _ (HE.out.below B1.out)).mono ?_
          rintro e w4 ⟨vw4, rfl, hO, hb⟩
          obtain ⟨Aw4, cw4, rfl, hT, hlc, -⟩ := OT.tks hO
          have B1 := Lib.hid (B1.out.trans (hb.mono B1.out.size))
          have HT2 := HT2.out.below hb
          have HT3 := Lib.hid (HT3.out.below hb)
          have hnb := HBS.out.2
          have hqb := HBU.out.2
          have hq0 := HT2P.out
          clear hb hO CT
          obtain ⟨m, hm⟩ : ∃ m, T3.length = m := ⟨_, rfl⟩
          rw [hm] at hT hlc hl3
          rw [hm]
          obtain ⟨b3, off3, rfl⟩ := hT.some (by omega)
          obtain ⟨b2, off2, rfl⟩ := HT2.some (by omega)
          have hwa : IntKind.i64.wrap ((n : Int) + (q : Int)) = (n : Int) + (q : Int) := by rw [IntKind.wrap_i64]; omega
          have hws : IntKind.i64.wrap ((s.size : Int) + 1) = (s.size : Int) + 1 := by have := HSS.out; rw [IntKind.wrap_i64]; omega
          have hme : ((m : Int) == (n : Int) + (q : Int)) = true := beq_iff_eq.2 (by omega)
          have hn0 : (0 : Int) ≤ (n : Int) := by omega
          have hnm : (n : Int) ≤ (m : Int) := by omega
          have hnc : (n : Int) ≤ (cw4 : Int) := by omega
          have hmc : (m : Int) ≤ (cw4 : Int) := by omega
          have hnN : (n : Int) ≤ (N1 : Int) := by omega
          have HX := Lib.hid HT2
          have hnc2 : (n : Int) ≤ (cw2 : Int) := by have := HLC1.out; have := HL1.out; omega
          have CA := fun (d : Nat) os => same_any (some ⟨b3, off3, none⟩) (some ⟨b2, off2, none⟩) n n cw4 cw2 0 (T3.take n) (T1.take n) (Go.Sort.grow (redrawn w4 d) os) ((hT.take (by omega)).below (below_regrown w4 d os)) ((HT2.take (by omega)).below (below_regrown w4 d os)) (by omega) (fun y hy => HBS.out.1 y (List.mem_of_mem_take hy)) (by omega)
          rw [decide_eq_true HE1.out] at CA
          have CB := fun (d : Nat) os => same_any (some ⟨b3, off3 + n * 3, none⟩) Aw3 q q (cw4 - n) cw3 (s.size + 1) (T3.drop n) T2 (Go.Sort.grow (redrawn w4 d) os) ((show Tks w4 (some ⟨b3, off3 + n * 3, none⟩) q (T3.drop n) by have h := hT.drop (k := n) (by omega) (by omega); rw [show m - n = q by omega] at h; exact h).below (below_regrown w4 d os)) (HT3.out.below (below_regrown w4 d os)) (by omega) HBU.out.1 (by have := HSS.out; omega)
          rw [decide_eq_true HE2.out] at CB
          rw [show ((s.size + 1 : Nat) : Int) = (s.size : Int) + 1 by omega] at CB
          have CA := Lib.hid CA
          have CB := Lib.hid CB
          clear HT3 hT HT2 HBS HBU HBT HSS
          go_wp2_with fail
          refine wp_region_quiet_below (by kernel_rfl) (by kernel_rfl) ?_
          repeat (first | go_big_quiet_step ((first | (go_at_call 13; with_reducible exact Calls.regrown_of (CA.out _ _)) | (go_at_call 13; with_reducible exact Calls.regrown_of (CB.out _ _)))) | quiet_step ((first | (go_at_call 13; with_reducible exact Calls.regrown_of (CA.out _ _)) | (go_at_call 13; with_reducible exact Calls.regrown_of (CB.out _ _)))))
          refine wpQuiet_nil ?_
          intro _ hw'
          obtain ⟨⟨dq, osq⟩, hw''⟩ := hw'
          subst hw''
          have B1 := Lib.hid (B1.out.trans ((below_regrown w4 dq osq).mono B1.out.size))
          go_wp2
          go_ret
          exact ⟨rfl, B1.out⟩
        · have h1 : (x2 == 0) = false := beq_eq_false_iff_ne.2 hx2
          have h2 : (x2 != 0) = true := bne_iff_ne.2 hx2
          subst hx1
          clear HT2 HT3 HC HOU
          go_wp2
          go_ret
          exact ⟨rfl, B1.out⟩
      · have h1 : (x1 == 0) = false := beq_eq_false_iff_ne.2 hx1
        have h2 : (x1 != 0) = true := bne_iff_ne.2 hx1
        clear HT2 HT3 HC HOU
        go_wp2
        go_ret
        exact ⟨rfl, B1.out⟩
end Go.Proofs.YtdkkflmhpncglaaDoor
