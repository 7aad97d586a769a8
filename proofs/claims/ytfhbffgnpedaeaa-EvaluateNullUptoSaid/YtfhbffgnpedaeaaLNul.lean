/- Law EvaluateNull, where what it reads is of bounded bulk: for every such input the call returns true, and its arguments read afterwards as before. -/
import Derived.Test.YtfhbffgnpedaeaaEup
import Derived.Test.YtfhbffgnpedaeaaChi
import Derived.Test.YtfhbffgnpedaeaaEaw
import Derived.Test.YtfhbffgnpedaeaaEcs
import Derived.Test.YtfhbffgnpedaeaaMix
namespace Go.Proofs.Ytfhbffgnpedaeaa
open Go.ChangeShapes Go.WideShapes Go.ChangeAt Go.RowKit Go.ChangeMaps

theorem exs_at {W : World} {A : Option Addr} {C : List Ex} (h : At W A C.length 8 (C.flatMap Ex.cells)) (hn : 0 < C.length) : ∃ b off, A = some ⟨b, off, none⟩ ∧ b < W.heap.size ∧ ∀ i y, C[i]? = some y →
    W.cell? ⟨b, off + i * 8, none⟩ = some (.int .i64 y.op) ∧ W.cell? ⟨b, off + i * 8 + 1, none⟩ = some (.string y.tb) ∧ W.cell? ⟨b, off + i * 8 + 2, none⟩ = some (.string y.nm) ∧ W.cell? ⟨b, off + i * 8 + 3, none⟩ = some (.int .i64 y.ix) ∧ W.cell? ⟨b, off + i * 8 + 4, none⟩ = some (.int .i64 y.v.k) ∧ W.cell? ⟨b, off + i * 8 + 5, none⟩ = some (.int .i64 y.v.n) ∧ W.cell? ⟨b, off + i * 8 + 6, none⟩ = some (.string y.v.s) ∧ W.cell? ⟨b, off + i * 8 + 7, none⟩ = some (.slice y.A y.args.length y.c) := by
  obtain ⟨b, off, e, hb, hc⟩ := h.2 hn
  refine ⟨b, off, e, hb, fun i y hy => ?_⟩
  obtain ⟨hi, he⟩ := List.getElem?_eq_some_iff.1 hy
  subst he
  have g : ∀ j u, j < 8 → (C[i].cells)[j]? = some u → W.cell? ⟨b, off + i * 8 + j, none⟩ = some u := fun j u hj hu => by
    rw [Nat.add_assoc]
    exact hc _ _ ((flat_get Ex.cells 8 (fun _ => rfl) C i j hi hj).trans hu)
  exact ⟨g 0 _ (by decide) rfl, g 1 _ (by decide) rfl, g 2 _ (by decide) rfl, g 3 _ (by decide) rfl, g 4 _ (by decide) rfl, g 5 _ (by decide) rfl, g 6 _ (by decide) rfl, g 7 _ (by decide) rfl⟩
theorem cond_two (R : List V3) (o : Int) (tb nm : ByteArray) (ix : Int) (v : V3) (A : Option Addr) (c : Nat) (a b : Ex) (h1 : o ≠ 18) (h2 : o ≠ 19) : condM R (.mk o tb nm ix v A c [a, b]) = cmpM o (evM R a) (evM R b) := by
  rw [condM]
  simp only [condL, evL, comC]
  rw [if_neg h1, if_neg h2]
def nullAt (R : List V3) (y : Ex) : Bool := decide ((R.getD y.ix.toNat nul).k = 0)
set_option maxRecDepth 100000 in
set_option maxHeartbeats 4000000 in
theorem evaluateNull_walk (L : List Va) (R : List V3) (x : Ex) (A0 A : Option Addr) (n0 c0 n c : Nat) (a1 : Int) (w : World) (h : ExAt w x) (hL : Vas w A0 n0 L) (hR : Vls w A n R) (hn : n ≤ 9223372036854775807) (hok : ∀ v ∈ R, v.ok) (hN : exN x ≤ 1048576) (l1 : 0 ≤ a1) (g1 : a1 ≤ 255) : Calls Try.prog 8 #[caseAgg x A0 A n0 c0 n c, .int .u8 a1] w fun e w' => e = .returned (.bool true) ∧ Below w.heap.size w w' := by
  have C1 := Lib.hid (fun W (hW : Below w.heap.size w W) => fits_any L R x A0 A n0 c0 n c 1 W (h.keep hW) (hL.below hW) (hR.below hW) hn hok)
  obtain ⟨f1, hf1⟩ : ∃ u, (fitM L 1 x && rwM L R) = u := ⟨_, rfl⟩
  simp only [hf1] at C1
  have HRl := hR.len
  have HV0 : f1 = true → ExSm x ∧ (∀ y ∈ colsM x, 0 ≤ y.ix ∧ y.ix.toNat < R.length) ∧ ((colsM x).any (nullAt R) = true → evM R x = nul) := by
    intro g
    rw [g, Bool.and_eq_true] at hf1
    have hty : tyM L x = 0 ∨ tyM L x = 1 ∨ tyM L x = 2 := by
      have := hf1.1
      unfold fitM at this
      simp only [Bool.and_eq_true] at this
      rcases (isC_iff _ _).1 this.2.2.1 with g | g <;> omega
    have hm := cols_mem hf1.2 x hty
    refine ⟨fit_sm L 1 x hf1.1 (by decide), hm, fun ha => ?_⟩
    obtain ⟨y, hy, hk⟩ := List.any_eq_true.1 ha
    have hi := (hm y hy).2
    unfold nullAt at hk
    rw [decide_eq_true_eq, List.getD, List.getElem?_eq_getElem hi] at hk
    exact cols_null hf1.2 x hty y hy _ (List.getElem?_eq_getElem hi) hk
  have HV := Lib.hid HV0
  have HCN := Lib.hid (show (colsM x).length ≤ 1048576 from Nat.le_trans (cols_len x) hN)
  have CK := Lib.hid (fun W (hW : Below w.heap.size w W) => cols_any x W (h.keep hW) HCN.out)
  have CV0 := Lib.hid (fun (hs : ExSm x) W (hW : Below w.heap.size w W) => Value_any R x W A n c (h.keep hW) hs (hR.below hW) hn hok)
  have CC0 := Lib.hid (fun (z : Ex) (hs : ExSm z) W (hW : Below w.heap.size w W) (hz : ExAt W z) => Condition_any R z W A n c hz hs (hR.below hW) hn hok)
  have HXA := Lib.hid (fun W (hW : Below w.heap.size w W) => h.keep hW)
  have HRa := Lib.hid (fun (h0 : 0 < n) => hR.at h0)
  obtain ⟨C, hC⟩ : ∃ C, colsM x = C := ⟨_, rfl⟩
  obtain ⟨ev, hev⟩ : ∃ v, evM R x = v := ⟨_, rfl⟩
  rw [hC] at HCN
  simp only [hC] at CK HV
  simp only [hev] at CV0 HV
  have HEV := Lib.hid hev
  clear hf1 HV0 hev hC h hL hR hok hN
  unfold caseAgg at *
  unfold Ex.agg at CK CV0
  unfold V3.agg at CV0
  obtain ⟨W0, hW0⟩ : ∃ W, W = w.alloc (.cells #[.int .i64 x.op, .string x.tb, .string x.nm, .int .i64 x.ix, .int .i64 x.v.k, .int .i64 x.v.n, .string x.v.s, .slice x.A x.args.length x.c, .slice A0 n0 c0, .slice A n c] 31) := ⟨_, rfl⟩
  have HB1 := Lib.hid (show Below w.heap.size w W0 by rw [hW0]; exact (Below.refl _ w).alloc (Nat.le_refl _) _)
  have K1 := Lib.hid (show Blk W0 w.heap.size 31 #[.int .i64 x.op, .string x.tb, .string x.nm, .int .i64 x.ix, .int .i64 x.v.k, .int .i64 x.v.n, .string x.v.s, .slice x.A x.args.length x.c, .slice A0 n0 c0, .slice A n c] by rw [hW0]; exact Blk.new _ _ _)
  have K1_0 : W0.cell? ⟨w.heap.size, 0, none⟩ = some (.int .i64 x.op) := K1.out.cell 0
  have K1_1 : W0.cell? ⟨w.heap.size, 1, none⟩ = some (.string x.tb) := K1.out.cell 1
  have K1_2 : W0.cell? ⟨w.heap.size, 2, none⟩ = some (.string x.nm) := K1.out.cell 2
  have K1_3 : W0.cell? ⟨w.heap.size, 3, none⟩ = some (.int .i64 x.ix) := K1.out.cell 3
  have K1_4 : W0.cell? ⟨w.heap.size, 4, none⟩ = some (.int .i64 x.v.k) := K1.out.cell 4
  have K1_5 : W0.cell? ⟨w.heap.size, 5, none⟩ = some (.int .i64 x.v.n) := K1.out.cell 5
  have K1_6 : W0.cell? ⟨w.heap.size, 6, none⟩ = some (.string x.v.s) := K1.out.cell 6
  have K1_7 : W0.cell? ⟨w.heap.size, 7, none⟩ = some (.slice x.A x.args.length x.c) := K1.out.cell 7
  have K1_8 : W0.cell? ⟨w.heap.size, 8, none⟩ = some (.slice A0 n0 c0) := K1.out.cell 8
  have K1_9 : W0.cell? ⟨w.heap.size, 9, none⟩ = some (.slice A n c) := K1.out.cell 9
  have K1_l : w.heap.size < W0.heap.size := K1.out.lt
  go_enter Try.func8, Try.ntmps8
  go_upto_region 1 with fail
  rw [← hW0]
  clear hW0
  go_wp2_with fail
  refine (awake_any _).mono ?_
  rintro e w1 ⟨rfl, hb⟩
  have HB2 := Lib.hid (HB1.out.trans (hb.mono HB1.out.size))
  have K2 := Lib.hid (K1.out.below hb)
  clear hb
  clear K1_0 K1_1 K1_2 K1_3 K1_4 K1_5 K1_6 K1_7 K1_8 K1_9 K1_l
  have K2_0 : w1.cell? ⟨w.heap.size, 0, none⟩ = some (.int .i64 x.op) := K2.out.cell 0
  have K2_1 : w1.cell? ⟨w.heap.size, 1, none⟩ = some (.string x.tb) := K2.out.cell 1
  have K2_2 : w1.cell? ⟨w.heap.size, 2, none⟩ = some (.string x.nm) := K2.out.cell 2
  have K2_3 : w1.cell? ⟨w.heap.size, 3, none⟩ = some (.int .i64 x.ix) := K2.out.cell 3
  have K2_4 : w1.cell? ⟨w.heap.size, 4, none⟩ = some (.int .i64 x.v.k) := K2.out.cell 4
  have K2_5 : w1.cell? ⟨w.heap.size, 5, none⟩ = some (.int .i64 x.v.n) := K2.out.cell 5
  have K2_6 : w1.cell? ⟨w.heap.size, 6, none⟩ = some (.string x.v.s) := K2.out.cell 6
  have K2_7 : w1.cell? ⟨w.heap.size, 7, none⟩ = some (.slice x.A x.args.length x.c) := K2.out.cell 7
  have K2_8 : w1.cell? ⟨w.heap.size, 8, none⟩ = some (.slice A0 n0 c0) := K2.out.cell 8
  have K2_9 : w1.cell? ⟨w.heap.size, 9, none⟩ = some (.slice A n c) := K2.out.cell 9
  have K2_l : w.heap.size < w1.heap.size := K2.out.lt
  go_wp2_with fail
  refine (C1.out _ HB2.out).mono ?_
  rintro e w2 ⟨rfl, hb⟩
  have HB3 := Lib.hid (HB2.out.trans (hb.mono HB2.out.size))
  have K3 := Lib.hid (K2.out.below hb)
  clear hb
  clear K2_0 K2_1 K2_2 K2_3 K2_4 K2_5 K2_6 K2_7 K2_8 K2_9 K2_l
  have K3_0 : w2.cell? ⟨w.heap.size, 0, none⟩ = some (.int .i64 x.op) := K3.out.cell 0
  have K3_1 : w2.cell? ⟨w.heap.size, 1, none⟩ = some (.string x.tb) := K3.out.cell 1
  have K3_2 : w2.cell? ⟨w.heap.size, 2, none⟩ = some (.string x.nm) := K3.out.cell 2
  have K3_3 : w2.cell? ⟨w.heap.size, 3, none⟩ = some (.int .i64 x.ix) := K3.out.cell 3
  have K3_4 : w2.cell? ⟨w.heap.size, 4, none⟩ = some (.int .i64 x.v.k) := K3.out.cell 4
  have K3_5 : w2.cell? ⟨w.heap.size, 5, none⟩ = some (.int .i64 x.v.n) := K3.out.cell 5
  have K3_6 : w2.cell? ⟨w.heap.size, 6, none⟩ = some (.string x.v.s) := K3.out.cell 6
  have K3_7 : w2.cell? ⟨w.heap.size, 7, none⟩ = some (.slice x.A x.args.length x.c) := K3.out.cell 7
  have K3_8 : w2.cell? ⟨w.heap.size, 8, none⟩ = some (.slice A0 n0 c0) := K3.out.cell 8
  have K3_9 : w2.cell? ⟨w.heap.size, 9, none⟩ = some (.slice A n c) := K3.out.cell 9
  have K3_l : w.heap.size < w2.heap.size := K3.out.lt
  cases f1
  case false =>
    go_wp2_with fail
    refine (awake_any _).mono ?_
    rintro e z3 ⟨rfl, hb⟩
    have HB4 := Lib.hid (HB3.out.trans (hb.mono HB3.out.size))
    have K4 := Lib.hid (K3.out.below hb)
    clear hb
    clear K3_0 K3_1 K3_2 K3_3 K3_4 K3_5 K3_6 K3_7 K3_8 K3_9 K3_l
    have K4_0 : z3.cell? ⟨w.heap.size, 0, none⟩ = some (.int .i64 x.op) := K4.out.cell 0
    have K4_1 : z3.cell? ⟨w.heap.size, 1, none⟩ = some (.string x.tb) := K4.out.cell 1
    have K4_2 : z3.cell? ⟨w.heap.size, 2, none⟩ = some (.string x.nm) := K4.out.cell 2
    have K4_3 : z3.cell? ⟨w.heap.size, 3, none⟩ = some (.int .i64 x.ix) := K4.out.cell 3
    have K4_4 : z3.cell? ⟨w.heap.size, 4, none⟩ = some (.int .i64 x.v.k) := K4.out.cell 4
    have K4_5 : z3.cell? ⟨w.heap.size, 5, none⟩ = some (.int .i64 x.v.n) := K4.out.cell 5
    have K4_6 : z3.cell? ⟨w.heap.size, 6, none⟩ = some (.string x.v.s) := K4.out.cell 6
    have K4_7 : z3.cell? ⟨w.heap.size, 7, none⟩ = some (.slice x.A x.args.length x.c) := K4.out.cell 7
    have K4_8 : z3.cell? ⟨w.heap.size, 8, none⟩ = some (.slice A0 n0 c0) := K4.out.cell 8
    have K4_9 : z3.cell? ⟨w.heap.size, 9, none⟩ = some (.slice A n c) := K4.out.cell 9
    have K4_l : w.heap.size < z3.heap.size := K4.out.lt
    go_wp2
    go_ret
    exact ⟨rfl, HB4.out⟩
  obtain ⟨hsm, hcm, hnl⟩ := HV.out (by simp)
  have CV := Lib.hid (CV0.out hsm)
  have HSM := Lib.hid hsm
  have HCM := Lib.hid hcm
  have HNL := Lib.hid hnl
  clear CV0 HV C1 hsm hcm hnl
  go_wp2_with fail
  refine (CK.out _ HB3.out).mono ?_
  rintro e w3 ⟨A2, a2, rfl, hat, hb⟩
  have HB4 := Lib.hid (HB3.out.trans (hb.mono HB3.out.size))
  have K4 := Lib.hid (K3.out.below hb)
  have HAT := Lib.hid hat
  clear hb hat CK
  clear K3_0 K3_1 K3_2 K3_3 K3_4 K3_5 K3_6 K3_7 K3_8 K3_9 K3_l
  go_wp2
  go_loopw [5, 21] (fun s5 iv wr => ∃ (k : Nat) (nb : Bool), s5 = .bool nb ∧ iv = .int .i64 (k : Int) ∧ k ≤ C.length ∧ nb = (C.take k).any (nullAt R) ∧ Blk wr w.heap.size 31 #[.int .i64 x.op, .string x.tb, .string x.nm, .int .i64 x.ix, .int .i64 x.v.k, .int .i64 x.v.n, .string x.v.s, .slice x.A x.args.length x.c, .slice A0 n0 c0, .slice A n c] ∧ At wr A2 C.length 8 (C.flatMap Ex.cells) ∧ Below w.heap.size w wr) (fun _ iv _ => C.length - (intOf iv).toNat)
  case atStart => exact ⟨0, false, rfl, rfl, Nat.zero_le _, rfl, K4.out, HAT.out, HB4.out⟩
  case round =>
    obtain ⟨k, nb, rfl, rfl, hkn, hnb, hk, hat, hb⟩ := hrel
    have KW := Lib.hid hk
    have HA := Lib.hid hat
    have HB := Lib.hid hb
    have HNB := Lib.hid hnb
    clear hk hat hb hnb HB4 K4 HAT
    by_cases hlt : k < C.length
    · have hlti : (k : Int) < C.length := by omega
      obtain ⟨y, hy⟩ : ∃ y, C[k]? = some y := ⟨_, List.getElem?_eq_getElem hlt⟩
      obtain ⟨b, off, eA2, hbl, hc⟩ := exs_at HA.out (by omega)
      obtain ⟨u0, u1, u2, u3, u4, u5, u6, u7⟩ := hc k y hy
      have hym : y ∈ C := List.mem_of_getElem? hy
      obtain ⟨hy0, hy1⟩ := HCM.out y hym
      obtain ⟨m, hm⟩ : ∃ m : Nat, y.ix = (m : Int) := ⟨y.ix.toNat, by omega⟩
      have hmR : m < R.length := by omega
      obtain ⟨br, offr, eA, hbr, hcr⟩ := HRa.out (by omega)
      have hkb : k ≤ 1048576 := by have := HCN.out; omega
      have HT := Lib.hid (show (C.take (k + 1)).any (nullAt R) = ((C.take k).any (nullAt R) || decide (R[m].k = 0)) by
        have : C[k] = y := by rw [List.getElem?_eq_getElem hlt] at hy; exact Option.some.inj hy
        rw [List.take_succ_eq_append_getElem hlt, List.any_append, this]
        simp only [List.any_cons, List.any_nil, Bool.or_false, nullAt, hm, Int.toNat_natCast, List.getD, List.getElem?_eq_getElem hmR, Option.getD_some])
      obtain ⟨W3, hW3⟩ : ∃ W, W = wr.alloc (.cells #[.int .i64 y.op, .string y.tb, .string y.nm, .int .i64 y.ix, .int .i64 y.v.k, .int .i64 y.v.n, .string y.v.s, .slice y.A y.args.length y.c] 26) := ⟨_, rfl⟩
      have HB5 := Lib.hid (show Below w.heap.size w W3 by rw [hW3]; exact HB.out.alloc HB.out.size _)
      have KW5 := Lib.hid (show Blk W3 w.heap.size 31 #[.int .i64 x.op, .string x.tb, .string x.nm, .int .i64 x.ix, .int .i64 x.v.k, .int .i64 x.v.n, .string x.v.s, .slice x.A x.args.length x.c, .slice A0 n0 c0, .slice A n c] by rw [hW3]; exact KW.out.alloc _)
      have KY5 := Lib.hid (show Blk W3 wr.heap.size 26 #[.int .i64 y.op, .string y.tb, .string y.nm, .int .i64 y.ix, .int .i64 y.v.k, .int .i64 y.v.n, .string y.v.s, .slice y.A y.args.length y.c] by rw [hW3]; exact Blk.new _ _ _)
      have HA5 := Lib.hid (show At W3 (some ⟨b, off, none⟩) C.length 8 (C.flatMap Ex.cells) by rw [hW3, ← eA2]; exact HA.out.alloc _)
      obtain ⟨r0, r1, r2⟩ := hcr W3 HB5.out m hmR
      have k9 : W3.cell? ⟨w.heap.size, 9, none⟩ = some (.slice (some ⟨br, offr, none⟩) n c) := by rw [← eA]; exact KW5.out.cell 9
      have y3 : W3.cell? ⟨wr.heap.size, 3, none⟩ = some (.int .i64 m) := by rw [← hm]; exact KY5.out.cell 3
      have hmn : (m : Int) < n := by omega
      clear eA hc hcr hym hy0 hy1 hm HA KW HB
      rw [eA2]
      clear eA2
      go_upto_region 7 with fail
      rw [← hW3]
      clear hW3 u0 u1 u2 u3 u4 u5 u6 u7
      generalize wr.heap.size = gy at *
      cases nb
      case true =>
        go_wp2
        go_roundw
        case rel => exact ⟨k + 1, true, rfl, by go_num, by omega, by rw [HT.out, ← HNB.out]; rfl, KW5.out, HA5.out, HB5.out⟩
        case measure => simp only [intOf]; rw [show ((k : Int) + 1).toNat = k + 1 by omega]; omega
      case false =>
        obtain ⟨rk, hrk⟩ : ∃ q, R[m].k = q := ⟨_, rfl⟩
        rw [hrk] at r0 HT
        clear hrk r1 r2
        by_cases hz : rk = 0
        · subst hz
          go_wp2
          go_roundw
          case rel => exact ⟨k + 1, true, rfl, by go_num, by omega, by rw [HT.out]; simp, KW5.out, HA5.out, HB5.out⟩
          case measure => simp only [intOf]; rw [show ((k : Int) + 1).toNat = k + 1 by omega]; omega
        · have ez : (rk == 0) = false := by simpa using hz
          have HT2 := Lib.hid (show (C.take (k + 1)).any (nullAt R) = false by rw [HT.out, ← HNB.out, decide_eq_false hz]; rfl)
          clear hz HT
          go_wp2
          go_roundw
          case rel => exact ⟨k + 1, false, rfl, by go_num, by omega, HT2.out.symm, KW5.out, HA5.out, HB5.out⟩
          case measure => simp only [intOf]; rw [show ((k : Int) + 1).toNat = k + 1 by omega]; omega
    · have hlti : ¬ (k : Int) < C.length := by omega
      obtain rfl : k = C.length := by omega
      cases nb
      case false =>
        go_wp2
        go_ret
        exact ⟨rfl, HB.out⟩
      have HE := Lib.hid (HNL.out (by have := HNB.out; rw [List.take_length] at this; exact this.symm))
      clear HNL HNB HCM HA
      have KW_0 : wr.cell? ⟨w.heap.size, 0, none⟩ = some (.int .i64 x.op) := KW.out.cell 0
      have KW_1 : wr.cell? ⟨w.heap.size, 1, none⟩ = some (.string x.tb) := KW.out.cell 1
      have KW_2 : wr.cell? ⟨w.heap.size, 2, none⟩ = some (.string x.nm) := KW.out.cell 2
      have KW_3 : wr.cell? ⟨w.heap.size, 3, none⟩ = some (.int .i64 x.ix) := KW.out.cell 3
      have KW_4 : wr.cell? ⟨w.heap.size, 4, none⟩ = some (.int .i64 x.v.k) := KW.out.cell 4
      have KW_5 : wr.cell? ⟨w.heap.size, 5, none⟩ = some (.int .i64 x.v.n) := KW.out.cell 5
      have KW_6 : wr.cell? ⟨w.heap.size, 6, none⟩ = some (.string x.v.s) := KW.out.cell 6
      have KW_7 : wr.cell? ⟨w.heap.size, 7, none⟩ = some (.slice x.A x.args.length x.c) := KW.out.cell 7
      have KW_8 : wr.cell? ⟨w.heap.size, 8, none⟩ = some (.slice A0 n0 c0) := KW.out.cell 8
      have KW_9 : wr.cell? ⟨w.heap.size, 9, none⟩ = some (.slice A n c) := KW.out.cell 9
      have KW_l : w.heap.size < wr.heap.size := KW.out.lt
      go_upto_region 11 with fail
      have hb : Below wr.heap.size wr wr.drew := below_drew (Below.refl _ _)
      refine wp_region_mix 10 (fun w' => Below wr.heap.size wr w') (by kernel_rfl) (by decide) ?_
      generalize wr.drew = y0 at hb ⊢
      refine wpM_take (i := 0) (oi := ⟨some 39, _, _, _, _, _⟩) (v := ?_) rfl (by decide +kernel) (by decide +kernel) (by decide +kernel) (fun _ _ _ h => h) (Or.inl ⟨by rfl, ?_⟩) hb ?_
      case refine_2 =>
        intro w' hSw
        have KW_0' := keepcell hSw KW_0
        have KW_1' := keepcell hSw KW_1
        have KW_2' := keepcell hSw KW_2
        have KW_3' := keepcell hSw KW_3
        have KW_4' := keepcell hSw KW_4
        have KW_5' := keepcell hSw KW_5
        have KW_6' := keepcell hSw KW_6
        have KW_7' := keepcell hSw KW_7
        have KW_8' := keepcell hSw KW_8
        have KW_9' := keepcell hSw KW_9
        go_simp
        try (with_reducible rfl)
      try simp only [Act.put, List.setIfInBounds_toArray, List.set_cons_zero, List.set_cons_succ]
      refine wpM_take (i := 1) (oi := ⟨some 40, _, _, _, _, _⟩) (v := ?_) rfl (by decide +kernel) (by decide +kernel) (by decide +kernel) (fun _ _ _ h => h) (Or.inl ⟨by rfl, ?_⟩) hb ?_
      case refine_2 =>
        intro w' hSw
        have KW_0' := keepcell hSw KW_0
        have KW_1' := keepcell hSw KW_1
        have KW_2' := keepcell hSw KW_2
        have KW_3' := keepcell hSw KW_3
        have KW_4' := keepcell hSw KW_4
        have KW_5' := keepcell hSw KW_5
        have KW_6' := keepcell hSw KW_6
        have KW_7' := keepcell hSw KW_7
        have KW_8' := keepcell hSw KW_8
        have KW_9' := keepcell hSw KW_9
        go_simp
        try (with_reducible rfl)
      try simp only [Act.put, List.setIfInBounds_toArray, List.set_cons_zero, List.set_cons_succ]
      refine wpM_take (i := 2) (oi := ⟨some 41, _, _, _, _, _⟩) (v := ?_) rfl (by decide +kernel) (by decide +kernel) (by decide +kernel) (fun _ _ _ h => h) (Or.inl ⟨by rfl, ?_⟩) hb ?_
      case refine_2 =>
        intro w' hSw
        have KW_0' := keepcell hSw KW_0
        have KW_1' := keepcell hSw KW_1
        have KW_2' := keepcell hSw KW_2
        have KW_3' := keepcell hSw KW_3
        have KW_4' := keepcell hSw KW_4
        have KW_5' := keepcell hSw KW_5
        have KW_6' := keepcell hSw KW_6
        have KW_7' := keepcell hSw KW_7
        have KW_8' := keepcell hSw KW_8
        have KW_9' := keepcell hSw KW_9
        go_simp
        try (with_reducible rfl)
      try simp only [Act.put, List.setIfInBounds_toArray, List.set_cons_zero, List.set_cons_succ]
      refine wpM_take (i := 3) (oi := ⟨some 42, _, _, _, _, _⟩) (v := ?_) rfl (by decide +kernel) (by decide +kernel) (by decide +kernel) (fun _ _ _ h => h) (Or.inl ⟨by rfl, ?_⟩) hb ?_
      case refine_2 =>
        intro w' hSw
        have KW_0' := keepcell hSw KW_0
        have KW_1' := keepcell hSw KW_1
        have KW_2' := keepcell hSw KW_2
        have KW_3' := keepcell hSw KW_3
        have KW_4' := keepcell hSw KW_4
        have KW_5' := keepcell hSw KW_5
        have KW_6' := keepcell hSw KW_6
        have KW_7' := keepcell hSw KW_7
        have KW_8' := keepcell hSw KW_8
        have KW_9' := keepcell hSw KW_9
        go_simp
        try (with_reducible rfl)
      try simp only [Act.put, List.setIfInBounds_toArray, List.set_cons_zero, List.set_cons_succ]
      refine wpM_take (i := 4) (oi := ⟨some 43, _, _, _, _, _⟩) (v := ?_) rfl (by decide +kernel) (by decide +kernel) (by decide +kernel) (fun _ _ _ h => h) (Or.inl ⟨by rfl, ?_⟩) hb ?_
      case refine_2 =>
        intro w' hSw
        have KW_0' := keepcell hSw KW_0
        have KW_1' := keepcell hSw KW_1
        have KW_2' := keepcell hSw KW_2
        have KW_3' := keepcell hSw KW_3
        have KW_4' := keepcell hSw KW_4
        have KW_5' := keepcell hSw KW_5
        have KW_6' := keepcell hSw KW_6
        have KW_7' := keepcell hSw KW_7
        have KW_8' := keepcell hSw KW_8
        have KW_9' := keepcell hSw KW_9
        go_simp
        try (with_reducible rfl)
      try simp only [Act.put, List.setIfInBounds_toArray, List.set_cons_zero, List.set_cons_succ]
      refine wpM_take (i := 5) (oi := ⟨some 44, _, _, _, _, _⟩) (v := ?_) rfl (by decide +kernel) (by decide +kernel) (by decide +kernel) (fun _ _ _ h => h) (Or.inl ⟨by rfl, ?_⟩) hb ?_
      case refine_2 =>
        intro w' hSw
        have KW_0' := keepcell hSw KW_0
        have KW_1' := keepcell hSw KW_1
        have KW_2' := keepcell hSw KW_2
        have KW_3' := keepcell hSw KW_3
        have KW_4' := keepcell hSw KW_4
        have KW_5' := keepcell hSw KW_5
        have KW_6' := keepcell hSw KW_6
        have KW_7' := keepcell hSw KW_7
        have KW_8' := keepcell hSw KW_8
        have KW_9' := keepcell hSw KW_9
        go_simp
        try (with_reducible rfl)
      try simp only [Act.put, List.setIfInBounds_toArray, List.set_cons_zero, List.set_cons_succ]
      obtain ⟨o, ho⟩ : ∃ o, IntKind.i64.wrap (10 + (IntKind.i64.wrap a1).tmod 6) = o := ⟨_, rfl⟩
      have HO := Lib.hid (show 10 ≤ o ∧ o ≤ 15 by
        have e1 : IntKind.i64.wrap a1 = a1 := IntWalk.i64_in _ ⟨by omega, by omega⟩
        have e2 := Int.tmod_eq_emod_of_nonneg (b := 6) l1
        have e3 : IntKind.i64.wrap (10 + a1 % 6) = 10 + a1 % 6 := IntWalk.i64_in _ ⟨by omega, by omega⟩
        rw [← ho, e1, e2, e3]
        omega)
      rw [ho]
      clear ho
      refine wpM_inv (fun i => if i < 9 then i + 39 else 8) [6, 7, 8, 9] (fun d vs W => Below wr.heap.size wr W ∧ (d 6 = true → vs 6 = .agg #[.int .i64 1, .string ⟨#[]⟩, .string ⟨#[]⟩, .int .i64 0, .int .i64 1, .int .i64 3, .string ⟨#[]⟩, .slice none 0 0]) ∧ (d 7 = true → ∃ g, vs 7 = .slice (some ⟨g, 0, none⟩) 2 2 ∧ wr.heap.size ≤ g ∧ Blk W g 26 #[.int .i64 x.op, .string x.tb, .string x.nm, .int .i64 x.ix, .int .i64 x.v.k, .int .i64 x.v.n, .string x.v.s, .slice x.A x.args.length x.c, .int .i64 1, .string ⟨#[]⟩, .string ⟨#[]⟩, .int .i64 0, .int .i64 1, .int .i64 3, .string ⟨#[]⟩, .slice none 0 0]) ∧ (d 8 = true → d 7 = true ∧ vs 8 = .agg #[.int .i64 o, .string ⟨#[]⟩, .string ⟨#[]⟩, .int .i64 0, .int .i64 0, .int .i64 0, .string ⟨#[]⟩, vs 7]) ∧ (d 9 = true → ∃ g, vs 9 = .pointer (some ⟨g, 0, none⟩) ∧ wr.heap.size ≤ g ∧ Blk W g 26 #[.int .i64 0, .string ⟨#[]⟩, .string ⟨#[]⟩, .int .i64 0, .int .i64 0, .int .i64 0, .string ⟨#[]⟩, .slice none 0 0]) ∧ (d 7 = true → d 9 = true → ∀ g g', vs 7 = .slice (some ⟨g, 0, none⟩) 2 2 → vs 9 = .pointer (some ⟨g', 0, none⟩) → g ≠ g')) (by decide +kernel) (fun d vs W h => h.1) ⟨hb, fun h => (by cases h), fun h => (by cases h), fun h => (by cases h), fun h => (by cases h), fun h => (by cases h)⟩ ?_ ?_
      · refine List.forall_mem_cons.2 ⟨?_, List.forall_mem_cons.2 ⟨?_, List.forall_mem_cons.2 ⟨?_, List.forall_mem_cons.2 ⟨?_, List.forall_mem_nil _⟩⟩⟩⟩
        · refine ⟨⟨some 45, _, _, _, _, _⟩, rfl, rfl, fun d vs W K hI hd hdep hK => ?_⟩
          obtain ⟨hbI, i6, i7, i8, i9, ine⟩ := hI
          simp only [puts, List.foldl_cons, List.foldl_nil, Act.put, List.setIfInBounds_toArray, List.set_cons_zero, List.set_cons_succ, Nat.reduceAdd, Nat.reduceSub, Nat.reduceLT, if_true, if_false, reduceIte] at hK ⊢
          go_simp
          refine (number_any 3 W).mono ?_
          rintro e W' ⟨rfl, hw⟩
          exact hK _ W' ⟨hbI.trans (hw.mono hbI.size), fun _ => rfl, fun h => let ⟨g, e, hg, hk⟩ := i7 h; ⟨g, e, hg, hk.below hw⟩, i8, fun h => let ⟨g, e, hg, hk⟩ := i9 h; ⟨g, e, hg, hk.below hw⟩, ine⟩
        · refine ⟨⟨some 46, _, _, _, _, _⟩, rfl, rfl, fun d vs W K hI hd hdep hK => ?_⟩
          obtain ⟨hbI, i6, i7, i8, i9, ine⟩ := hI
          simp only [puts, List.foldl_cons, List.foldl_nil, Act.put, List.setIfInBounds_toArray, List.set_cons_zero, List.set_cons_succ, Nat.reduceAdd, Nat.reduceSub, Nat.reduceLT, if_true, if_false, reduceIte] at hK ⊢
          have v6 := i6 (hdep 6 (by decide) (by decide +kernel))
          simp only [v6] at hK ⊢
          go_simp
          refine hK (.slice (some ⟨W.heap.size, 0, none⟩) 2 2) _ ⟨hbI.alloc hbI.size _, i6, fun _ => ⟨_, rfl, hbI.size, Blk.new _ _ _⟩, ?_, fun h => let ⟨g, e, hg, hk⟩ := i9 h; ⟨g, e, hg, hk.alloc _⟩, ?_⟩
          · intro h
            have h2 := (i8 h).1
            rw [hd] at h2
            cases h2
          · intro _ h9 g g' e7 e9 he
            obtain ⟨g2, e2, hg2, hk2⟩ := i9 h9
            have e9' : vs 9 = .pointer (some ⟨g', 0, none⟩) := e9
            rw [e2] at e9'
            have e7' : Value.slice (some ⟨W.heap.size, 0, none⟩) 2 2 = .slice (some ⟨g, 0, none⟩) 2 2 := e7
            injection e7' with e7'
            injection e7' with e7'
            injection e7' with e7'
            injection e9' with e9'
            injection e9' with e9'
            injection e9' with e9'
            have := hk2.lt
            omega
        · refine ⟨⟨some 47, _, _, _, _, _⟩, rfl, rfl, fun d vs W K hI hd hdep hK => ?_⟩
          obtain ⟨hbI, i6, i7, i8, i9, ine⟩ := hI
          simp only [puts, List.foldl_cons, List.foldl_nil, Act.put, List.setIfInBounds_toArray, List.set_cons_zero, List.set_cons_succ, Nat.reduceAdd, Nat.reduceSub, Nat.reduceLT, if_true, if_false, reduceIte] at hK ⊢
          obtain ⟨g, v7, hg, hk⟩ := i7 (hdep 7 (by decide) (by decide +kernel))
          simp only [v7] at hK ⊢
          go_simp
          refine (node_any o (some ⟨g, 0, none⟩) 2 2 W).mono ?_
          rintro e W' ⟨rfl, hw⟩
          refine hK _ W' ⟨hbI.trans (hw.mono hbI.size), i6, fun h => let ⟨g, e, hg, hk⟩ := i7 h; ⟨g, e, hg, hk.below hw⟩, ?_, fun h => let ⟨g, e, hg, hk⟩ := i9 h; ⟨g, e, hg, hk.below hw⟩, ine⟩
          intro _
          refine ⟨hdep 7 (by decide) (by decide +kernel), ?_⟩
          show Value.agg #[.int .i64 o, .string ⟨#[]⟩, .string ⟨#[]⟩, .int .i64 0, .int .i64 0, .int .i64 0, .string ⟨#[]⟩, .slice (some ⟨g, 0, none⟩) 2 2] = .agg #[.int .i64 o, .string ⟨#[]⟩, .string ⟨#[]⟩, .int .i64 0, .int .i64 0, .int .i64 0, .string ⟨#[]⟩, vs 7]
          rw [v7]
        · refine ⟨⟨some 8, _, _, _, _, _⟩, rfl, rfl, fun d vs W K hI hd hdep hK => ?_⟩
          obtain ⟨hbI, i6, i7, i8, i9, ine⟩ := hI
          simp only [puts, List.foldl_cons, List.foldl_nil, Act.put, List.setIfInBounds_toArray, List.set_cons_zero, List.set_cons_succ, Nat.reduceAdd, Nat.reduceSub, Nat.reduceLT, if_true, if_false, reduceIte] at hK ⊢
          go_simp
          refine hK (.pointer (some ⟨W.heap.size, 0, none⟩)) _ ⟨hbI.alloc hbI.size _, i6, fun h => let ⟨g, e, hg, hk⟩ := i7 h; ⟨g, e, hg, hk.alloc _⟩, i8, fun _ => ⟨_, rfl, hbI.size, Blk.new _ _ _⟩, ?_⟩
          intro h7 _ g g' e7 e9 he
          obtain ⟨g2, e2, hg2, hk2⟩ := i7 h7
          have e7' : vs 7 = .slice (some ⟨g, 0, none⟩) 2 2 := e7
          rw [e2] at e7'
          have e9' : Value.pointer (some ⟨W.heap.size, 0, none⟩) = .pointer (some ⟨g', 0, none⟩) := e9
          injection e7' with e7'
          injection e7' with e7'
          injection e7' with e7'
          injection e9' with e9'
          injection e9' with e9'
          injection e9' with e9'
          have := hk2.lt
          omega
      · intro d vs W hd hI
        obtain ⟨hbI, i6, i7, i8, i9, ine⟩ := hI
        obtain ⟨g1, v7, hg1, q1⟩ := i7 (hd 7 (by decide))
        have v6 := i6 (hd 6 (by decide))
        have v8 := (i8 (hd 8 (by decide))).2
        obtain ⟨g2, v9, hg2, q2⟩ := i9 (hd 9 (by decide))
        have hne : g1 ≠ g2 := ine (hd 7 (by decide)) (hd 9 (by decide)) _ _ v7 v9
        rw [v7] at v8
        clear ine i6 i7 i8 i9 hd
        simp only [puts, List.foldl_cons, List.foldl_nil, Act.put, List.setIfInBounds_toArray, List.set_cons_zero, List.set_cons_succ, Nat.reduceAdd, Nat.reduceSub, Nat.reduceLT, if_true, if_false, reduceIte]
        simp only [v6, v7, v8, v9]
        clear v6 v7 v8 v9
        have HBW := Lib.hid (HB.out.trans (hbI.mono HB.out.size))
        have KX := Lib.hid (KW.out.below hbI)
        have hwl : w.heap.size < wr.heap.size := KW.out.lt
        clear hbI hb KW_0 KW_1 KW_2 KW_3 KW_4 KW_5 KW_6 KW_7 KW_8 KW_9
        have Q2 := Lib.hid (q2.setRow (ds := #[.int .i64 o, .string ⟨#[]⟩, .string ⟨#[]⟩, .int .i64 0, .int .i64 0, .int .i64 0, .string ⟨#[]⟩, .slice (some ⟨g1, 0, none⟩) 2 2]))
        have gr := grown_row W g2 #[.int .i64 o, .string ⟨#[]⟩, .string ⟨#[]⟩, .int .i64 0, .int .i64 0, .int .i64 0, .string ⟨#[]⟩, .slice (some ⟨g1, 0, none⟩) 2 2]
        have Q1 := Lib.hid (show Blk (W.setRow g2 #[.int .i64 o, .string ⟨#[]⟩, .string ⟨#[]⟩, .int .i64 0, .int .i64 0, .int .i64 0, .string ⟨#[]⟩, .slice (some ⟨g1, 0, none⟩) 2 2]) g1 26 #[.int .i64 x.op, .string x.tb, .string x.nm, .int .i64 x.ix, .int .i64 x.v.k, .int .i64 x.v.n, .string x.v.s, .slice x.A x.args.length x.c, .int .i64 1, .string ⟨#[]⟩, .string ⟨#[]⟩, .int .i64 0, .int .i64 1, .int .i64 3, .string ⟨#[]⟩, .slice none 0 0] from (gr.block _ q1.lt (by simp; omega)).trans q1)
        have KY := Lib.hid (show Blk (W.setRow g2 #[.int .i64 o, .string ⟨#[]⟩, .string ⟨#[]⟩, .int .i64 0, .int .i64 0, .int .i64 0, .string ⟨#[]⟩, .slice (some ⟨g1, 0, none⟩) 2 2]) w.heap.size 31 #[.int .i64 x.op, .string x.tb, .string x.nm, .int .i64 x.ix, .int .i64 x.v.k, .int .i64 x.v.n, .string x.v.s, .slice x.A x.args.length x.c, .slice A0 n0 c0, .slice A n c] from (gr.block _ KX.out.lt (by simp; omega)).trans KX.out)
        have HBY := Lib.hid (HBW.out.grown gr HBW.out.size (fun j hj => by injection hj with hj; omega))
        clear gr
        refine wpList_store_row (o := ⟨none, _, _, _, _, _⟩) rfl 26 _ _ rfl g2 #[.int .i64 o, .string ⟨#[]⟩, .string ⟨#[]⟩, .int .i64 0, .int .i64 0, .int .i64 0, .string ⟨#[]⟩, .slice (some ⟨g1, 0, none⟩) 2 2] rfl rfl 26 _ q2 (by kernel_rfl) rfl (by simp [Value.oneCell']) ?_
        generalize W.setRow g2 #[.int .i64 o, .string ⟨#[]⟩, .string ⟨#[]⟩, .int .i64 0, .int .i64 0, .int .i64 0, .string ⟨#[]⟩, .slice (some ⟨g1, 0, none⟩) 2 2] = y at *
        clear q1 q2 KX HBW hg1 hg2 hne KW HB
        obtain ⟨z, hz⟩ : ∃ z : Ex, z = .mk o ⟨#[]⟩ ⟨#[]⟩ 0 nul (some ⟨g1, 0, none⟩) 2 [x, .mk 1 ⟨#[]⟩ ⟨#[]⟩ 0 ⟨1, 3, ⟨#[]⟩⟩ none 0 []] := ⟨_, rfl⟩
        have HZA := Lib.hid (show ∀ W', Below y.heap.size y W' → ExAt W' z from fun W' hW' => by
          rw [hz]
          refine .mk _ ⟨by simp [Ex.args, Ex.cells], fun _ => ⟨g1, 0, rfl, Nat.lt_of_lt_of_le Q1.out.lt hW'.size, fun j u hj => ?_⟩⟩ (by simp [Ex.args]) nul_ok ?_
          · rw [Nat.zero_add, (Q1.out.below hW').cell]
            simpa [Ex.args, Ex.cells, Ex.op, Ex.tb, Ex.nm, Ex.ix, Ex.v, Ex.A, Ex.c] using hj
          · intro q hq
            have hq2 : q = x ∨ q = .mk 1 ⟨#[]⟩ ⟨#[]⟩ 0 ⟨1, 3, ⟨#[]⟩⟩ none 0 [] := by simpa [Ex.args] using hq
            rcases hq2 with rfl | rfl
            · exact HXA.out W' (HBY.out.trans (hW'.mono HBY.out.size))
            · exact .mk _ ⟨rfl, fun h => absurd h (Nat.lt_irrefl 0)⟩ (Nat.zero_le _) ⟨by decide, by decide, by decide, by decide, by decide⟩ (fun q hq => by cases hq))
        have HZS := Lib.hid (show ExSm z by
          rw [hz]
          refine .mk _ (by simp [Ex.args]) (fun q hq => ?_)
          have hq2 : q = x ∨ q = .mk 1 ⟨#[]⟩ ⟨#[]⟩ 0 ⟨1, 3, ⟨#[]⟩⟩ none 0 [] := by simpa [Ex.args] using hq
          rcases hq2 with rfl | rfl
          · exact HSM.out
          · exact .mk _ (Nat.zero_le _) (fun q hq => by cases hq))
        have HZC := Lib.hid (show condM R z = 2 by
          rw [hz, cond_two _ _ _ _ _ _ _ _ _ _ (by have := HO.out; omega) (by have := HO.out; omega), HEV.out, HE.out]
          exact cmp_nul _ _)
        have CC := Lib.hid (fun W' (hW' : Below y.heap.size y W') => CC0.out z HZS.out W' (HBY.out.trans (hW'.mono HBY.out.size)) (HZA.out W' hW'))
        have HZG := Lib.hid (show z.agg = .agg #[.int .i64 o, .string ⟨#[]⟩, .string ⟨#[]⟩, .int .i64 0, .int .i64 0, .int .i64 0, .string ⟨#[]⟩, .slice (some ⟨g1, 0, none⟩) 2 2] by rw [hz]; rfl)
        simp only [HZC.out, HZG.out] at CC
        have he := HE.out
        subst he
        have n0 : nul.k = 0 := rfl
        have n1 : nul.n = 0 := rfl
        have n2 : nul.s = ⟨#[]⟩ := rfl
        simp only [n0, n1, n2] at CV
        clear HZA HZS HZC HZG hz CC0 Q1 n0 n1 n2 HXA HEV HRa
        have KY_0 : y.cell? ⟨w.heap.size, 0, none⟩ = some (.int .i64 x.op) := KY.out.cell 0
        have KY_1 : y.cell? ⟨w.heap.size, 1, none⟩ = some (.string x.tb) := KY.out.cell 1
        have KY_2 : y.cell? ⟨w.heap.size, 2, none⟩ = some (.string x.nm) := KY.out.cell 2
        have KY_3 : y.cell? ⟨w.heap.size, 3, none⟩ = some (.int .i64 x.ix) := KY.out.cell 3
        have KY_4 : y.cell? ⟨w.heap.size, 4, none⟩ = some (.int .i64 x.v.k) := KY.out.cell 4
        have KY_5 : y.cell? ⟨w.heap.size, 5, none⟩ = some (.int .i64 x.v.n) := KY.out.cell 5
        have KY_6 : y.cell? ⟨w.heap.size, 6, none⟩ = some (.string x.v.s) := KY.out.cell 6
        have KY_7 : y.cell? ⟨w.heap.size, 7, none⟩ = some (.slice x.A x.args.length x.c) := KY.out.cell 7
        have KY_8 : y.cell? ⟨w.heap.size, 8, none⟩ = some (.slice A0 n0 c0) := KY.out.cell 8
        have KY_9 : y.cell? ⟨w.heap.size, 9, none⟩ = some (.slice A n c) := KY.out.cell 9
        have KY_l : w.heap.size < y.heap.size := KY.out.lt
        have p0 : y.cell? ⟨g2, 0, none⟩ = some (.int .i64 o) := Q2.out.cell 0
        have p1 : y.cell? ⟨g2, 1, none⟩ = some (.string ⟨#[]⟩) := Q2.out.cell 1
        have p2 : y.cell? ⟨g2, 2, none⟩ = some (.string ⟨#[]⟩) := Q2.out.cell 2
        have p3 : y.cell? ⟨g2, 3, none⟩ = some (.int .i64 0) := Q2.out.cell 3
        have p4 : y.cell? ⟨g2, 4, none⟩ = some (.int .i64 0) := Q2.out.cell 4
        have p5 : y.cell? ⟨g2, 5, none⟩ = some (.int .i64 0) := Q2.out.cell 5
        have p6 : y.cell? ⟨g2, 6, none⟩ = some (.string ⟨#[]⟩) := Q2.out.cell 6
        have p7 : y.cell? ⟨g2, 7, none⟩ = some (.slice (some ⟨g1, 0, none⟩) 2 2) := Q2.out.cell 7
        go_wp2_with fail
        refine (CV.out _ HBY.out).mono ?_
        rintro e y1 ⟨rfl, hb⟩
        have HB8 := Lib.hid (HBY.out.trans (hb.mono HBY.out.size))
        have K8 := Lib.hid (KY.out.below hb)
        have P8 := Lib.hid (show Blk y1 g2 26 #[.int .i64 o, .string ⟨#[]⟩, .string ⟨#[]⟩, .int .i64 0, .int .i64 0, .int .i64 0, .string ⟨#[]⟩, .slice (some ⟨g1, 0, none⟩) 2 2] from Q2.out.below hb)
        have HY := Lib.hid hb
        clear hb p0 p1 p2 p3 p4 p5 p6 p7
        clear KY_0 KY_1 KY_2 KY_3 KY_4 KY_5 KY_6 KY_7 KY_8 KY_9 KY_l
        have K8_0 : y1.cell? ⟨w.heap.size, 0, none⟩ = some (.int .i64 x.op) := K8.out.cell 0
        have K8_1 : y1.cell? ⟨w.heap.size, 1, none⟩ = some (.string x.tb) := K8.out.cell 1
        have K8_2 : y1.cell? ⟨w.heap.size, 2, none⟩ = some (.string x.nm) := K8.out.cell 2
        have K8_3 : y1.cell? ⟨w.heap.size, 3, none⟩ = some (.int .i64 x.ix) := K8.out.cell 3
        have K8_4 : y1.cell? ⟨w.heap.size, 4, none⟩ = some (.int .i64 x.v.k) := K8.out.cell 4
        have K8_5 : y1.cell? ⟨w.heap.size, 5, none⟩ = some (.int .i64 x.v.n) := K8.out.cell 5
        have K8_6 : y1.cell? ⟨w.heap.size, 6, none⟩ = some (.string x.v.s) := K8.out.cell 6
        have K8_7 : y1.cell? ⟨w.heap.size, 7, none⟩ = some (.slice x.A x.args.length x.c) := K8.out.cell 7
        have K8_8 : y1.cell? ⟨w.heap.size, 8, none⟩ = some (.slice A0 n0 c0) := K8.out.cell 8
        have K8_9 : y1.cell? ⟨w.heap.size, 9, none⟩ = some (.slice A n c) := K8.out.cell 9
        have K8_l : w.heap.size < y1.heap.size := K8.out.lt
        have p0 : y1.cell? ⟨g2, 0, none⟩ = some (.int .i64 o) := P8.out.cell 0
        have p1 : y1.cell? ⟨g2, 1, none⟩ = some (.string ⟨#[]⟩) := P8.out.cell 1
        have p2 : y1.cell? ⟨g2, 2, none⟩ = some (.string ⟨#[]⟩) := P8.out.cell 2
        have p3 : y1.cell? ⟨g2, 3, none⟩ = some (.int .i64 0) := P8.out.cell 3
        have p4 : y1.cell? ⟨g2, 4, none⟩ = some (.int .i64 0) := P8.out.cell 4
        have p5 : y1.cell? ⟨g2, 5, none⟩ = some (.int .i64 0) := P8.out.cell 5
        have p6 : y1.cell? ⟨g2, 6, none⟩ = some (.string ⟨#[]⟩) := P8.out.cell 6
        have p7 : y1.cell? ⟨g2, 7, none⟩ = some (.slice (some ⟨g1, 0, none⟩) 2 2) := P8.out.cell 7
        go_wp2_with fail
        refine (CC.out _ HY.out).mono ?_
        rintro e y2 ⟨rfl, hb⟩
        have HB9 := Lib.hid (HB8.out.trans (hb.mono HB8.out.size))
        clear hb
        go_wp2
        go_ret
        exact ⟨rfl, HB9.out⟩

theorem u8_bdz {n : Int} (h : (Lit.int .u8 n).wf = true) : 0 ≤ n ∧ n ≤ 255 := by
  have h1 : IntKind.u8.min = 0 := rfl
  have h2 : IntKind.u8.max = 255 := rfl
  simp only [Lit.wf, Bool.and_eq_true, decide_eq_true_eq, h1, h2] at h
  exact h
set_option maxRecDepth 100000 in
theorem evaluateNull_lifted (os : Os) (started : os.Started) (H : Type) (enc : TypeId × Value → H) (F : Stop.Interp) :
    ReturnsInHanded {} Try.checked os 8 .any ((Rows.OpenSpec.upto Rows.evaluateNullSpec).pre6 enc Try.prog Try.f8 Rows.evaluateNullUptoRow.domain false) (((Rows.OpenSpec.upto Rows.evaluateNullSpec).at F).post enc Try.prog Try.f8 false true false false) := by
  refine law_lifted_upto (C := Try.checked) (B := 4) Try.own started (by kernel_rfl) Try.func8
    (OpenSpec.witness (enc := enc) (C := Try.checked) (s := Rows.OpenSpec.upto Rows.evaluateNullSpec) (k := Rows.uptoSmall) rfl false ⟨#[], #[.agg #[.int .i64 0, .string ⟨#[]⟩, .string ⟨#[]⟩, .int .i64 0, .int .i64 0, .int .i64 0, .string ⟨#[]⟩, .slice none 0 0, .slice none 0 0, .slice none 0 0], .int .u8 0], []⟩ 8 (by kernel_rfl) (by kernel_rfl) (by kernel_rfl)
      (x := ([.agg [.agg [.lit (.int .i64 0), .lit (.string []), .lit (.string []), .lit (.int .i64 0), .agg [.lit (.int .i64 0), .lit (.int .i64 0), .lit (.string [])], .nil], .nil, .nil], .lit (.int .u8 0)], [], [])) (by kernel_rfl) rfl (by kernel_rfl))
    Try.laidOut (by kernel_rfl) rfl rfl rfl Try.underlying4 (fun ds h => match ds, h with | [_, _], _ => rfl) ?_
  intro W base args ds ps hval hA hlt hsz hbk
  rw [Try.params8] at hA hval hsz
  obtain ⟨v0, vs0, d0, ds0, p0, q0, hargs, rfl, rfl, h0, r0⟩ := trodAll_cons hA
  obtain ⟨v1, vs1, d1, ds1, p1, q1, rfl, rfl, rfl, h1, r1⟩ := trodAll_cons r0
  obtain ⟨rfl, rfl, rfl⟩ := trodAll_nil r1
  obtain rfl : args = #[v0, v1] := by cases args; simp_all
  obtain ⟨L0, R0, x0, A0, B0, n0, c0, m0, e0, rfl, k0, kL0, kR0, kn0, ko0, -, -⟩ := open_case (hval 0 31 v0 rfl rfl) h0 (fun x hx => hlt x (by simp [hx])) hsz (j := 0) rfl rfl
  obtain ⟨a1, rfl, rfl, rfl, w1⟩ := open_int Try.underlying5 (hval 1 5 v1 rfl rfl) h1
  obtain ⟨l1, g1⟩ := u8_bdz w1
  have hb := case_bulk k0 h0
  simp only [Rows.uptoBulkAll] at hbk
  exact evaluateNull_walk L0 R0 x0 A0 B0 n0 c0 m0 e0 a1 W k0 kL0 kR0 kn0 ko0 (by omega) l1 g1
theorem evaluateNull_proved : Rows.EvaluateNullUptoSaid :=
  OpenClaim.holds_of_cond 8 Try.f8 rfl rfl rfl rfl rfl rfl rfl ⟨rfl, rfl, rfl, rfl, rfl⟩ rfl rfl rfl rfl rfl (by kernel_rfl) Try.func8 (by kernel_rfl)
    (of_decide_eq_true (by kernel_rfl)) (by unfold Func.isWrapper; first | (rw [if_pos (by decide +kernel)]; kernel_rfl) | (rw [if_neg (by decide +kernel)]; exact ⟨rfl, rfl⟩))
    (fun os started H enc _ F => evaluateNull_lifted os started H enc F)
end Go.Proofs.Ytfhbffgnpedaeaa
