/- The reference: whether every number stays within two to the sixtieth. -/
import Derived.Test.YtfhbffgnpedaeaaEtx
namespace Go.Proofs.Ytfhbffgnpedaeaa
open Go.ChangeShapes Go.WideShapes Go.ChangeAt Go.RowKit Go.ChangeMaps

mutual
def bnB (L : List Va) : Ex → Bool
  | .mk op tb nm ix v A c args => !(decide (tyM L (.mk op tb nm ix v A c args) = 1) && decide (bdM (.mk op tb nm ix v A c args) > 1152921504606846976)) && bnL L args
def bnL (L : List Va) : List Ex → Bool
  | [] => true
  | a :: l => bnB L a && bnL L l
end
theorem bnB_eq (L : List Va) (x : Ex) : bnB L x = (!(decide (tyM L x = 1) && decide (bdM x > 1152921504606846976)) && bnL L x.args) := by cases x; rw [bnB]; rfl
theorem bnL_drop (L : List Va) (l : List Ex) (i : Nat) (h : i < l.length) : bnL L (l.drop i) = (bnB L l[i] && bnL L (l.drop (i + 1))) := by
  rw [List.drop_eq_getElem_cons h, bnL]
set_option maxRecDepth 100000 in
set_option maxHeartbeats 2000000 in
theorem bounded_any (L : List Va) (A0 : Option Addr) (n0 c0 : Nat) (x : Ex) : ∀ w, ExAt w x → Vas w A0 n0 L → Calls Try.prog 44 #[x.agg, .slice A0 n0 c0] w fun e w' => e = .returned (.bool (bnB L x)) ∧ Below w.heap.size w w' := by
  refine Ex.ind (p := fun x => ∀ w, ExAt w x → Vas w A0 n0 L → Calls Try.prog 44 #[x.agg, .slice A0 n0 c0] w fun e w' => e = .returned (.bool (bnB L x)) ∧ Below w.heap.size w w') (fun x ih => ?_) x
  intro w h hL
  have HIH := Lib.hid (fun y hy W (hW : Below w.heap.size w W) => ih y hy W ((h.arg y hy).keep hW) (hL.below hW))
  have CT := Lib.hid (fun W (hW : Below w.heap.size w W) => Type_any L A0 n0 c0 x W (h.keep hW) (hL.below hW))
  have CD := Lib.hid (fun (ht : tyM L x = 1) W (hW : Below w.heap.size w W) => Bound_any (.slice A0 n0 c0) x (ty_bok L x (.inr ht)) W (h.keep hW))
  have HA := Lib.hid h.at
  have hlen := h.len
  obtain ⟨r, hr⟩ : ∃ r, bnB L x = r := ⟨_, rfl⟩
  rw [hr]
  rw [bnB_eq] at hr
  obtain ⟨t, ht⟩ : ∃ t, tyM L x = t := ⟨_, rfl⟩
  obtain ⟨bd, hbd⟩ : ∃ t, bdM x = t := ⟨_, rfl⟩
  simp only [ht, hbd] at CT CD hr
  have HR := Lib.hid hr
  clear hr ih h ht hbd hL
  unfold Ex.agg at *
  obtain ⟨V, hV⟩ : ∃ V : Value, .slice A0 n0 c0 = V := ⟨_, rfl⟩
  rw [hV] at CT CD HIH ⊢
  clear hV
  obtain ⟨W0, hW0⟩ : ∃ W, W = w.alloc (.cells #[.int .i64 x.op, .string x.tb, .string x.nm, .int .i64 x.ix, .int .i64 x.v.k, .int .i64 x.v.n, .string x.v.s, .slice x.A x.args.length x.c] 26) := ⟨_, rfl⟩
  have HB0 := Lib.hid (show Below w.heap.size w W0 by rw [hW0]; exact (Below.refl _ w).alloc (Nat.le_refl _) _)
  have K := Lib.hid (show Blk W0 w.heap.size 26 #[.int .i64 x.op, .string x.tb, .string x.nm, .int .i64 x.ix, .int .i64 x.v.k, .int .i64 x.v.n, .string x.v.s, .slice x.A x.args.length x.c] by rw [hW0]; exact Blk.new _ _ _)
  have hl0 : w.heap.size < W0.heap.size := K.out.lt
  have k0 : W0.cell? ⟨w.heap.size, 0, none⟩ = some (.int .i64 x.op) := K.out.cell 0
  have k1 : W0.cell? ⟨w.heap.size, 1, none⟩ = some (.string x.tb) := K.out.cell 1
  have k2 : W0.cell? ⟨w.heap.size, 2, none⟩ = some (.string x.nm) := K.out.cell 2
  have k3 : W0.cell? ⟨w.heap.size, 3, none⟩ = some (.int .i64 x.ix) := K.out.cell 3
  have k4 : W0.cell? ⟨w.heap.size, 4, none⟩ = some (.int .i64 x.v.k) := K.out.cell 4
  have k5 : W0.cell? ⟨w.heap.size, 5, none⟩ = some (.int .i64 x.v.n) := K.out.cell 5
  have k6 : W0.cell? ⟨w.heap.size, 6, none⟩ = some (.string x.v.s) := K.out.cell 6
  have k7 : W0.cell? ⟨w.heap.size, 7, none⟩ = some (.slice x.A x.args.length x.c) := K.out.cell 7
  go_enter Try.func44, Try.ntmps44
  go_upto_region 1 with fail
  rw [← hW0]
  clear hW0
  obtain ⟨bb, hbb⟩ : ∃ u, (decide (t = 1) && decide (bd > 1152921504606846976)) = u := ⟨_, rfl⟩
  have HR2 := Lib.hid (show (!bb && bnL L x.args) = r by rw [← hbb]; exact HR.out)
  have HBB := Lib.hid hbb
  clear hbb HR
  go_cut [15] from 6 (fun s15 wx => s15 = .bool bb ∧ Blk wx w.heap.size 26 #[.int .i64 x.op, .string x.tb, .string x.nm, .int .i64 x.ix, .int .i64 x.v.k, .int .i64 x.v.n, .string x.v.s, .slice x.A x.args.length x.c] ∧ Below w.heap.size w wx)
  case first =>
    go_wp2_with fail
    refine (CT.out _ HB0.out).mono ?_
    rintro e w1 ⟨rfl, hb⟩
    have HB1 := Lib.hid (HB0.out.trans (hb.mono HB0.out.size))
    have K1 := Lib.hid (K.out.below hb)
    clear hb k0 k1 k2 k3 k4 k5 k6 k7
    have hl1 : w.heap.size < w1.heap.size := K1.out.lt
    have m0 : w1.cell? ⟨w.heap.size, 0, none⟩ = some (.int .i64 x.op) := K1.out.cell 0
    have m1 : w1.cell? ⟨w.heap.size, 1, none⟩ = some (.string x.tb) := K1.out.cell 1
    have m2 : w1.cell? ⟨w.heap.size, 2, none⟩ = some (.string x.nm) := K1.out.cell 2
    have m3 : w1.cell? ⟨w.heap.size, 3, none⟩ = some (.int .i64 x.ix) := K1.out.cell 3
    have m4 : w1.cell? ⟨w.heap.size, 4, none⟩ = some (.int .i64 x.v.k) := K1.out.cell 4
    have m5 : w1.cell? ⟨w.heap.size, 5, none⟩ = some (.int .i64 x.v.n) := K1.out.cell 5
    have m6 : w1.cell? ⟨w.heap.size, 6, none⟩ = some (.string x.v.s) := K1.out.cell 6
    have m7 : w1.cell? ⟨w.heap.size, 7, none⟩ = some (.slice x.A x.args.length x.c) := K1.out.cell 7
    by_cases h1 : t = 1
    case neg =>
      have e1 : (t == 1) = false := by simpa using h1
      have HF := Lib.hid (show false = bb by rw [← HBB.out, decide_eq_false h1]; rfl)
      clear h1
      go_wp2_with fail
      go_meet
      case rel => exact ⟨congrArg Value.bool HF.out, K1.out, HB1.out⟩
    have e1 : (t == 1) = true := by simpa using h1
    have CD1 := Lib.hid (CD.out h1)
    have H1 := Lib.hid h1
    clear h1
    go_wp2_with fail
    refine (CD1.out _ HB1.out).mono ?_
    rintro e w2 ⟨rfl, hb⟩
    have HB2 := Lib.hid (HB1.out.trans (hb.mono HB1.out.size))
    have K2 := Lib.hid (K1.out.below hb)
    clear hb
    by_cases h2 : bd > 1152921504606846976
    · have HF := Lib.hid (show true = bb by rw [← HBB.out, decide_eq_true H1.out, decide_eq_true h2]; rfl)
      go_wp2_with fail
      go_meet
      case rel => exact ⟨congrArg Value.bool HF.out, K2.out, HB2.out⟩
    · have HF := Lib.hid (show false = bb by rw [← HBB.out, decide_eq_false h2]; simp)
      go_wp2_with fail
      go_meet
      case rel => exact ⟨congrArg Value.bool ((show decide (1152921504606846976 < bd) = false from decide_eq_false (by omega)).trans HF.out), K2.out, HB2.out⟩
  case rest =>
    obtain ⟨rfl, K1, HB1⟩ := hcut
    have K1 := Lib.hid K1
    have HB1 := Lib.hid HB1
    clear k0 k1 k2 k3 k4 k5 k6 k7 hl0 HB0 K CT CD
    cases bb
    case true =>
      have HF := Lib.hid (show false = r by rw [← HR2.out]; rfl)
      go_wp2
      go_ret
      exact ⟨ret_bool HF.out, HB1.out⟩
    have HR := Lib.hid (show bnL L x.args = r by rw [← HR2.out]; rfl)
    clear HR2 HBB
    go_wp2
    go_loopw [5] (fun iv wr => ∃ i : Nat, iv = .int .i64 (i : Int) ∧ i ≤ x.args.length ∧ bnL L x.args = bnL L (x.args.drop i) ∧ Blk wr w.heap.size 26 #[.int .i64 x.op, .string x.tb, .string x.nm, .int .i64 x.ix, .int .i64 x.v.k, .int .i64 x.v.n, .string x.v.s, .slice x.A x.args.length x.c] ∧ Below w.heap.size w wr) (fun iv _ => x.args.length - (intOf iv).toNat)
    case atStart => exact ⟨0, rfl, Nat.zero_le _, rfl, K1.out, HB1.out⟩
    case round =>
      obtain ⟨i, rfl, hin, hall, hk, hb⟩ := hrel
      have HB := Lib.hid hb
      have HALL := Lib.hid hall
      have HK := Lib.hid hk
      clear hb hall
      by_cases hlt : i < x.args.length
      · have hlti : (i : Int) < x.args.length := by omega
        obtain ⟨b, off, hA, hbl, hc⟩ := HA.out (by omega)
        obtain ⟨c0', c1, c2, c3, c4, c5, c6, c7⟩ := hc wr HB.out i hlt
        have HD := Lib.hid (HALL.out.trans (bnL_drop L x.args i hlt))
        have CV := Lib.hid (HIH.out x.args[i] (List.getElem_mem hlt))
        have k7 : wr.cell? ⟨w.heap.size, 7, none⟩ = some (.slice (some ⟨b, off, none⟩) x.args.length x.c) := by rw [← hA]; exact hk.cell 7
        clear hc hbl hk
        have hA2 := Lib.hid hA
        rw [hA]
        clear hA
        generalize x.args[i] = y at *
        obtain ⟨vb, hvb⟩ : ∃ b, bnB L y = b := ⟨_, rfl⟩
        rw [hvb] at HD
        simp only [hvb] at CV
        clear hvb
        go_wp2_with fail
        refine (CV.out _ HB.out).mono ?_
        rintro e w2 ⟨rfl, hb⟩
        have HB2 := Lib.hid (HB.out.trans (hb.mono HB.out.size))
        have HK2 := Lib.hid (HK.out.below hb)
        clear hb
        cases vb
        · go_wp2
          go_ret
          exact ⟨ret_bool (by rw [← HR.out, HD.out]; simp), HB2.out⟩
        · go_wp2
          go_roundw
          case rel => exact ⟨i + 1, by go_num, hlt, by rw [HD.out]; rfl, (by rw [← hA2.out]; exact HK2.out), HB2.out⟩
          case measure => simp [intOf]; omega
      · have hi : i = x.args.length := by omega
        have k7 : wr.cell? ⟨w.heap.size, 7, none⟩ = some (.slice x.A x.args.length x.c) := hk.cell 7
        have HF := Lib.hid (show true = r by rw [← HR.out, HALL.out, List.drop_of_length_le (by omega)]; simp [bnL])
        subst hi
        clear hk
        go_wp2
        go_ret
        exact ⟨ret_bool HF.out, HB.out⟩
end Go.Proofs.Ytfhbffgnpedaeaa
