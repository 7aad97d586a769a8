/- The reference's Apply. -/
import Derived.Test.YthfolccofjaknaaCze
import Derived.Test.YthfolccofjaknaaCqi
import Derived.Test.YthfolccofjaknaaCay
import Derived.Test.YthfolccofjaknaaBrs
import Derived.Test.YthfolccofjaknaaBrt
import Derived.Test.YthfolccofjaknaaBrv
namespace Go.Proofs.Ythfolccofjaknaa
open Go.ChangeShapes Go.WideShapes Go.ChangeAt Go.RowKit Go.ChangeMaps

theorem emod_abs (z : Int) {d : Int} (hd : 0 < d) : (z % d).natAbs ≤ d.natAbs := by
  have h1 := Int.emod_nonneg z (show d ≠ 0 by omega)
  have h2 := Int.emod_lt_of_pos z hd
  omega
set_option maxRecDepth 100000 in
set_option maxHeartbeats 8000000 in
theorem RApply_sys (w : World) (A : Option Addr) (n c : Nat) (Q : List Iq) (Nl : Nat) (hQ : Ineqs w A n Q Nl) (wd : Nat) (hsys : ∀ q ∈ Q, q.n = wd) (hz : n = 0 → wd = 0) (hwd : wd ≤ 1000000) (s : Sp) (Ns : Nat) (hs : s.ok w Ns) (hNK : Ns + Nl + 1 ≤ 4000) (hsy : sysM (Q.map Iq.m) = true) (hm : s.n < 4294967296) :
    Calls Try.prog 20 #[.slice A n c, s.val] w (ApP w (applyM (Q.map Iq.m) (s.U.map Us.m) s.d.z) (Ns + Nl + 1)) := by
  obtain ⟨r, hr⟩ : ∃ r, applyM (Q.map Iq.m) (s.U.map Us.m) s.d.z = r := ⟨_, rfl⟩
  rw [hr]
  have HQL := Lib.hid hQ.len
  have HUL := Lib.hid hs.1.len
  have hn63 := hQ.2.1
  have HWD := Lib.hid (show widthM (Q.map Iq.m) = wd by
    cases Q with
    | nil => exact (hz hQ.len.symm).symm
    | cons q Q' =>
      show (q.L.map Bg.z).length = wd
      rw [List.length_map, (hQ.2.2 q List.mem_cons_self).1.len]
      exact hsys q List.mem_cons_self)
  have HNONE := Lib.hid (show s.d.z ≤ 0 → r = none from fun h => by rw [← hr]; unfold applyM; rw [if_pos h])
  obtain ⟨RS, hRS⟩ : ∃ x, sumM (Q.map Iq.m) (s.U.map Us.m) (List.replicate wd 0, 0) = x := ⟨_, rfl⟩
  have HSOME := Lib.hid (show ¬ s.d.z ≤ 0 → (RS = none → r = none) ∧ (∀ S, RS = some S → r = divM S s.d.z) from fun h => by
    rw [← hr]; unfold applyM; rw [if_neg h, HWD.out, hRS]
    exact ⟨fun e => by rw [e], fun S e => by rw [e]⟩)
  have HRS := Lib.hid hRS
  have HAT := Lib.hid hQ
  have HSYS := Lib.hid hsys
  have HUS := Lib.hid hs.1
  have HD := Lib.hid hs.2
  clear hr hRS hQ hsys hs
  obtain ⟨sA, sn, sc, U, sd⟩ := s
  unfold Sp.val
  dsimp only at *
  obtain ⟨sv, hsv⟩ : ∃ sv, sv = #[Value.slice sA sn sc, .bool sd.neg, .slice sd.A sd.n sd.c] := ⟨_, rfl⟩
  obtain ⟨K, hK⟩ : ∃ K, K = Ns + Nl + 1 := ⟨_, rfl⟩
  have hK2 : K ≤ 4000 := by omega
  have hKl : Ns + Nl + 1 ≤ K := by omega
  obtain ⟨M, hM⟩ : ∃ M, M = 4294967296 ^ (Ns + Nl) := ⟨_, rfl⟩
  have HFIT := Lib.hid (show ∀ (z : Int) (k : Nat), z.natAbs ≤ k * M → k ≤ sn → z.natAbs < 4294967296 ^ K from fun z k h hk => by rw [hK]; rw [hM] at h; exact fits h hk hm)
  have HM := Lib.hid hM
  have HK := Lib.hid hK
  rw [← hK]
  obtain ⟨k3, hk3⟩ : ∃ k3, k3 = w.heap.size := ⟨_, rfl⟩
  obtain ⟨k4, hk4⟩ : ∃ k4, k4 = k3 + 1 := ⟨_, rfl⟩
  obtain ⟨W1, hW1⟩ : ∃ W1, W1 = (w.alloc (.cells #[.slice sA sn sc, .bool sd.neg, .slice sd.A sd.n sd.c] 39)).alloc (.cells #[.slice none 0 0, .bool false, .slice none 0 0] 44) := ⟨_, rfl⟩
  have HB := Lib.hid (show Below w.heap.size w W1 by rw [hW1]; exact ((Below.refl _ _).alloc (Nat.le_refl _) _).alloc (by simp) _)
  have KA := Lib.hid (show Blk W1 k3 39 #[.slice sA sn sc, .bool sd.neg, .slice sd.A sd.n sd.c] by rw [hW1, hk3]; exact (Blk.new _ _ _).alloc _)
  have KB := Lib.hid (show Blk W1 k4 44 #[.slice none 0 0, .bool false, .slice none 0 0] by rw [hW1]; exact Blk.new_ (by rw [hk4, hk3]; simp) rfl)
  have hk4w : w.heap.size ≤ k4 := by omega
  have hk43 : k4 = k3 + 1 := hk4
  have hSZ : W1.heap.size = k4 + 1 := by rw [hW1]; simp; omega
  have HSZ := Lib.hid hSZ
  have CE := Lib.hid (REven_any W1 A n c Q Nl (HAT.out.below HB.out))
  rw [hsy] at CE
  clear hM hK hSZ
  go_enter Try.func20, Try.ntmps20
  go_upto_region 1 with fail
  rw [← hk3]
  try rw [← hk43]
  rw [← hW1]
  have HK43 := Lib.hid hk43
  clear hk3 hk4 hk43 hW1
  go_wp2_with fail
  refine CE.out.mono ?_
  rintro e2 w2 ⟨rfl, hb2⟩
  have HB2 := Lib.hid (HB.out.trans (hb2.mono HB.out.size))
  have KA2 := Lib.hid (KA.out.below hb2)
  have KB2 := Lib.hid (KB.out.below hb2)
  have hw2 : k4 < w2.heap.size := by have := HSZ.out; have := hb2.size; omega
  clear hb2 CE KA KB HSZ
  have CS := Lib.hid (RSign_any sd.val sd.z Ns w2 (HD.out.below HB2.out) (by omega))
  unfold Bg.val at CS
  have a1 : w2.cell? ⟨k3, 1, none⟩ = some (.bool sd.neg) := KA2.out.cell 1
  have a2 : w2.cell? ⟨k3, 2, none⟩ = some (.slice sd.A sd.n sd.c) := KA2.out.cell 2
  go_wp2_with fail
  clear a1 a2
  refine CS.out.mono ?_
  rintro e3 w3 ⟨rfl, hb3⟩
  have HB3 := Lib.hid (HB2.out.trans (hb3.mono HB2.out.size))
  have KA3 := Lib.hid (KA2.out.below hb3)
  have KB3 := Lib.hid (KB2.out.below hb3)
  have hw3 : k4 < w3.heap.size := Nat.lt_of_lt_of_le hw2 hb3.size
  clear hb3 CS KA2 KB2 hw2
  by_cases hd0 : sd.z ≤ 0
  · have HR := Lib.hid (HNONE.out hd0)
    have hs0 : sd.z.sign ≤ 0 := Int.sign_nonpos_iff.2 hd0
    have hs1 : (decide (sd.z.sign ≤ 0)) = true := decide_eq_true hs0
    generalize sd.z.sign = sg at *
    have b0 : w3.cell? ⟨k4, 0, none⟩ = some (.slice none 0 0) := KB3.out.cell 0
    have b1 : w3.cell? ⟨k4, 1, none⟩ = some (.bool false) := KB3.out.cell 1
    have b2 : w3.cell? ⟨k4, 2, none⟩ = some (.slice none 0 0) := KB3.out.cell 2
    have f0 : w3.frozen? ⟨k4, 0, none⟩ = false := Joins.unfrozen_of_block KB3.out 0
    have f1 : w3.frozen? ⟨k4, 1, none⟩ = false := Joins.unfrozen_of_block KB3.out 1
    have f2 : w3.frozen? ⟨k4, 2, none⟩ = false := Joins.unfrozen_of_block KB3.out 2
    have HS3 := Lib.hid (store3 KB3.out (.slice none 0 0) (.bool false) (.slice none 0 0))
    go_wp2
    try simp only [Exit.inBlock, Exit.then]
    refine bodyPost_ret (results_c2 rfl _ _ _ k4 _ rfl (load44 HS3.out.1 rfl)) rfl ?_
    exact ⟨HS3.out.2 _ _ HB3.out hk4w, fun _ => rfl, fun m hm => by rw [HR.out] at hm; cases hm⟩
  have HSM := Lib.hid (HSOME.out (by omega))
  have hdp : 0 < sd.z := by omega
  have HDP := Lib.hid hdp
  have hs0 : ¬ (sd.z.sign ≤ 0) := by rw [Int.sign_nonpos_iff]; exact hd0
  have hs1 : (decide (sd.z.sign ≤ 0)) = false := decide_eq_false hs0
  generalize sd.z.sign = sg at *
  clear hd0 hdp
  go_upto_if 28 with fail
  go_cut [6] from 26 (fun s6 wx => s6 = .int .i64 (wd : Int) ∧ wx = w3)
  case first =>
    by_cases hn0 : n = 0
    · have hwz := hz hn0
      have hng : ¬ ((n : Int) > 0) := by omega
      subst hwz
      clear hn0
      go_wp2_with fail
      go_meet
      case rel => exact ⟨rfl, rfl⟩
    · have hng : (n : Int) > 0 := by omega
      have hngn : 0 < n := by omega
      have h0L : 0 < Q.length := by rw [HQL.out]; omega
      obtain ⟨bQ, offQ, rfl, -, hc⟩ := at3 (fun _ => rfl) HAT.out.1 (show 0 < n by omega)
      obtain ⟨q0, q1, q2⟩ := hc w3 HB3.out 0 h0L _ _ _ rfl
      rw [Nat.zero_mul, Nat.add_zero] at q0
      rw [HSYS.out _ (List.getElem_mem h0L)] at q0
      clear q1 q2 hc
      generalize Q[0] = x0 at *
      go_wp2_with fail
      go_meet
      case rel => exact ⟨rfl, rfl⟩
  case rest =>
    obtain ⟨rfl, hwx⟩ := hcut
    replace hwx := hwx.symm
    subst hwx
    have CZ := Lib.hid (zero_any w3 wd hwd)
    go_wp2_with fail
    refine CZ.out.mono ?_
    rintro e4 w4 ⟨gz, rfl, hrz, hb4⟩
    have HB4 := Lib.hid (HB3.out.trans (hb4.mono HB3.out.size))
    have KA4 := Lib.hid (KA3.out.below hb4)
    have KB4 := Lib.hid (KB3.out.below hb4)
    have hw4 : k4 < w4.heap.size := Nat.lt_of_lt_of_le hw3 hb4.size
    have HRZ := Lib.hid (hrz.mono HB3.out.size (Nat.le_refl _))
    clear hb4 CZ hrz
    unfold Iq.val Bg.zero
    dsimp only
    obtain ⟨k6, hk6⟩ : ∃ k6, k6 = w4.heap.size := ⟨_, rfl⟩
    obtain ⟨W6, hW6⟩ : ∃ W6, W6 = w4.alloc (.cells #[.slice (some ⟨gz, 0, none⟩) wd wd, .bool false, .slice none 0 0] 44) := ⟨_, rfl⟩
    have hb6 : Below w4.heap.size w4 W6 := by rw [hW6]; exact (Below.refl _ _).alloc (Nat.le_refl _) _
    have HST6 := Lib.hid (show ST w W6 k3 k4 k6 #[.slice sA sn sc, .bool sd.neg, .slice sd.A sd.n sd.c] (some ⟨gz, 0, none⟩) (List.replicate wd Bg.zero) Bg.zero 0 from ⟨HB4.out.trans (hb6.mono HB4.out.size), KA4.out.below hb6, KB4.out.below hb6, by rw [hW6, List.length_replicate]; exact Blk.new_ hk6 rfl, NB.zero _ _, .inr ⟨gz, rfl, HRZ.out.below hb6⟩, hk4w, by have := HB4.out.size; omega, by omega⟩)
    have hw6 : k6 < W6.heap.size := HST6.out.b6.lt
    clear hb6
    obtain ⟨A0, hA0⟩ : ∃ A0, A0 = some (⟨gz, 0, none⟩ : Addr) := ⟨_, rfl⟩
    rw [← hA0] at HST6
    go_upto_region 7 with fail
    rw [← hk6, ← hW6]
    clear hk6 hW6 hs0 hs1
    have HST0 := Lib.hid (HST6.out.wide (K' := K) (Nat.zero_le _))
    have HZ0 := Lib.hid (show (List.replicate wd Bg.zero).map Bg.z = List.replicate wd 0 by rw [List.map_replicate]; rfl)
    have HL0 := Lib.hid (show (List.replicate wd Bg.zero).length = wd from List.length_replicate)
    clear hw6 HST6 hA0
    obtain ⟨L0, hL0⟩ : ∃ L, L = List.replicate wd Bg.zero := ⟨_, rfl⟩
    rw [← hL0] at HST0 HZ0 HL0
    clear hL0
    go_wp2
    go_loopw [8] (fun s8 wr => ∃ (k : Nat) (L : List Bg) (b : Bg), s8 = .int .i64 (k : Int) ∧ k ≤ sn ∧ L.length = wd ∧ sumM (Q.map Iq.m) ((U.map Us.m).drop k) (L.map Bg.z, b.z) = RS ∧ Bd (L.map Bg.z, b.z) (k * M) ∧ ST w wr k3 k4 k6 #[.slice sA sn sc, .bool sd.neg, .slice sd.A sd.n sd.c] A0 L b K) (fun s8 _ => sn - (intOf s8).toNat)
    case atStart => exact ⟨0, L0, Bg.zero, rfl, Nat.zero_le _, HL0.out, by rw [List.drop_zero, HZ0.out]; exact HRS.out, ⟨fun z hz => by rw [HZ0.out] at hz; rw [List.eq_of_mem_replicate hz]; exact Nat.zero_le _, Nat.zero_le _⟩, HST0.out⟩
    case round =>
      obtain ⟨k, L, b, rfl, hkn, hL, hsum, hbd, hst⟩ := hrel
      generalize wr = X0 at *
      have HL := Lib.hid hL
      have HSUM := Lib.hid hsum
      have HBD := Lib.hid hbd
      have HST := Lib.hid hst
      have a0 : X0.cell? ⟨k3, 0, none⟩ = some (.slice sA sn sc) := hst.b3.cell 0
      clear hL hsum hbd hst
      by_cases hlt : k < sn
      · have hki : (k : Int) < (sn : Int) := by omega
        have hk0 : (0 : Int) ≤ (k : Int) := by omega
        have hkU : k < U.length := by rw [HUL.out]; exact hlt
        obtain ⟨bU, offU, rfl, -, hcu⟩ := at3 (fun _ => rfl) HUS.out.1 (show 0 < sn by omega)
        obtain ⟨e0, e1, e2⟩ := hcu X0 HST.out.below k hkU _ _ _ rfl
        have HUB := Lib.hid (HUS.out.2.2 _ (List.getElem_mem hkU))
        have HSTEP := Lib.hid (sumM_step (Q.map Iq.m) (U.map Us.m) k (by rw [List.length_map]; exact hkU) (L.map Bg.z, b.z))
        have HSTOP := Lib.hid (sumM_stop (Q.map Iq.m) (U.map Us.m) k (by rw [List.length_map]; exact hkU) (L.map Bg.z, b.z))
        rw [List.getElem_map] at HSTEP HSTOP
        unfold Us.m at HSTEP HSTOP
        clear hcu
        generalize U[k] = u at *
        obtain ⟨ui, ub⟩ := u
        dsimp only at *
        obtain ⟨k8, hk8⟩ : ∃ k8, k8 = X0.heap.size := ⟨_, rfl⟩
        obtain ⟨X1, hX1⟩ : ∃ X1, X1 = X0.alloc (.cells #[.int .i64 ui, .bool ub.neg, .slice ub.A ub.n ub.c] 62) := ⟨_, rfl⟩
        have hb1 : Below X0.heap.size X0 X1 := by rw [hX1]; exact (Below.refl _ _).alloc (Nat.le_refl _) _
        have K8 := Lib.hid (show Blk X1 k8 62 #[.int .i64 ui, .bool ub.neg, .slice ub.A ub.n ub.c] by rw [hX1]; exact Blk.new_ hk8 rfl)
        have HST1 := Lib.hid (HST.out.keep hb1)
        clear hb1
        go_upto_region 11 with fail
        rw [← hk8, ← hX1]
        clear hk8 hX1 e0 e1 e2 a0
        have u0 : X1.cell? ⟨k8, 0, none⟩ = some (.int .i64 ui) := K8.out.cell 0
        have u1 : X1.cell? ⟨k8, 1, none⟩ = some (.bool ub.neg) := K8.out.cell 1
        have u2 : X1.cell? ⟨k8, 2, none⟩ = some (.slice ub.A ub.n ub.c) := K8.out.cell 2
        have HQM := Lib.hid (show (Q.map Iq.m).length = n by rw [List.length_map]; exact HQL.out)
        by_cases hi0 : ui < 0
        · have hi0b : (decide (ui < 0)) = true := decide_eq_true hi0
          have HRN := Lib.hid (show r = none from HSM.out.1 (HSUM.out.symm.trans (HSTOP.out (Or.inl hi0))))
          have b0 := HST1.out.b4.cell 0
          have b1 := HST1.out.b4.cell 1
          have b2 := HST1.out.b4.cell 2
          simp only [List.getElem?_toArray, List.getElem?_cons_zero, List.getElem?_cons_succ] at b0 b1 b2
          have f0 := Joins.unfrozen_of_block HST1.out.b4 0
          have f1 := Joins.unfrozen_of_block HST1.out.b4 1
          have f2 := Joins.unfrozen_of_block HST1.out.b4 2
          have HS3 := Lib.hid (store3 HST1.out.b4 (.slice none 0 0) (.bool false) (.slice none 0 0))
          go_wp2
          try simp only [Exit.inBlock, Exit.then]
          refine bodyPost_ret (results_c2 rfl _ _ _ k4 _ rfl (load44 HS3.out.1 rfl)) rfl ?_
          exact ⟨HS3.out.2 _ _ HST1.out.below hk4w, fun _ => rfl, fun m hm => by rw [HRN.out] at hm; cases hm⟩
        have hi0b : (decide (ui < 0)) = false := decide_eq_false hi0
        by_cases hi1 : ui ≥ (n : Int)
        · have hi1b : (decide ((n : Int) ≤ ui)) = true := decide_eq_true hi1
          have HRN := Lib.hid (show r = none from HSM.out.1 (HSUM.out.symm.trans (HSTOP.out (Or.inr (Or.inl (by rw [HQM.out]; exact hi1))))))
          have b0 := HST1.out.b4.cell 0
          have b1 := HST1.out.b4.cell 1
          have b2 := HST1.out.b4.cell 2
          simp only [List.getElem?_toArray, List.getElem?_cons_zero, List.getElem?_cons_succ] at b0 b1 b2
          have f0 := Joins.unfrozen_of_block HST1.out.b4 0
          have f1 := Joins.unfrozen_of_block HST1.out.b4 1
          have f2 := Joins.unfrozen_of_block HST1.out.b4 2
          have HS3 := Lib.hid (store3 HST1.out.b4 (.slice none 0 0) (.bool false) (.slice none 0 0))
          go_wp2
          try simp only [Exit.inBlock, Exit.then]
          refine bodyPost_ret (results_c2 rfl _ _ _ k4 _ rfl (load44 HS3.out.1 rfl)) rfl ?_
          exact ⟨HS3.out.2 _ _ HST1.out.below hk4w, fun _ => rfl, fun m hm => by rw [HRN.out] at hm; cases hm⟩
        have hi1b : (decide ((n : Int) ≤ ui)) = false := decide_eq_false hi1
        have hi1n : ui < (n : Int) := by omega
        have hi0n : 0 ≤ ui := by omega
        have CSU := Lib.hid (RSign_any ub.val ub.z Ns X1 (HUB.out.below HST1.out.below) (by omega))
        unfold Bg.val at CSU
        go_wp2_with fail
        clear u0 u1 u2
        refine CSU.out.mono ?_
        rintro e4 X2 ⟨rfl, hb2⟩
        have HST2 := Lib.hid (HST1.out.keep hb2)
        have K82 := Lib.hid (K8.out.below hb2)
        clear hb2 CSU
        by_cases hneg : ub.z < 0
        · have hs1 : ub.z.sign < 0 := sign_lt.2 hneg
          have hs2 : (decide (ub.z.sign < 0)) = true := decide_eq_true hs1
          have HRN0 := Lib.hid (show RS = none from HSUM.out.symm.trans (HSTOP.out (Or.inr (Or.inr hneg))))
          generalize ub.z.sign = sg2 at *
          have HRN := Lib.hid (show r = none from HSM.out.1 (HRN0.out))
          have b0 := HST2.out.b4.cell 0
          have b1 := HST2.out.b4.cell 1
          have b2 := HST2.out.b4.cell 2
          simp only [List.getElem?_toArray, List.getElem?_cons_zero, List.getElem?_cons_succ] at b0 b1 b2
          have f0 := Joins.unfrozen_of_block HST2.out.b4 0
          have f1 := Joins.unfrozen_of_block HST2.out.b4 1
          have f2 := Joins.unfrozen_of_block HST2.out.b4 2
          have HS3 := Lib.hid (store3 HST2.out.b4 (.slice none 0 0) (.bool false) (.slice none 0 0))
          go_wp2
          try simp only [Exit.inBlock, Exit.then]
          refine bodyPost_ret (results_c2 rfl _ _ _ k4 _ rfl (load44 HS3.out.1 rfl)) rfl ?_
          exact ⟨HS3.out.2 _ _ HST2.out.below hk4w, fun _ => rfl, fun m hm => by rw [HRN.out] at hm; cases hm⟩
        have HNEG := Lib.hid hneg
        have hs1 : ¬ (ub.z.sign < 0) := by rw [sign_lt]; exact hneg
        have hs2 : (decide (ub.z.sign < 0)) = false := decide_eq_false hs1
        generalize ub.z.sign = sg2 at *
        obtain ⟨iN, rfl⟩ : ∃ iN : Nat, ui = (iN : Int) := ⟨ui.toNat, by omega⟩
        have hiQ : iN < Q.length := by rw [HQL.out]; omega
        have HNX := Lib.hid ((HSTEP.out (by rw [HQM.out]; omega)).symm.trans HSUM.out)
        rw [show (Q.map Iq.m).getD (Int.toNat (iN : Int)) ([], 0) = Iq.m Q[iN] by rw [Int.toNat_natCast, List.getD_eq_getElem?_getD, List.getElem?_map, List.getElem?_eq_getElem hiQ]; rfl] at HNX
        obtain ⟨bQ, offQ, rfl, -, hcq⟩ := at3 (fun _ => rfl) HAT.out.1 (show 0 < n by omega)
        obtain ⟨q0, q1, q2⟩ := hcq X2 HST2.out.below iN hiQ _ _ _ rfl
        have HQB := Lib.hid (HAT.out.2.2 _ (List.getElem_mem hiQ)).1
        have HQB2 := Lib.hid (HAT.out.2.2 _ (List.getElem_mem hiQ)).2
        have hqn : wd = Q[iN].n := (HSYS.out _ (List.getElem_mem hiQ)).symm
        clear hcq hneg hi0 hi1 HSTEP HSTOP
        generalize Q[iN] = q at *
        obtain ⟨qA, qn, qc, qL, qb⟩ := q
        unfold Iq.m at HNX
        dsimp only at *
        subst hqn
        have HQLl := Lib.hid HQB.out.len
        obtain ⟨T, hT⟩ : ∃ T, T = List.zipWith (fun a b => a + ub.z * b) (L.map Bg.z) (qL.map Bg.z) := ⟨_, rfl⟩
        have HNX := Lib.hid (show sumM (Q.map Iq.m) ((U.map Us.m).drop (k + 1)) (T, b.z + ub.z * qb.z) = RS by rw [hT]; exact HNX.out)
        have hBq : ∀ (z : Bg), z ∈ qL → (ub.z * z.z).natAbs ≤ M := fun z hz => by rw [HM.out]; exact mul_abs HUB.out.abs (HQB.out.2.2 z hz).abs
        have HBN := Lib.hid (show Bd (T, b.z + ub.z * qb.z) ((k + 1) * M) by
          rw [hT]
          exact HBD.out.add (S := (L.map Bg.z, b.z)) (q := (qL.map Bg.z, qb.z)) (fun z hz => by obtain ⟨y, hy, rfl⟩ := List.mem_map.1 hz; exact hBq y hy) (by rw [HM.out]; exact mul_abs HUB.out.abs HQB2.out.abs))
        have HTL := Lib.hid (show T.length = wd by rw [hT, List.length_zipWith, List.length_map, List.length_map, HL.out, HQLl.out, Nat.min_self])
        have HTG := Lib.hid (show ∀ j (h1 : j < T.length) (h2 : j < L.length) (h3 : j < qL.length), T[j] = L[j].z + ub.z * qL[j].z from fun j h1 h2 h3 => by subst hT; simp)
        have HTB := Lib.hid (show (b.z + ub.z * qb.z).natAbs < 4294967296 ^ K from HFIT.out _ (k + 1) HBN.out.2 hlt)
        clear hT hBq
        obtain ⟨k9, hk9⟩ : ∃ k9, k9 = X2.heap.size := ⟨_, rfl⟩
        obtain ⟨X3, hX3⟩ : ∃ X3, X3 = X2.alloc (.cells #[.slice qA wd qc, .bool qb.neg, .slice qb.A qb.n qb.c] 44) := ⟨_, rfl⟩
        have hb3 : Below X2.heap.size X2 X3 := by rw [hX3]; exact (Below.refl _ _).alloc (Nat.le_refl _) _
        have K9 := Lib.hid (show Blk X3 k9 44 #[.slice qA wd qc, .bool qb.neg, .slice qb.A qb.n qb.c] by rw [hX3]; exact Blk.new_ hk9 rfl)
        have HST3 := Lib.hid (HST2.out.keep hb3)
        have K83 := Lib.hid (K82.out.below hb3)
        have hk96 : k6 ≠ k9 := by have := HST2.out.b6.lt; omega
        have HK96 := Lib.hid hk96
        clear hb3 hk96
        have u0 : X2.cell? ⟨k8, 0, none⟩ = some (.int .i64 (iN : Int)) := K82.out.cell 0
        go_upto_region 14 with fail
        rw [← hk9, ← hX3]
        clear hk9 hX3 q0 q1 q2 u0 hs1 hs2
        go_wp2
        go_loopw [11] (fun s65 wr2 => ∃ (j : Nat) (L' : List Bg), s65 = .int .i64 (j : Int) ∧ j ≤ wd ∧ L'.length = wd ∧ L'.map Bg.z = T.take j ++ (L.map Bg.z).drop j ∧ ST w wr2 k3 k4 k6 #[.slice (some ⟨bU, offU, none⟩) sn sc, .bool sd.neg, .slice sd.A sd.n sd.c] A0 L' b K ∧ Blk wr2 k8 62 #[.int .i64 (iN : Int), .bool ub.neg, .slice ub.A ub.n ub.c] ∧ Blk wr2 k9 44 #[.slice qA wd qc, .bool qb.neg, .slice qb.A qb.n qb.c]) (fun s65 _ => wd - (intOf s65).toNat)
        case atStart => exact ⟨0, L, rfl, Nat.zero_le _, HL.out, by rw [List.take_zero, List.drop_zero, List.nil_append], HST3.out, K83.out, K9.out⟩
        case round =>
          obtain ⟨j, L', rfl, hjn, hL', hmx, hstv, hk8v, hk9v⟩ := hrel
          generalize wr = V0 at *
          have HL' := Lib.hid hL'
          have HMX := Lib.hid hmx
          have HSTV := Lib.hid hstv
          have K8V := Lib.hid hk8v
          have K9V := Lib.hid hk9v
          clear hL' hmx hstv hk8v hk9v
          by_cases hjl : j < wd
          · have hji : (j : Int) < (wd : Int) := by omega
            have hj0 : (0 : Int) ≤ (j : Int) := by omega
            have hjq : j < qL.length := by rw [HQLl.out]; exact hjl
            have hjL : j < L.length := by rw [HL.out]; exact hjl
            have hjT : j < T.length := by rw [HTL.out]; exact hjl
            have hlTS : T.length = (L.map Bg.z).length := by rw [HTL.out, List.length_map, HL.out]
            obtain ⟨bq, offq, rfl, -, hcx⟩ := HQB.out.at (by omega)
            obtain ⟨c0, c1⟩ := hcx V0 HSTV.out.below j hjq
            have HXB := Lib.hid (HQB.out.2.2 _ (List.getElem_mem hjq))
            have HTj := Lib.hid (HTG.out j hjT hjL hjq)
            have HMS := Lib.hid (mix_set T (L.map Bg.z) j hlTS hjT)
            have HSKIP := Lib.hid (mix_skip T (L.map Bg.z) j hlTS hjT)
            rw [List.getElem_map] at HSKIP
            have HTA := Lib.hid (HFIT.out T[j] (k + 1) (HBN.out.1 _ (List.getElem_mem hjT)) hlt)
            have hDJ : j < L'.length := by rw [HL'.out]; exact hjl
            have HDZ := Lib.hid (show L'[j].z = L[j].z by
              have h1 := mix_get T (L.map Bg.z) j hlTS (by rw [List.length_map]; exact hjL)
              rw [← HMX.out, List.getElem?_map, List.getElem?_eq_getElem hDJ, List.getElem_map] at h1
              injection h1)
            clear hcx
            generalize qL[j] = x at *
            obtain ⟨g, rfl, -⟩ := HSTV.out.ro.own (by omega)
            have z60 : V0.cell? ⟨k6, 0, none⟩ = some (.slice (some ⟨g, 0, none⟩) wd wd) := by have := HSTV.out.b6.cell 0; rw [HL'.out] at this; exact this
            obtain ⟨d0, d1⟩ := HSTV.out.rw.cells j hDJ
            have u1 : V0.cell? ⟨k8, 1, none⟩ = some (.bool ub.neg) := K8V.out.cell 1
            have u2 : V0.cell? ⟨k8, 2, none⟩ = some (.slice ub.A ub.n ub.c) := K8V.out.cell 2
            have HDN := Lib.hid (show ∀ W, Below w.heap.size w W → Below V0.heap.size V0 W → NB W w.heap.size L'[j].val L'[j].z K from fun W _ hW => (HSTV.out.rw.2.2 _ (List.getElem_mem hDJ)).below hW)
            have HTJ := Lib.hid (show (L'[j].z + ub.z * x.z).natAbs < 4294967296 ^ K by rw [HDZ.out, ← HTj.out]; exact HTA.out)
            have HMS := Lib.hid (show (T.take j ++ (L.map Bg.z).drop j).set j (L'[j].z + ub.z * x.z) = T.take (j + 1) ++ (L.map Bg.z).drop (j + 1) by rw [HDZ.out, ← HTj.out]; exact HMS.out)
            clear HSKIP HDZ
            generalize L'[j] = dd at *
            have q0 : V0.cell? ⟨k9, 0, none⟩ = some (.slice (some ⟨bq, offq, none⟩) wd qc) := K9V.out.cell 0
            have HMB := Lib.hid (show (x.z * ub.z).natAbs < 4294967296 ^ (Ns + Nl) by
              rw [Int.natAbs_mul, Nat.mul_comm, Nat.pow_add]
              exact Nat.mul_lt_mul'' (BG.abs HUB.out) (BG.abs HXB.out))
            go_upto_region 17 with fail
            have hb0 : Below V0.heap.size V0 V0.drew := below_drew (Below.refl _ _)
            refine wp_region_mix 18 (fun w' => Below V0.heap.size V0 w') (by kernel_rfl) (by decide) ?_
            have HSTy := Lib.hid (HSTV.out.keep hb0)
            have K8y := Lib.hid (K8V.out.below hb0)
            have K9y := Lib.hid (K9V.out.below hb0)
            generalize V0.drew = y0 at hb0 HSTy K8y K9y ⊢
            have CM := Lib.hid (RMul_any x.val ub.val x.z ub.z (Ns + Nl) y0 ((HXB.out.below HSTy.out.below).mono (by omega)) ((HUB.out.below HSTy.out.below).mono (by omega)) (by omega))
            unfold Bg.val at CM
            refine wpM_take (i := 0) (oi := ⟨some 75, _, _, _, _, _⟩) (v := ?_) rfl (by decide +kernel) (by decide +kernel) (by decide +kernel) (fun _ _ _ h => h) (Or.inl ⟨by rfl, ?_⟩) hb0 ?_
            case refine_2 =>
              intro w' hSw
              have z60' := keepcell hSw z60
              have d0' := keepcell hSw d0
              have d1' := keepcell hSw d1
              have u1' := keepcell hSw u1
              have u2' := keepcell hSw u2
              have c0' := keepcell hSw c0
              have c1' := keepcell hSw c1
              have q0' := keepcell hSw q0
              go_simp
              try (with_reducible rfl)
            try simp only [Act.put, List.setIfInBounds_toArray, List.set_cons_zero, List.set_cons_succ]
            refine wpM_take (i := 1) (oi := ⟨some 76, _, _, _, _, _⟩) (v := ?_) rfl (by decide +kernel) (by decide +kernel) (by decide +kernel) (fun _ _ _ h => h) (Or.inl ⟨by rfl, ?_⟩) hb0 ?_
            case refine_2 =>
              intro w' hSw
              have z60' := keepcell hSw z60
              have d0' := keepcell hSw d0
              have d1' := keepcell hSw d1
              have u1' := keepcell hSw u1
              have u2' := keepcell hSw u2
              have c0' := keepcell hSw c0
              have c1' := keepcell hSw c1
              have q0' := keepcell hSw q0
              go_simp
              try (with_reducible rfl)
            try simp only [Act.put, List.setIfInBounds_toArray, List.set_cons_zero, List.set_cons_succ]
            refine wpM_take (i := 2) (oi := ⟨some 77, _, _, _, _, _⟩) (v := ?_) rfl (by decide +kernel) (by decide +kernel) (by decide +kernel) (fun _ _ _ h => h) (Or.inl ⟨by rfl, ?_⟩) hb0 ?_
            case refine_2 =>
              intro w' hSw
              have z60' := keepcell hSw z60
              have d0' := keepcell hSw d0
              have d1' := keepcell hSw d1
              have u1' := keepcell hSw u1
              have u2' := keepcell hSw u2
              have c0' := keepcell hSw c0
              have c1' := keepcell hSw c1
              have q0' := keepcell hSw q0
              go_simp
              try (with_reducible rfl)
            try simp only [Act.put, List.setIfInBounds_toArray, List.set_cons_zero, List.set_cons_succ]
            refine wpM_take (i := 3) (oi := ⟨some 78, _, _, _, _, _⟩) (v := ?_) rfl (by decide +kernel) (by decide +kernel) (by decide +kernel) (fun _ _ _ h => h) (Or.inl ⟨by rfl, ?_⟩) hb0 ?_
            case refine_2 =>
              intro w' hSw
              have z60' := keepcell hSw z60
              have d0' := keepcell hSw d0
              have d1' := keepcell hSw d1
              have u1' := keepcell hSw u1
              have u2' := keepcell hSw u2
              have c0' := keepcell hSw c0
              have c1' := keepcell hSw c1
              have q0' := keepcell hSw q0
              go_simp
              try (with_reducible rfl)
            try simp only [Act.put, List.setIfInBounds_toArray, List.set_cons_zero, List.set_cons_succ]
            refine wpM_take (i := 4) (oi := ⟨some 79, _, _, _, _, _⟩) (v := ?_) rfl (by decide +kernel) (by decide +kernel) (by decide +kernel) (fun _ _ _ h => h) (Or.inl ⟨by rfl, ?_⟩) hb0 ?_
            case refine_2 =>
              intro w' hSw
              have z60' := keepcell hSw z60
              have d0' := keepcell hSw d0
              have d1' := keepcell hSw d1
              have u1' := keepcell hSw u1
              have u2' := keepcell hSw u2
              have c0' := keepcell hSw c0
              have c1' := keepcell hSw c1
              have q0' := keepcell hSw q0
              go_simp
              try (with_reducible rfl)
            try simp only [Act.put, List.setIfInBounds_toArray, List.set_cons_zero, List.set_cons_succ]
            refine wpM_take (i := 5) (oi := ⟨some 80, _, _, _, _, _⟩) (v := ?_) rfl (by decide +kernel) (by decide +kernel) (by decide +kernel) (fun _ _ _ h => h) (Or.inl ⟨by rfl, ?_⟩) hb0 ?_
            case refine_2 =>
              intro w' hSw
              have z60' := keepcell hSw z60
              have d0' := keepcell hSw d0
              have d1' := keepcell hSw d1
              have u1' := keepcell hSw u1
              have u2' := keepcell hSw u2
              have c0' := keepcell hSw c0
              have c1' := keepcell hSw c1
              have q0' := keepcell hSw q0
              go_simp
              try (with_reducible rfl)
            try simp only [Act.put, List.setIfInBounds_toArray, List.set_cons_zero, List.set_cons_succ]
            refine wpM_take (i := 6) (oi := ⟨some 81, _, _, _, _, _⟩) (v := ?_) rfl (by decide +kernel) (by decide +kernel) (by decide +kernel) (fun _ _ _ h => h) (Or.inl ⟨by rfl, ?_⟩) hb0 ?_
            case refine_2 =>
              intro w' hSw
              have z60' := keepcell hSw z60
              have d0' := keepcell hSw d0
              have d1' := keepcell hSw d1
              have u1' := keepcell hSw u1
              have u2' := keepcell hSw u2
              have c0' := keepcell hSw c0
              have c1' := keepcell hSw c1
              have q0' := keepcell hSw q0
              go_simp
              try (with_reducible rfl)
            try simp only [Act.put, List.setIfInBounds_toArray, List.set_cons_zero, List.set_cons_succ]
            refine wpM_take (i := 7) (oi := ⟨some 82, _, _, _, _, _⟩) (v := ?_) rfl (by decide +kernel) (by decide +kernel) (by decide +kernel) (fun _ _ _ h => h) (Or.inl ⟨by rfl, ?_⟩) hb0 ?_
            case refine_2 =>
              intro w' hSw
              have z60' := keepcell hSw z60
              have d0' := keepcell hSw d0
              have d1' := keepcell hSw d1
              have u1' := keepcell hSw u1
              have u2' := keepcell hSw u2
              have c0' := keepcell hSw c0
              have c1' := keepcell hSw c1
              have q0' := keepcell hSw q0
              go_simp
              try (with_reducible rfl)
            try simp only [Act.put, List.setIfInBounds_toArray, List.set_cons_zero, List.set_cons_succ]
            refine wpM_take (i := 8) (oi := ⟨some 83, _, _, _, _, _⟩) (v := ?_) rfl (by decide +kernel) (by decide +kernel) (by decide +kernel) (fun _ _ _ h => h) (Or.inl ⟨by rfl, ?_⟩) hb0 ?_
            case refine_2 =>
              intro w' hSw
              have z60' := keepcell hSw z60
              have d0' := keepcell hSw d0
              have d1' := keepcell hSw d1
              have u1' := keepcell hSw u1
              have u2' := keepcell hSw u2
              have c0' := keepcell hSw c0
              have c1' := keepcell hSw c1
              have q0' := keepcell hSw q0
              go_simp
              try (with_reducible rfl)
            try simp only [Act.put, List.setIfInBounds_toArray, List.set_cons_zero, List.set_cons_succ]
            refine wpM_take (i := 9) (oi := ⟨some 84, _, _, _, _, _⟩) (v := ?_) rfl (by decide +kernel) (by decide +kernel) (by decide +kernel) (fun _ _ _ h => h) (Or.inl ⟨by rfl, ?_⟩) hb0 ?_
            case refine_2 =>
              intro w' hSw
              have z60' := keepcell hSw z60
              have d0' := keepcell hSw d0
              have d1' := keepcell hSw d1
              have u1' := keepcell hSw u1
              have u2' := keepcell hSw u2
              have c0' := keepcell hSw c0
              have c1' := keepcell hSw c1
              have q0' := keepcell hSw q0
              go_simp
              try (with_reducible rfl)
            try simp only [Act.put, List.setIfInBounds_toArray, List.set_cons_zero, List.set_cons_succ]
            refine wpM_take (i := 10) (oi := ⟨some 85, _, _, _, _, _⟩) (v := ?_) rfl (by decide +kernel) (by decide +kernel) (by decide +kernel) (fun _ _ _ h => h) (Or.inl ⟨by rfl, ?_⟩) hb0 ?_
            case refine_2 =>
              intro w' hSw
              have z60' := keepcell hSw z60
              have d0' := keepcell hSw d0
              have d1' := keepcell hSw d1
              have u1' := keepcell hSw u1
              have u2' := keepcell hSw u2
              have c0' := keepcell hSw c0
              have c1' := keepcell hSw c1
              have q0' := keepcell hSw q0
              go_simp
              try (with_reducible rfl)
            try simp only [Act.put, List.setIfInBounds_toArray, List.set_cons_zero, List.set_cons_succ]
            refine wpM_take (i := 11) (oi := ⟨some 86, _, _, _, _, _⟩) (v := ?_) rfl (by decide +kernel) (by decide +kernel) (by decide +kernel) (fun _ _ _ h => h) (Or.inl ⟨by rfl, ?_⟩) hb0 ?_
            case refine_2 =>
              intro w' hSw
              have z60' := keepcell hSw z60
              have d0' := keepcell hSw d0
              have d1' := keepcell hSw d1
              have u1' := keepcell hSw u1
              have u2' := keepcell hSw u2
              have c0' := keepcell hSw c0
              have c1' := keepcell hSw c1
              have q0' := keepcell hSw q0
              go_simp
              try (with_reducible rfl)
            try simp only [Act.put, List.setIfInBounds_toArray, List.set_cons_zero, List.set_cons_succ]
            refine wpM_take (i := 12) (oi := ⟨some 87, _, _, _, _, _⟩) (v := ?_) rfl (by decide +kernel) (by decide +kernel) (by decide +kernel) (fun _ _ _ h => h) (Or.inl ⟨by rfl, ?_⟩) hb0 ?_
            case refine_2 =>
              intro w' hSw
              have z60' := keepcell hSw z60
              have d0' := keepcell hSw d0
              have d1' := keepcell hSw d1
              have u1' := keepcell hSw u1
              have u2' := keepcell hSw u2
              have c0' := keepcell hSw c0
              have c1' := keepcell hSw c1
              have q0' := keepcell hSw q0
              go_simp
              try (with_reducible rfl)
            try simp only [Act.put, List.setIfInBounds_toArray, List.set_cons_zero, List.set_cons_succ]
            refine wpM_take (i := 13) (oi := ⟨some 88, _, _, _, _, _⟩) (v := ?_) rfl (by decide +kernel) (by decide +kernel) (by decide +kernel) (fun _ _ _ h => h) (Or.inl ⟨by rfl, ?_⟩) hb0 ?_
            case refine_2 =>
              intro w' hSw
              have z60' := keepcell hSw z60
              have d0' := keepcell hSw d0
              have d1' := keepcell hSw d1
              have u1' := keepcell hSw u1
              have u2' := keepcell hSw u2
              have c0' := keepcell hSw c0
              have c1' := keepcell hSw c1
              have q0' := keepcell hSw q0
              go_simp
              try (with_reducible rfl)
            try simp only [Act.put, List.setIfInBounds_toArray, List.set_cons_zero, List.set_cons_succ]
            refine wpM_take (i := 14) (oi := ⟨some 89, _, _, _, _, _⟩) (v := ?_) rfl (by decide +kernel) (by decide +kernel) (by decide +kernel) (fun _ _ _ h => h) (Or.inl ⟨by rfl, ?_⟩) hb0 ?_
            case refine_2 =>
              intro w' hSw
              have z60' := keepcell hSw z60
              have d0' := keepcell hSw d0
              have d1' := keepcell hSw d1
              have u1' := keepcell hSw u1
              have u2' := keepcell hSw u2
              have c0' := keepcell hSw c0
              have c1' := keepcell hSw c1
              have q0' := keepcell hSw q0
              go_simp
              try (with_reducible rfl)
            try simp only [Act.put, List.setIfInBounds_toArray, List.set_cons_zero, List.set_cons_succ]
            refine wpM_step (i := 15) (o := ⟨some 90, _, _, _, _, _⟩) rfl (by decide +kernel) (by decide) (fun KK hK => ?_)
            go_simp
            refine CM.out.mono ?_
            rintro e y1 ⟨v1, rfl, hv1, hb1⟩
            have hb01 : Below V0.heap.size V0 y1 := hb0.trans (hb1.mono hb0.size)
            have HSTy1 := Lib.hid (HSTy.out.keep hb1)
            have K8y1 := Lib.hid (K8y.out.below hb1)
            have K9y1 := Lib.hid (K9y.out.below hb1)
            have HV1 := Lib.hid (hv1.tight HMB.out).bg
            clear hv1 hb1
            refine hK.out _ _ hb01 ?_
            clear hK KK
            try simp only [Act.put, List.setIfInBounds_toArray, List.set_cons_zero, List.set_cons_succ]
            have HDy := Lib.hid (HDN.out y1 (HSTV.out.below.trans (hb01.mono HSTV.out.below.size)) hb01)
            have CA := Lib.hid (RAdd_any dd.val v1 dd.z (x.z * ub.z) K y1 HDy.out.bg (HV1.out.mono (by omega)) (by omega))
            unfold Bg.val at CA
            refine wpM_step (i := 16) (o := ⟨some 91, _, _, _, _, _⟩) rfl (by decide +kernel) (by decide) (fun KK hK => ?_)
            go_simp
            refine CA.out.mono ?_
            rintro e y2 ⟨v2, rfl, hv2, hb2⟩
            have hb02 : Below V0.heap.size V0 y2 := hb01.trans (hb2.mono hb01.size)
            have HSTy2 := Lib.hid (HSTy1.out.keep hb2)
            have K8y2 := Lib.hid (K8y1.out.below hb2)
            have K9y2 := Lib.hid (K9y1.out.below hb2)
            rw [Int.mul_comm x.z ub.z] at hv2
            have HV2 := Lib.hid ((hv2.mono HSTy1.out.below.size (Nat.le_refl _)).tight HTJ.out)
            clear hv2 hb2
            refine hK.out _ _ hb02 ?_
            clear hK KK
            try simp only [Act.put, List.setIfInBounds_toArray, List.set_cons_zero, List.set_cons_succ]
            obtain ⟨sb, Av, nv, cv, rfl⟩ := HV2.out.expose
            refine wpM_take (i := 17) (oi := ⟨some 92, _, _, _, _, _⟩) (v := ?_) rfl (by decide +kernel) (by decide +kernel) (by decide +kernel) (fun _ _ _ h => h) (Or.inl ⟨by rfl, ?_⟩) hb02 ?_
            case refine_2 =>
              intro w' hSw
              have z60' := keepcell hSw z60
              have d0' := keepcell hSw d0
              have d1' := keepcell hSw d1
              have u1' := keepcell hSw u1
              have u2' := keepcell hSw u2
              have c0' := keepcell hSw c0
              have c1' := keepcell hSw c1
              have q0' := keepcell hSw q0
              go_simp
              try (with_reducible rfl)
            try simp only [Act.put, List.setIfInBounds_toArray, List.set_cons_zero, List.set_cons_succ]
            refine wpM_done (by decide +kernel) ?_
            simp only [List.drop_succ_cons, List.drop_zero]
            clear z60 d0 d1 u1 u2 c0 c1 q0
            obtain ⟨⟨uu0, g0⟩, z0, ⟨uu1, g1⟩, z1⟩ := (HSTy2.out.rw).ready j (by rw [HL'.out]; exact hjl) sb
            have HSTF := Lib.hid (HSTy2.out.setL rfl j (by rw [HL'.out]; exact hjl) ⟨sb, Av, nv, cv, dd.z + ub.z * x.z⟩ HV2.out)
            have hr37 := (HSTy2.out.rw).2.1
            have hr37b : Blk (y2.setCell ⟨g, j * 2, none⟩ (.bool sb)) g 37 _ := Joins.block_setCell hr37 _
            have K8F := Lib.hid ((K8y2.out.set_other hr37 (by decide) (j * 2) (.bool sb)).set_other hr37b (by decide) (j * 2 + 1) (.slice Av nv cv))
            have K9F := Lib.hid ((K9y2.out.set_other hr37 (by decide) (j * 2) (.bool sb)).set_other hr37b (by decide) (j * 2 + 1) (.slice Av nv cv))
            clear hr37 hr37b
            go_wp2
            go_roundw
            case rel => exact ⟨j + 1, _, by go_num, hjl, by rw [List.length_set]; exact HL'.out, by rw [List.map_set, HMX.out]; exact HMS.out, HSTF.out, K8F.out, K9F.out⟩
            case measure => simp [intOf]; omega
          · obtain rfl : j = wd := by omega
            have hjl2 : ¬ ((j : Int) < (j : Int)) := by omega
            have HFIN := Lib.hid (show (L'.map Bg.z, (b.z + ub.z * qb.z)) = (T, b.z + ub.z * qb.z) by
              have := HMX.out
              have hm := mix_end T (L.map Bg.z) (by rw [HTL.out, List.length_map, HL.out])
              rw [List.length_map, HL.out] at hm
              rw [this, hm])
            have z61 : V0.cell? ⟨k6, 1, none⟩ = some (.bool b.neg) := HSTV.out.b6.cell 1
            have z62 : V0.cell? ⟨k6, 2, none⟩ = some (.slice b.A b.n b.c) := HSTV.out.b6.cell 2
            have u1 : V0.cell? ⟨k8, 1, none⟩ = some (.bool ub.neg) := K8V.out.cell 1
            have u2 : V0.cell? ⟨k8, 2, none⟩ = some (.slice ub.A ub.n ub.c) := K8V.out.cell 2
            have q1 : V0.cell? ⟨k9, 1, none⟩ = some (.bool qb.neg) := K9V.out.cell 1
            have q2 : V0.cell? ⟨k9, 2, none⟩ = some (.slice qb.A qb.n qb.c) := K9V.out.cell 2
            have HMB := Lib.hid (show (qb.z * ub.z).natAbs < 4294967296 ^ (Ns + Nl) by
              rw [Int.natAbs_mul, Nat.mul_comm, Nat.pow_add]
              exact Nat.mul_lt_mul'' (BG.abs HUB.out) (BG.abs HQB2.out))
            go_upto_region 18 with fail
            have hb0 : Below V0.heap.size V0 V0.drew := below_drew (Below.refl _ _)
            refine wp_region_mix 9 (fun w' => Below V0.heap.size V0 w') (by kernel_rfl) (by decide) ?_
            have HSTy := Lib.hid (HSTV.out.keep hb0)
            generalize V0.drew = y0 at hb0 HSTy ⊢
            have CM := Lib.hid (RMul_any qb.val ub.val qb.z ub.z (Ns + Nl) y0 ((HQB2.out.below HSTy.out.below).mono (by omega)) ((HUB.out.below HSTy.out.below).mono (by omega)) (by omega))
            unfold Bg.val at CM
            refine wpM_take (i := 0) (oi := ⟨some 93, _, _, _, _, _⟩) (v := ?_) rfl (by decide +kernel) (by decide +kernel) (by decide +kernel) (fun _ _ _ h => h) (Or.inl ⟨by rfl, ?_⟩) hb0 ?_
            case refine_2 =>
              intro w' hSw
              have z61' := keepcell hSw z61
              have z62' := keepcell hSw z62
              have u1' := keepcell hSw u1
              have u2' := keepcell hSw u2
              have q1' := keepcell hSw q1
              have q2' := keepcell hSw q2
              go_simp
              try (with_reducible rfl)
            try simp only [Act.put, List.setIfInBounds_toArray, List.set_cons_zero, List.set_cons_succ]
            refine wpM_take (i := 1) (oi := ⟨some 94, _, _, _, _, _⟩) (v := ?_) rfl (by decide +kernel) (by decide +kernel) (by decide +kernel) (fun _ _ _ h => h) (Or.inl ⟨by rfl, ?_⟩) hb0 ?_
            case refine_2 =>
              intro w' hSw
              have z61' := keepcell hSw z61
              have z62' := keepcell hSw z62
              have u1' := keepcell hSw u1
              have u2' := keepcell hSw u2
              have q1' := keepcell hSw q1
              have q2' := keepcell hSw q2
              go_simp
              try (with_reducible rfl)
            try simp only [Act.put, List.setIfInBounds_toArray, List.set_cons_zero, List.set_cons_succ]
            refine wpM_take (i := 2) (oi := ⟨some 95, _, _, _, _, _⟩) (v := ?_) rfl (by decide +kernel) (by decide +kernel) (by decide +kernel) (fun _ _ _ h => h) (Or.inl ⟨by rfl, ?_⟩) hb0 ?_
            case refine_2 =>
              intro w' hSw
              have z61' := keepcell hSw z61
              have z62' := keepcell hSw z62
              have u1' := keepcell hSw u1
              have u2' := keepcell hSw u2
              have q1' := keepcell hSw q1
              have q2' := keepcell hSw q2
              go_simp
              try (with_reducible rfl)
            try simp only [Act.put, List.setIfInBounds_toArray, List.set_cons_zero, List.set_cons_succ]
            refine wpM_take (i := 3) (oi := ⟨some 96, _, _, _, _, _⟩) (v := ?_) rfl (by decide +kernel) (by decide +kernel) (by decide +kernel) (fun _ _ _ h => h) (Or.inl ⟨by rfl, ?_⟩) hb0 ?_
            case refine_2 =>
              intro w' hSw
              have z61' := keepcell hSw z61
              have z62' := keepcell hSw z62
              have u1' := keepcell hSw u1
              have u2' := keepcell hSw u2
              have q1' := keepcell hSw q1
              have q2' := keepcell hSw q2
              go_simp
              try (with_reducible rfl)
            try simp only [Act.put, List.setIfInBounds_toArray, List.set_cons_zero, List.set_cons_succ]
            refine wpM_take (i := 4) (oi := ⟨some 97, _, _, _, _, _⟩) (v := ?_) rfl (by decide +kernel) (by decide +kernel) (by decide +kernel) (fun _ _ _ h => h) (Or.inl ⟨by rfl, ?_⟩) hb0 ?_
            case refine_2 =>
              intro w' hSw
              have z61' := keepcell hSw z61
              have z62' := keepcell hSw z62
              have u1' := keepcell hSw u1
              have u2' := keepcell hSw u2
              have q1' := keepcell hSw q1
              have q2' := keepcell hSw q2
              go_simp
              try (with_reducible rfl)
            try simp only [Act.put, List.setIfInBounds_toArray, List.set_cons_zero, List.set_cons_succ]
            refine wpM_take (i := 5) (oi := ⟨some 98, _, _, _, _, _⟩) (v := ?_) rfl (by decide +kernel) (by decide +kernel) (by decide +kernel) (fun _ _ _ h => h) (Or.inl ⟨by rfl, ?_⟩) hb0 ?_
            case refine_2 =>
              intro w' hSw
              have z61' := keepcell hSw z61
              have z62' := keepcell hSw z62
              have u1' := keepcell hSw u1
              have u2' := keepcell hSw u2
              have q1' := keepcell hSw q1
              have q2' := keepcell hSw q2
              go_simp
              try (with_reducible rfl)
            try simp only [Act.put, List.setIfInBounds_toArray, List.set_cons_zero, List.set_cons_succ]
            refine wpM_step (i := 6) (o := ⟨some 99, _, _, _, _, _⟩) rfl (by decide +kernel) (by decide) (fun KK hK => ?_)
            go_simp
            refine CM.out.mono ?_
            rintro e y1 ⟨v1, rfl, hv1, hb1⟩
            have hb01 : Below V0.heap.size V0 y1 := hb0.trans (hb1.mono hb0.size)
            have HSTy1 := Lib.hid (HSTy.out.keep hb1)
            have HV1 := Lib.hid (hv1.tight HMB.out).bg
            clear hv1 hb1
            refine hK.out _ _ hb01 ?_
            clear hK KK
            try simp only [Act.put, List.setIfInBounds_toArray, List.set_cons_zero, List.set_cons_succ]
            have CA := Lib.hid (RAdd_any b.val v1 b.z (qb.z * ub.z) K y1 HSTy1.out.bd.bg (HV1.out.mono (by omega)) (by omega))
            unfold Bg.val at CA
            refine wpM_step (i := 7) (o := ⟨some 100, _, _, _, _, _⟩) rfl (by decide +kernel) (by decide) (fun KK hK => ?_)
            go_simp
            refine CA.out.mono ?_
            rintro e y2 ⟨v2, rfl, hv2, hb2⟩
            have hb02 : Below V0.heap.size V0 y2 := hb01.trans (hb2.mono hb01.size)
            have HSTy2 := Lib.hid (HSTy1.out.keep hb2)
            rw [Int.mul_comm qb.z ub.z] at hv2
            have HV2 := Lib.hid ((hv2.mono HSTy1.out.below.size (Nat.le_refl _)).tight HTB.out)
            clear hv2 hb2
            refine hK.out _ _ hb02 ?_
            clear hK KK
            try simp only [Act.put, List.setIfInBounds_toArray, List.set_cons_zero, List.set_cons_succ]
            obtain ⟨sb, Av, nv, cv, rfl⟩ := HV2.out.expose
            refine wpM_take (i := 8) (oi := ⟨some 101, _, _, _, _, _⟩) (v := ?_) rfl (by decide +kernel) (by decide +kernel) (by decide +kernel) (fun _ _ _ h => h) (Or.inl ⟨by rfl, ?_⟩) hb02 ?_
            case refine_2 =>
              intro w' hSw
              have z61' := keepcell hSw z61
              have z62' := keepcell hSw z62
              have u1' := keepcell hSw u1
              have u2' := keepcell hSw u2
              have q1' := keepcell hSw q1
              have q2' := keepcell hSw q2
              go_simp
              try (with_reducible rfl)
            try simp only [Act.put, List.setIfInBounds_toArray, List.set_cons_zero, List.set_cons_succ]
            refine wpM_done (by decide +kernel) ?_
            simp only [List.drop_succ_cons, List.drop_zero]
            clear z61 z62 u1 u2 q1 q2
            have b1 := HSTy2.out.b6.cell 1
            have b2 := HSTy2.out.b6.cell 2
            simp only [List.getElem?_toArray, List.getElem?_cons_zero, List.getElem?_cons_succ] at b1 b2
            have f1 := Joins.unfrozen_of_block HSTy2.out.b6 1
            have f2 := Joins.unfrozen_of_block HSTy2.out.b6 2
            have HSTF := Lib.hid (HSTy2.out.setB ⟨sb, Av, nv, cv, b.z + ub.z * qb.z⟩ HV2.out)
            go_wp2
            go_roundw
            case rel => exact ⟨k + 1, L', ⟨sb, Av, nv, cv, b.z + ub.z * qb.z⟩, by go_num, hlt, HL'.out, by rw [HFIN.out]; exact HNX.out, by rw [HFIN.out]; exact HBN.out, HSTF.out⟩
            case measure => simp [intOf]; omega
      ·
        obtain rfl : k = sn := by omega
        have hlt2 : ¬ ((k : Int) < (k : Int)) := by omega
        have HRD := Lib.hid (HSM.out.2 (L.map Bg.z, b.z) (by
          have := HSUM.out
          rw [List.drop_of_length_le (by rw [List.length_map, HUL.out]; exact Nat.le_refl _)] at this
          exact this.symm))
        have HDZ := Lib.hid (show sd.z ≠ 0 from by have := HDP.out; omega)
        obtain ⟨T, hT⟩ : ∃ T, T = (L.map Bg.z).map (· / sd.z) := ⟨_, rfl⟩
        have HTL := Lib.hid (show T.length = wd by rw [hT, List.length_map, List.length_map, HL.out])
        have HTG := Lib.hid (show ∀ j (h1 : j < T.length) (h2 : j < L.length), T[j] = L[j].z / sd.z from fun j h1 h2 => by subst hT; simp)
        have HTE := Lib.hid hT
        have HDS := Lib.hid (show sd.z.natAbs < 4294967296 ^ K from Nat.lt_of_lt_of_le (BG.abs HD.out) (Nat.pow_le_pow_right (by decide) (by omega)))
        clear hT
        go_wp2
        clear a0
        go_loopw [12] (fun s101 wr2 => ∃ (j : Nat) (L' : List Bg), s101 = .int .i64 (j : Int) ∧ j ≤ wd ∧ L'.length = wd ∧ L'.map Bg.z = T.take j ++ (L.map Bg.z).drop j ∧ ((L.map Bg.z).take j).all (fun z => decide (z % sd.z = 0)) = true ∧ ST w wr2 k3 k4 k6 #[.slice sA k sc, .bool sd.neg, .slice sd.A sd.n sd.c] A0 L' b K) (fun s101 _ => wd - (intOf s101).toNat)
        case atStart => exact ⟨0, L, rfl, Nat.zero_le _, HL.out, by rw [List.take_zero, List.drop_zero, List.nil_append], rfl, HST.out⟩
        case round =>
          obtain ⟨j, L', rfl, hjn, hL', hmx, hall, hstv⟩ := hrel
          generalize wr = V0 at *
          have HL' := Lib.hid hL'
          have HMX := Lib.hid hmx
          have HALL := Lib.hid hall
          have HSTV := Lib.hid hstv
          clear hL' hmx hall hstv
          by_cases hjl : j < wd
          · have hji : (j : Int) < (wd : Int) := by omega
            have hj0 : (0 : Int) ≤ (j : Int) := by omega
            have hjL : j < L.length := by rw [HL.out]; exact hjl
            have hjT : j < T.length := by rw [HTL.out]; exact hjl
            have hlTS : T.length = (L.map Bg.z).length := by rw [HTL.out, List.length_map, HL.out]
            have hDJ : j < L'.length := by rw [HL'.out]; exact hjl
            have HDZ2 := Lib.hid (show L'[j].z = L[j].z by
              have h1 := mix_get T (L.map Bg.z) j hlTS (by rw [List.length_map]; exact hjL)
              rw [← HMX.out, List.getElem?_map, List.getElem?_eq_getElem hDJ, List.getElem_map] at h1
              injection h1)
            obtain ⟨g, rfl, -⟩ := HSTV.out.ro.own (by omega)
            obtain ⟨d0, d1⟩ := HSTV.out.rw.cells j hDJ
            have HDN := Lib.hid ((HSTV.out.rw.2.2 _ (List.getElem_mem hDJ)))
            have HDA := Lib.hid (HDN.out.bg.abs)
            have HMS := Lib.hid (show (T.take j ++ (L.map Bg.z).drop j).set j (L'[j].z / sd.z) = T.take (j + 1) ++ (L.map Bg.z).drop (j + 1) by rw [HDZ2.out, ← HTG.out j hjT hjL]; exact mix_set T (L.map Bg.z) j hlTS hjT)
            have HAN := Lib.hid (show L'[j].z % sd.z = 0 → ((L.map Bg.z).take (j + 1)).all (fun z => decide (z % sd.z = 0)) = true from fun e => by
              rw [List.take_succ_eq_append_getElem (by rw [List.length_map]; exact hjL), List.all_append, HALL.out, List.getElem_map, ← HDZ2.out]
              simp [e])
            have HNO := Lib.hid (show L'[j].z % sd.z ≠ 0 → r = none from fun e => by
              rw [HRD.out]
              exact divM_none (i := j) (by rw [List.length_map]; exact hjL) (by rw [List.getElem_map, ← HDZ2.out]; exact e))
            clear HDZ2
            generalize L'[j] = dd at *
            have HQS := Lib.hid (show dd.z / sd.z = dd.z / sd.z from rfl)
            obtain ⟨qz, hqz⟩ : ∃ x, dd.z / sd.z = x := ⟨_, rfl⟩
            obtain ⟨rz, hrz⟩ : ∃ x, dd.z % sd.z = x := ⟨_, rfl⟩
            have HQZ := Lib.hid hqz
            have HRZ2 := Lib.hid hrz
            have HQR := Lib.hid (show ∀ q r, QR dd.z sd.z q r → q = qz ∧ r = rz from fun q r h => by
              obtain ⟨h1, h2⟩ := qr_pos h HDP.out
              exact ⟨h1.trans hqz, h2.trans hrz⟩)
            clear hqz hrz
            have z60 : V0.cell? ⟨k6, 0, none⟩ = some (.slice (some ⟨g, 0, none⟩) wd wd) := by have := HSTV.out.b6.cell 0; rw [HL'.out] at this; exact this
            have s1 : V0.cell? ⟨k3, 1, none⟩ = some (.bool sd.neg) := HSTV.out.b3.cell 1
            have s2 : V0.cell? ⟨k3, 2, none⟩ = some (.slice sd.A sd.n sd.c) := HSTV.out.b3.cell 2
            go_upto_region 22 with fail
            have hS0 : Below V0.heap.size V0 V0.drew := below_drew (Below.refl _ _)
            refine wp_region_mix 16 (fun w' => Below V0.heap.size V0 w') (by kernel_rfl) (by decide) ?_
            generalize V0.drew = y0 at hS0 ⊢
            refine wpM_take (i := 0) (oi := ⟨some 108, _, _, _, _, _⟩) (v := ?_) rfl (by decide +kernel) (by decide +kernel) (by decide +kernel) (fun _ _ _ h => h) (Or.inl ⟨by rfl, ?_⟩) hS0 ?_
            case refine_2 =>
              intro w' hSw
              have z60' := keepcell hSw z60
              have s1' := keepcell hSw s1
              have s2' := keepcell hSw s2
              have d0' := keepcell hSw d0
              have d1' := keepcell hSw d1
              go_simp
              try (with_reducible rfl)
            try simp only [Act.put, List.setIfInBounds_toArray, List.set_cons_zero, List.set_cons_succ]
            refine wpM_take (i := 1) (oi := ⟨some 109, _, _, _, _, _⟩) (v := ?_) rfl (by decide +kernel) (by decide +kernel) (by decide +kernel) (fun _ _ _ h => h) (Or.inl ⟨by rfl, ?_⟩) hS0 ?_
            case refine_2 =>
              intro w' hSw
              have z60' := keepcell hSw z60
              have s1' := keepcell hSw s1
              have s2' := keepcell hSw s2
              have d0' := keepcell hSw d0
              have d1' := keepcell hSw d1
              go_simp
              try (with_reducible rfl)
            try simp only [Act.put, List.setIfInBounds_toArray, List.set_cons_zero, List.set_cons_succ]
            refine wpM_take (i := 2) (oi := ⟨some 110, _, _, _, _, _⟩) (v := ?_) rfl (by decide +kernel) (by decide +kernel) (by decide +kernel) (fun _ _ _ h => h) (Or.inl ⟨by rfl, ?_⟩) hS0 ?_
            case refine_2 =>
              intro w' hSw
              have z60' := keepcell hSw z60
              have s1' := keepcell hSw s1
              have s2' := keepcell hSw s2
              have d0' := keepcell hSw d0
              have d1' := keepcell hSw d1
              go_simp
              try (with_reducible rfl)
            try simp only [Act.put, List.setIfInBounds_toArray, List.set_cons_zero, List.set_cons_succ]
            refine wpM_take (i := 3) (oi := ⟨some 111, _, _, _, _, _⟩) (v := ?_) rfl (by decide +kernel) (by decide +kernel) (by decide +kernel) (fun _ _ _ h => h) (Or.inl ⟨by rfl, ?_⟩) hS0 ?_
            case refine_2 =>
              intro w' hSw
              have z60' := keepcell hSw z60
              have s1' := keepcell hSw s1
              have s2' := keepcell hSw s2
              have d0' := keepcell hSw d0
              have d1' := keepcell hSw d1
              go_simp
              try (with_reducible rfl)
            try simp only [Act.put, List.setIfInBounds_toArray, List.set_cons_zero, List.set_cons_succ]
            refine wpM_take (i := 4) (oi := ⟨some 112, _, _, _, _, _⟩) (v := ?_) rfl (by decide +kernel) (by decide +kernel) (by decide +kernel) (fun _ _ _ h => h) (Or.inl ⟨by rfl, ?_⟩) hS0 ?_
            case refine_2 =>
              intro w' hSw
              have z60' := keepcell hSw z60
              have s1' := keepcell hSw s1
              have s2' := keepcell hSw s2
              have d0' := keepcell hSw d0
              have d1' := keepcell hSw d1
              go_simp
              try (with_reducible rfl)
            try simp only [Act.put, List.setIfInBounds_toArray, List.set_cons_zero, List.set_cons_succ]
            refine wpM_take (i := 5) (oi := ⟨some 113, _, _, _, _, _⟩) (v := ?_) rfl (by decide +kernel) (by decide +kernel) (by decide +kernel) (fun _ _ _ h => h) (Or.inl ⟨by rfl, ?_⟩) hS0 ?_
            case refine_2 =>
              intro w' hSw
              have z60' := keepcell hSw z60
              have s1' := keepcell hSw s1
              have s2' := keepcell hSw s2
              have d0' := keepcell hSw d0
              have d1' := keepcell hSw d1
              go_simp
              try (with_reducible rfl)
            try simp only [Act.put, List.setIfInBounds_toArray, List.set_cons_zero, List.set_cons_succ]
            refine wpM_take (i := 6) (oi := ⟨some 114, _, _, _, _, _⟩) (v := ?_) rfl (by decide +kernel) (by decide +kernel) (by decide +kernel) (fun _ _ _ h => h) (Or.inl ⟨by rfl, ?_⟩) hS0 ?_
            case refine_2 =>
              intro w' hSw
              have z60' := keepcell hSw z60
              have s1' := keepcell hSw s1
              have s2' := keepcell hSw s2
              have d0' := keepcell hSw d0
              have d1' := keepcell hSw d1
              go_simp
              try (with_reducible rfl)
            try simp only [Act.put, List.setIfInBounds_toArray, List.set_cons_zero, List.set_cons_succ]
            clear z60 s1 s2 d0 d1
            refine wpM_inv2 (fun i => if i = 7 then 115 else if i = 8 then 107 else if i = 9 then 116 else if i = 10 then 117 else if i = 11 then 118 else if i = 12 then 13 else if i = 13 then 14 else if i = 14 then 1000 else if i = 15 then 1001 else 2000) [7, 8, 9, 10, 11, 12, 13, 14, 15] (TI V0 0 0 qz rz true) (by decide +kernel) (fun _ _ _ h => h.below) (TI.start hS0) ?_ ?_
            · refine List.forall_mem_cons.2 ⟨?_, List.forall_mem_cons.2 ⟨?_, List.forall_mem_cons.2 ⟨?_, List.forall_mem_cons.2 ⟨?_, List.forall_mem_cons.2 ⟨?_, List.forall_mem_cons.2 ⟨?_, List.forall_mem_cons.2 ⟨?_, List.forall_mem_cons.2 ⟨?_, List.forall_mem_cons.2 ⟨?_, List.forall_mem_nil _⟩⟩⟩⟩⟩⟩⟩⟩⟩
              · refine ⟨⟨some 115, _, _, _, _, _⟩, rfl, Or.inl rfl, fun d vs W KK hI hdi hd hK => ?_⟩
                clear hd
                simp only [puts, List.foldl_cons, List.foldl_nil, Act.put, List.setIfInBounds_toArray, List.set_cons_zero, List.set_cons_succ, Nat.reduceAdd, Nat.reduceSub, Nat.reduceEqDiff, reduceIte] at hK ⊢
                have CD := Lib.hid (RDivFloor_any dd.val sd.val dd.z sd.z K W (HDN.out.below (hI.below)).bg ((HD.out.below (HSTV.out.below.trans (hI.below.mono HSTV.out.below.size))).mono (by omega)) (by omega) HDZ.out)
                unfold Bg.val at CD
                go_simp
                refine CD.out.mono ?_
                rintro e W' ⟨vq, vr, q1, r1, rfl, hq, hr, hqr, hb⟩
                obtain ⟨rfl, rfl⟩ := HQR.out _ _ hqr
                exact hK _ _ ((hI.grow hb).put4 hdi ⟨vq, vr, rfl, ⟨hq.expose, fun _ => ⟨_, hq.mono hI.below.size (Nat.le_refl _)⟩, fun e => Bool.noConfusion e⟩, ⟨hr.expose, fun _ => ⟨_, hr.mono hI.below.size (Nat.le_refl _)⟩, fun e => Bool.noConfusion e⟩⟩)
              · refine ⟨⟨some 107, _, _, _, _, _⟩, rfl, Or.inl rfl, fun d vs W KK hI hdi hd hK => ?_⟩
                have dd7 := hd 7 (by decide) (by decide +kernel)
                have T4 := hI.t4 dd7
                clear hd
                simp only [puts, List.foldl_cons, List.foldl_nil, Act.put, List.setIfInBounds_toArray, List.set_cons_zero, List.set_cons_succ, Nat.reduceAdd, Nat.reduceSub, Nat.reduceEqDiff, reduceIte] at hK ⊢
                obtain ⟨vq, vr, e4, f1, f2⟩ := T4
                simp only [e4] at hK ⊢
                go_simp
                exact hK _ _ (hI.put5 hdi ⟨vq, vr, rfl, f1, f2⟩)
              · refine ⟨⟨some 116, _, _, _, _, _⟩, rfl, Or.inl rfl, fun d vs W KK hI hdi hd hK => ?_⟩
                have dd8 := hd 8 (by decide) (by decide +kernel)
                have T5 := hI.t5 dd8
                clear hd
                simp only [puts, List.foldl_cons, List.foldl_nil, Act.put, List.setIfInBounds_toArray, List.set_cons_zero, List.set_cons_succ, Nat.reduceAdd, Nat.reduceSub, Nat.reduceEqDiff, reduceIte] at hK ⊢
                obtain ⟨vq, vr, e5, f1, f2⟩ := T5
                simp only [e5] at hK ⊢
                go_simp
                exact hK _ _ (hI.put6 hdi f1)
              · refine ⟨⟨some 117, _, _, _, _, _⟩, rfl, Or.inl rfl, fun d vs W KK hI hdi hd hK => ?_⟩
                have dd8 := hd 8 (by decide) (by decide +kernel)
                have T5 := hI.t5 dd8
                clear hd
                simp only [puts, List.foldl_cons, List.foldl_nil, Act.put, List.setIfInBounds_toArray, List.set_cons_zero, List.set_cons_succ, Nat.reduceAdd, Nat.reduceSub, Nat.reduceEqDiff, reduceIte] at hK ⊢
                obtain ⟨vq, vr, e5, f1, f2⟩ := T5
                simp only [e5] at hK ⊢
                go_simp
                exact hK _ _ (hI.put7 hdi f2)
              · refine ⟨⟨some 118, _, _, _, _, _⟩, rfl, Or.inl rfl, fun d vs W KK hI hdi hd hK => ?_⟩
                have dd8 := hd 8 (by decide) (by decide +kernel)
                have T5 := hI.t5 dd8
                clear hd
                simp only [puts, List.foldl_cons, List.foldl_nil, Act.put, List.setIfInBounds_toArray, List.set_cons_zero, List.set_cons_succ, Nat.reduceAdd, Nat.reduceSub, Nat.reduceEqDiff, reduceIte] at hK ⊢
                obtain ⟨vq, vr, e5, f1, f2⟩ := T5
                simp only [e5] at hK ⊢
                go_simp
                exact hK _ _ (hI.put8 hdi rfl)
              · refine ⟨⟨some 13, _, _, _, _, _⟩, rfl, Or.inl rfl, fun d vs W KK hI hdi hd hK => ?_⟩
                simp only [puts, List.foldl_cons, List.foldl_nil, Act.put, List.setIfInBounds_toArray, List.set_cons_zero, List.set_cons_succ, Nat.reduceAdd, Nat.reduceSub, Nat.reduceEqDiff, reduceIte] at hK ⊢
                go_simp
                exact hK _ _ ((hI.grow ((Below.refl _ _).alloc (Nat.le_refl _) _)).put9 hdi ⟨_, _, _, _, _, rfl, hI.below.size, Blk.new _ _ _, fun e => by cases e⟩ (fun e => (hI.a10 e).lt.symm))
              · refine ⟨⟨some 14, _, _, _, _, _⟩, rfl, Or.inl rfl, fun d vs W KK hI hdi hd hK => ?_⟩
                simp only [puts, List.foldl_cons, List.foldl_nil, Act.put, List.setIfInBounds_toArray, List.set_cons_zero, List.set_cons_succ, Nat.reduceAdd, Nat.reduceSub, Nat.reduceEqDiff, reduceIte] at hK ⊢
                go_simp
                exact hK _ _ ((hI.grow ((Below.refl _ _).alloc (Nat.le_refl _) _)).put10 hdi ⟨_, _, _, _, _, rfl, hI.below.size, Blk.new _ _ _, fun e => by cases e⟩ (fun e => (hI.a9 e).lt))
              · refine ⟨⟨none, _, _, _, _, _⟩, rfl, Or.inr ⟨rfl, by first | decide | simp⟩, fun d vs W KK hI hdi hd hK => ?_⟩
                have dd12 := hd 12 (by decide) (by decide +kernel)
                have dd9 := hd 9 (by decide) (by decide +kernel)
                have T1 := hI.a9 dd12
                have T2 := (hI.e6 dd9).1
                clear hd
                simp only [puts, List.foldl_cons, List.foldl_nil, Act.put, List.setIfInBounds_toArray, List.set_cons_zero, List.set_cons_succ, Nat.reduceAdd, Nat.reduceSub, Nat.reduceEqDiff, reduceIte] at hK ⊢
                obtain ⟨ga, s, Aa, na, ca, e12, hga, hk, _⟩ := T1
                obtain ⟨s', A', n', c', e9⟩ := T2
                simp only [e12, e9] at hK ⊢
                rw [if_pos (show Region.wanted _ _ = true from rfl)]
                refine wp_store_row 37 _ _ rfl ga #[.bool s', .slice A' n' c'] rfl rfl 37 _ hk (by kernel_rfl) rfl (by simp [Value.oneCell']) ?_
                exact hK undef _ (hI.sto11 dd12 dd9 e12 hga hk e9)
              · refine ⟨⟨none, _, _, _, _, _⟩, rfl, Or.inr ⟨rfl, by first | decide | simp⟩, fun d vs W KK hI hdi hd hK => ?_⟩
                have dd13 := hd 13 (by decide) (by decide +kernel)
                have dd10 := hd 10 (by decide) (by decide +kernel)
                have T1 := hI.a10 dd13
                have T2 := (hI.e7 dd10).1
                clear hd
                simp only [puts, List.foldl_cons, List.foldl_nil, Act.put, List.setIfInBounds_toArray, List.set_cons_zero, List.set_cons_succ, Nat.reduceAdd, Nat.reduceSub, Nat.reduceEqDiff, reduceIte] at hK ⊢
                obtain ⟨ga, s, Aa, na, ca, e13, hga, hk, _⟩ := T1
                obtain ⟨s', A', n', c', e10⟩ := T2
                simp only [e13, e10] at hK ⊢
                rw [if_pos (show Region.wanted _ _ = true from rfl)]
                refine wp_store_row 37 _ _ rfl ga #[.bool s', .slice A' n' c'] rfl rfl 37 _ hk (by kernel_rfl) rfl (by simp [Value.oneCell']) ?_
                exact hK undef _ (hI.sto12 dd13 dd10 e13 hga hk e10)
            · intro d vs V6 hd hI
              have hS := hI.below
              simp only [puts, List.foldl_cons, List.foldl_nil, Act.put, List.setIfInBounds_toArray, List.set_cons_zero, List.set_cons_succ, Nat.reduceAdd, Nat.reduceSub, Nat.reduceEqDiff, reduceIte]
              have T12 := hI.a9 (hd 12 (by decide))
              obtain ⟨g12, s12, A12, n12, c12, e12, l12, b12, q12⟩ := T12
              replace q12 := q12 (hd 14 (by decide))
              have V12 := hI.e6 (hd 9 (by decide))
              rw [q12] at V12
              replace V12 := Lib.hid V12
              have K12 := Lib.hid b12
              clear b12 l12
              have T13 := hI.a10 (hd 13 (by decide))
              obtain ⟨g13, s13, A13, n13, c13, e13, l13, b13, q13⟩ := T13
              replace q13 := q13 (hd 15 (by decide))
              have V13 := hI.e7 (hd 10 (by decide))
              rw [q13] at V13
              replace V13 := Lib.hid V13
              have K13 := Lib.hid b13
              clear b13 l13
              have d8 := hI.e8 (hd 11 (by decide))
              simp only [e12, e13, q12, q13, d8]
              clear d8 e12 e13 q12 q13 hd hI hS0
              simp only [List.drop_succ_cons, List.drop_zero]
              have HST6 := Lib.hid (HSTV.out.keep hS)
              obtain ⟨NQ, hNQ⟩ := V12.out.2.1 rfl
              obtain ⟨NR, hNR⟩ := V13.out.2.1 rfl
              have HVQ6 := Lib.hid ((hNQ.mono HSTV.out.below.size (Nat.le_refl _)).tight (K := K) (by rw [← HQZ.out]; exact Nat.lt_of_le_of_lt (ediv_abs _ _) HDA.out))
              have HVR := Lib.hid ((hNR.mono HSTV.out.below.size (Nat.le_refl _)).tight (K := K) (by rw [← HRZ2.out]; exact Nat.lt_of_le_of_lt (emod_abs _ HDP.out) HDS.out))
              have CSR := Lib.hid (RSign_any _ _ _ V6 HVR.out.bg (by omega))
              clear hS hNQ hNR V12 V13
              go_upto_region 23 with fail
              have x0 : V6.cell? ⟨g13, 0, none⟩ = some (.bool s13) := K13.out.cell 0
              have x1 : V6.cell? ⟨g13, 1, none⟩ = some (.slice A13 n13 c13) := K13.out.cell 1
              go_wp2_with fail
              clear x0 x1
              refine CSR.out.mono ?_
              rintro e7 V7 ⟨rfl, hb7⟩
              have HST7 := Lib.hid (HST6.out.keep hb7)
              have K127 := Lib.hid (K12.out.below hb7)
              have HVQ7 := Lib.hid (HVQ6.out.below hb7)
              clear hb7 CSR
              by_cases hxz : rz = 0
              · have hs : rz.sign = 0 := by rw [hxz]; rfl
                have HAN1 := Lib.hid (HAN.out (HRZ2.out.trans hxz))
                rw [hs]
                clear hs hxz HAN HNO
                have z60 : V7.cell? ⟨k6, 0, none⟩ = some (.slice (some ⟨g, 0, none⟩) wd wd) := by have := HST7.out.b6.cell 0; rw [HL'.out] at this; exact this
                have q0 : V7.cell? ⟨g12, 0, none⟩ = some (.bool s12) := K127.out.cell 0
                have q1 : V7.cell? ⟨g12, 1, none⟩ = some (.slice A12 n12 c12) := K127.out.cell 1
                obtain ⟨⟨uu0, g0⟩, z0, ⟨uu1, g1⟩, z1⟩ := (HST7.out.rw).ready j hDJ s12
                have HSTF := Lib.hid (HST7.out.setL rfl j hDJ ⟨s12, A12, n12, c12, qz⟩ HVQ7.out)
                go_wp2
                go_roundw
                case rel => exact ⟨j + 1, _, by go_num, hjl, by rw [List.length_set]; exact HL'.out, by rw [List.map_set, HMX.out]; rw [← HQZ.out]; exact HMS.out, HAN1.out, HSTF.out⟩
                case measure => simp [intOf]; omega
              · have hs := sign_ne hxz
                have hs2 : (rz.sign == 0) = false := by simpa using hs
                have hs3 : (rz.sign != 0) = true := by simpa using hs
                have HRN0 := Lib.hid (HNO.out (fun e => hxz (HRZ2.out.symm.trans e)))
                generalize rz.sign = sg3 at *
                clear hxz
                have HRN := Lib.hid (show r = none from HRN0.out)
                have b0 := HST7.out.b4.cell 0
                have b1 := HST7.out.b4.cell 1
                have b2 := HST7.out.b4.cell 2
                simp only [List.getElem?_toArray, List.getElem?_cons_zero, List.getElem?_cons_succ] at b0 b1 b2
                have f0 := Joins.unfrozen_of_block HST7.out.b4 0
                have f1 := Joins.unfrozen_of_block HST7.out.b4 1
                have f2 := Joins.unfrozen_of_block HST7.out.b4 2
                have HS3 := Lib.hid (store3 HST7.out.b4 (.slice none 0 0) (.bool false) (.slice none 0 0))
                go_wp2
                try simp only [Exit.inBlock, Exit.then]
                refine bodyPost_ret (results_c2 rfl _ _ _ k4 _ rfl (load44 HS3.out.1 rfl)) rfl ?_
                exact ⟨HS3.out.2 _ _ HST7.out.below hk4w, fun _ => rfl, fun m hm => by rw [HRN.out] at hm; cases hm⟩
          · obtain rfl : j = wd := by omega
            have hjl2 : ¬ ((j : Int) < (j : Int)) := by omega
            have HRR := Lib.hid (show r = some (L'.map Bg.z, b.z / sd.z) by
              have hm := mix_end T (L.map Bg.z) (by rw [HTL.out, List.length_map, HL.out])
              rw [List.length_map, HL.out] at hm
              have ha := HALL.out
              rw [List.take_of_length_le (by rw [List.length_map, HL.out]; exact Nat.le_refl _)] at ha
              rw [HRD.out, divM_some ha, HMX.out, hm, HTE.out])
            have z61 : V0.cell? ⟨k6, 1, none⟩ = some (.bool b.neg) := HSTV.out.b6.cell 1
            have z62 : V0.cell? ⟨k6, 2, none⟩ = some (.slice b.A b.n b.c) := HSTV.out.b6.cell 2
            have s1 : V0.cell? ⟨k3, 1, none⟩ = some (.bool sd.neg) := HSTV.out.b3.cell 1
            have s2 : V0.cell? ⟨k3, 2, none⟩ = some (.slice sd.A sd.n sd.c) := HSTV.out.b3.cell 2
            have HDA := Lib.hid (HSTV.out.bd.bg.abs)
            have CD := Lib.hid (RDivFloor_any b.val sd.val b.z sd.z K V0 HSTV.out.bd.bg ((HD.out.below HSTV.out.below).mono (by omega)) (by omega) HDZ.out)
            unfold Bg.val at CD
            go_wp2_with fail
            clear z61 z62 s1 s2
            refine CD.out.mono ?_
            rintro e6 V5 ⟨vq, vr, q, r', rfl, hq, hr, hqr, hb5⟩
            obtain ⟨rfl, rfl⟩ := qr_pos hqr HDP.out
            have HST5 := Lib.hid (HSTV.out.keep hb5)
            have HVQ := Lib.hid ((hq.mono HSTV.out.below.size (Nat.le_refl _)).tight (K := K) (Nat.lt_of_le_of_lt (ediv_abs _ _) HDA.out))
            obtain ⟨sq, Aq, nq, cq, rfl⟩ := HVQ.out.expose
            clear hq hr hqr hb5 CD
            have y1 : V5.cell? ⟨k6, 1, none⟩ = some (.bool b.neg) := HST5.out.b6.cell 1
            have f1 := Joins.unfrozen_of_block HST5.out.b6 1
            have s61 : Blk (V5.setCell ⟨k6, 1, none⟩ (.bool sq)) k6 44 #[.slice A0 L'.length L'.length, .bool sq, .slice b.A b.n b.c] := Joins.block_setCell HST5.out.b6 _
            have y2 : (V5.setCell ⟨k6, 1, none⟩ (.bool sq)).cell? ⟨k6, 2, none⟩ = some (.slice b.A b.n b.c) := s61.cell 2
            have f2 := Joins.unfrozen_of_block s61 2
            have HSTF := Lib.hid (HST5.out.setB ⟨sq, Aq, nq, cq, b.z / sd.z⟩ HVQ.out)
            clear s61
            obtain ⟨V8, hV8⟩ : ∃ V8, V8 = (V5.setCell ⟨k6, 1, none⟩ (.bool sq)).setCell ⟨k6, 2, none⟩ (.slice Aq nq cq) := ⟨_, rfl⟩
            dsimp only at HSTF
            rw [← hV8] at HSTF
            go_upto_region 27 with fail
            rw [← hV8]
            clear y1 y2 f1 f2 hV8
            have y0 : V8.cell? ⟨k6, 0, none⟩ = some (.slice A0 j j) := by have := HSTF.out.b6.cell 0; rw [HL'.out] at this; exact this
            have y1 : V8.cell? ⟨k6, 1, none⟩ = some (.bool sq) := HSTF.out.b6.cell 1
            have y2 : V8.cell? ⟨k6, 2, none⟩ = some (.slice Aq nq cq) := HSTF.out.b6.cell 2
            have b0 : V8.cell? ⟨k4, 0, none⟩ = some (.slice none 0 0) := HSTF.out.b4.cell 0
            have b1 : V8.cell? ⟨k4, 1, none⟩ = some (.bool false) := HSTF.out.b4.cell 1
            have b2 : V8.cell? ⟨k4, 2, none⟩ = some (.slice none 0 0) := HSTF.out.b4.cell 2
            have f0 := Joins.unfrozen_of_block HSTF.out.b4 0
            have f1 := Joins.unfrozen_of_block HSTF.out.b4 1
            have f2 := Joins.unfrozen_of_block HSTF.out.b4 2
            have HS3 := Lib.hid (store3 HSTF.out.b4 (.slice A0 j j) (.bool sq) (.slice Aq nq cq))
            have HOK := Lib.hid (HSTF.out.fin (.slice A0 j j) (.bool sq) (.slice Aq nq cq) (by rw [HL'.out]; omega))
            rw [HL'.out] at HOK
            go_wp2
            try simp only [Exit.inBlock, Exit.then]
            refine bodyPost_ret (results_c2 rfl _ _ _ k4 _ rfl (load44 HS3.out.1 rfl)) rfl ?_
            refine ⟨HS3.out.2 _ _ HSTF.out.below hk4w, ?_, ?_⟩
            · intro e
              rw [HRR.out] at e
              cases e
            · intro m hm
              rw [HRR.out] at hm
              injection hm with hm
              exact ⟨⟨A0, j, j, L', ⟨sq, Aq, nq, cq, b.z / sd.z⟩⟩, rfl, hm, HOK.out⟩
end Go.Proofs.Ythfolccofjaknaa
