/- A step applied. -/
import Derived.Test.YthfolccofjaknaaCst
import Derived.Test.YthfolccofjaknaaMA
import Derived.Test.YthfolccofjaknaaBmu
import Derived.Test.YthfolccofjaknaaMB
import Derived.Test.YthfolccofjaknaaBdf
namespace Go.Proofs.Ythfolccofjaknaa
open Go.ChangeShapes Go.WideShapes Go.ChangeAt Go.RowKit Go.ChangeMaps

theorem store3 {W : World} {g : Nat} {T : TypeId} {a b c : Value} (h : Blk W g T #[a, b, c]) (x y z : Value) : Blk (((W.setCell ⟨g, 0, none⟩ x).setCell ⟨g, 1, none⟩ y).setCell ⟨g, 2, none⟩ z) g T #[x, y, z] ∧ (∀ B w0, Below B w0 W → B ≤ g → Below B w0 (((W.setCell ⟨g, 0, none⟩ x).setCell ⟨g, 1, none⟩ y).setCell ⟨g, 2, none⟩ z)) := by
  have s0 := store_step h 0 x
  have s1 := store_step s0.1 1 y
  have s2 := store_step s1.1 2 z
  exact ⟨s2.1, fun B w0 hb hg => s2.2.2 _ _ (s1.2.2 _ _ (s0.2.2 _ _ hb hg) hg) hg⟩
def zeroQ : Value := .agg #[.slice none 0 0, .bool false, .slice none 0 0]
/-- An inequality in new memory. -/
def IqO (w : World) (B : Nat) (q : Iq) (K : Nat) : Prop := q.n = q.L.length ∧ q.L.length ≤ 1000000 ∧ Ro w B q.A q.L K ∧ NB w B q.b.val q.b.z K
theorem IqO.ok {w : World} {B K : Nat} {q : Iq} (h : IqO w B q K) : q.ok w K := by
  obtain ⟨A, n, c, L, b⟩ := q
  obtain ⟨h1, h2, h3, h4⟩ := h
  dsimp only at h1 h2 h3 h4
  subst h1
  exact ⟨h3.bigs (by omega), h4.bg⟩
def ApP (w : World) (r : Option QI) (K : Nat) (e : Ending) (w' : World) : Prop := Below w.heap.size w w' ∧ (r = none → e = .returned (.tuple #[zeroQ, .bool false])) ∧ (∀ m, r = some m → ∃ q : Iq, e = .returned (.tuple #[q.val, .bool true]) ∧ q.m = m ∧ IqO w' w.heap.size q K)
theorem ST.fin {w0 wr : World} {k3 k4 k6 K : Nat} {sv : Array Value} {A : Option Addr} {L : List Bg} {b : Bg} (h : ST w0 wr k3 k4 k6 sv A L b K) (x y z : Value) (hl : L.length ≤ 1000000) : IqO (((wr.setCell ⟨k4, 0, none⟩ x).setCell ⟨k4, 1, none⟩ y).setCell ⟨k4, 2, none⟩ z) w0.heap.size ⟨A, L.length, L.length, L, b⟩ K := by
  have s0 := (store_step h.b4 0 x).1
  have s1 := (store_step s0 1 y).1
  have hb := ((h.bd.set_other h.b4 (by decide) 0 x).set_other s0 (by decide) 1 y).set_other s1 (by decide) 2 z
  refine ⟨rfl, hl, ?_, hb⟩
  rcases h.ro with hr | ⟨g', e, hr⟩
  · exact .inl hr
  · exact .inr ⟨g', e, ((hr.set_other h.b4 (by decide) (by decide) 0 x).set_other s0 (by decide) (by decide) 1 y).set_other s1 (by decide) (by decide) 2 z⟩
theorem qr_pos {z d q r : Int} (h : QR z d q r) (hd : 0 < d) : q = z / d ∧ r = z % d := by
  obtain ⟨h1, h2⟩ := h
  have h3 : 0 ≤ r ∧ r < d := by rcases h2 with h2 | h2 <;> omega
  have := (Int.ediv_emod_unique (a := z) (b := d) (r := r) (q := q) hd).2 ⟨by rw [h1, Int.mul_comm]; omega, h3.1, h3.2⟩
  exact ⟨this.1.symm, this.2.symm⟩
theorem ediv_abs (z d : Int) : (z / d).natAbs ≤ z.natAbs := Int.natAbs_ediv_le_natAbs z d
theorem divM_some {S : QI} {d : Int} (h : S.1.all (fun z => decide (z % d = 0)) = true) : divM S d = some (S.1.map (· / d), S.2 / d) := by unfold divM; rw [if_pos h]
theorem divM_none {S : QI} {d : Int} {i : Nat} (hi : i < S.1.length) (h : S.1[i] % d ≠ 0) : divM S d = none := by
  unfold divM
  rw [if_neg]
  intro hall
  have := List.all_eq_true.1 hall _ (List.getElem_mem hi)
  exact h (by simpa using this)
set_option maxRecDepth 100000 in
set_option maxHeartbeats 8000000 in
theorem apply_any (w : World) (A : Option Addr) (n c : Nat) (Q : List Iq) (Nl : Nat) (hQ : Ineqs w A n Q Nl) (wd : Nat) (hsys : ∀ q ∈ Q, q.n = wd) (hz : n = 0 → wd = 0) (hwd : wd ≤ 1000000) (s : Sp) (Ns : Nat) (hs : s.ok w Ns) (hNl : Nl ≤ 10000) (hNs : Ns ≤ 10000) (hm : s.n < 4294967296) :
    Calls Try.prog 52 #[.slice A n c, s.val] w (ApP w (applyM (Q.map Iq.m) (s.U.map Us.m) s.d.z) (Ns + Nl + 1)) := by
  obtain ⟨r, hr⟩ : ∃ r, applyM (Q.map Iq.m) (s.U.map Us.m) s.d.z = r := ⟨_, rfl⟩
  rw [hr]
  have HQL := Lib.hid hQ.len
  have HUL := Lib.hid hs.1.len
  have hn63 := hQ.2.1
  have HWD := Lib.hid (show widthM (Q.map Iq.m) = wd by
    cases Q with
    | nil => exact (hz hQ.len.symm).symm
    | cons q Q' =>
      show (q.L.map Bg.z).length = wd
      rw [List.length_map, (hQ.2.2 q List.mem_cons_self).1.len]
      exact hsys q List.mem_cons_self)
  have HNONE := Lib.hid (show s.d.z ≤ 0 → r = none from fun h => by rw [← hr]; unfold applyM; rw [if_pos h])
  obtain ⟨RS, hRS⟩ : ∃ x, sumM (Q.map Iq.m) (s.U.map Us.m) (List.replicate wd 0, 0) = x := ⟨_, rfl⟩
  have HSOME := Lib.hid (show ¬ s.d.z ≤ 0 → (RS = none → r = none) ∧ (∀ S, RS = some S → r = divM S s.d.z) from fun h => by
    rw [← hr]; unfold applyM; rw [if_neg h, HWD.out, hRS]
    exact ⟨fun e => by rw [e], fun S e => by rw [e]⟩)
  have HRS := Lib.hid hRS
  have HAT := Lib.hid hQ
  have HSYS := Lib.hid hsys
  have HUS := Lib.hid hs.1
  have HD := Lib.hid hs.2
  clear hr hRS hQ hsys hs
  obtain ⟨sA, sn, sc, U, sd⟩ := s
  unfold Sp.val
  dsimp only at *
  obtain ⟨sv, hsv⟩ : ∃ sv, sv = #[Value.slice sA sn sc, .bool sd.neg, .slice sd.A sd.n sd.c] := ⟨_, rfl⟩
  obtain ⟨K, hK⟩ : ∃ K, K = Ns + Nl + 1 := ⟨_, rfl⟩
  have hK2 : K ≤ 20001 := by omega
  obtain ⟨M, hM⟩ : ∃ M, M = 4294967296 ^ (Ns + Nl) := ⟨_, rfl⟩
  have HFIT := Lib.hid (show ∀ (z : Int) (k : Nat), z.natAbs ≤ k * M → k ≤ sn → z.natAbs < 4294967296 ^ K from fun z k h hk => by rw [hK]; rw [hM] at h; exact fits h hk hm)
  have HM := Lib.hid hM
  have HK := Lib.hid hK
  rw [← hK]
  obtain ⟨k3, hk3⟩ : ∃ k3, k3 = w.heap.size := ⟨_, rfl⟩
  obtain ⟨k4, hk4⟩ : ∃ k4, k4 = k3 + 1 := ⟨_, rfl⟩
  obtain ⟨W1, hW1⟩ : ∃ W1, W1 = (w.alloc (.cells #[.slice sA sn sc, .bool sd.neg, .slice sd.A sd.n sd.c] 39)).alloc (.cells #[.slice none 0 0, .bool false, .slice none 0 0] 44) := ⟨_, rfl⟩
  have HB := Lib.hid (show Below w.heap.size w W1 by rw [hW1]; exact ((Below.refl _ _).alloc (Nat.le_refl _) _).alloc (by simp) _)
  have KA := Lib.hid (show Blk W1 k3 39 #[.slice sA sn sc, .bool sd.neg, .slice sd.A sd.n sd.c] by rw [hW1, hk3]; exact (Blk.new _ _ _).alloc _)
  have KB := Lib.hid (show Blk W1 k4 44 #[.slice none 0 0, .bool false, .slice none 0 0] by rw [hW1]; exact Blk.new_ (by rw [hk4, hk3]; simp) rfl)
  have hk4w : w.heap.size ≤ k4 := by omega
  have hk43 : k4 = k3 + 1 := hk4
  have hSZ : W1.heap.size = k4 + 1 := by rw [hW1]; simp; omega
  have HSZ := Lib.hid hSZ
  have CS := Lib.hid (Sign_any sd.val sd.z Ns W1 (HD.out.below HB.out))
  unfold Bg.val at CS
  clear hM hK hSZ
  have a1 : W1.cell? ⟨k3, 1, none⟩ = some (.bool sd.neg) := KA.out.cell 1
  have a2 : W1.cell? ⟨k3, 2, none⟩ = some (.slice sd.A sd.n sd.c) := KA.out.cell 2
  go_enter Try.func52, Try.ntmps52
  go_upto_region 1 with fail
  rw [← hk3]
  try rw [← hk43]
  rw [← hW1]
  have HK43 := Lib.hid hk43
  clear hk3 hk4 hk43 hW1
  go_wp2_with fail
  clear a1 a2
  refine CS.out.mono ?_
  rintro e3 w3 ⟨rfl, hb3⟩
  have HB3 := Lib.hid (HB.out.trans (hb3.mono HB.out.size))
  have KA3 := Lib.hid (KA.out.below hb3)
  have KB3 := Lib.hid (KB.out.below hb3)
  have hw3 : k4 < w3.heap.size := by have := HSZ.out; have := hb3.size; omega
  clear hb3 CS KA KB HSZ
  by_cases hd0 : sd.z ≤ 0
  · have HR := Lib.hid (HNONE.out hd0)
    have hs0 : sd.z.sign ≤ 0 := Int.sign_nonpos_iff.2 hd0
    have hs1 : (decide (sd.z.sign ≤ 0)) = true := decide_eq_true hs0
    generalize sd.z.sign = sg at *
    have b0 : w3.cell? ⟨k4, 0, none⟩ = some (.slice none 0 0) := KB3.out.cell 0
    have b1 : w3.cell? ⟨k4, 1, none⟩ = some (.bool false) := KB3.out.cell 1
    have b2 : w3.cell? ⟨k4, 2, none⟩ = some (.slice none 0 0) := KB3.out.cell 2
    have f0 : w3.frozen? ⟨k4, 0, none⟩ = false := Joins.unfrozen_of_block KB3.out 0
    have f1 : w3.frozen? ⟨k4, 1, none⟩ = false := Joins.unfrozen_of_block KB3.out 1
    have f2 : w3.frozen? ⟨k4, 2, none⟩ = false := Joins.unfrozen_of_block KB3.out 2
    have HS3 := Lib.hid (store3 KB3.out (.slice none 0 0) (.bool false) (.slice none 0 0))
    go_wp2
    try simp only [Exit.inBlock, Exit.then]
    refine bodyPost_ret (results_c2 rfl _ _ _ k4 _ rfl (load44 HS3.out.1 rfl)) rfl ?_
    exact ⟨HS3.out.2 _ _ HB3.out hk4w, fun _ => rfl, fun m hm => by rw [HR.out] at hm; cases hm⟩
  have HSM := Lib.hid (HSOME.out (by omega))
  have hdp : 0 < sd.z := by omega
  have HDP := Lib.hid hdp
  have hs0 : ¬ (sd.z.sign ≤ 0) := by rw [Int.sign_nonpos_iff]; exact hd0
  have hs1 : (decide (sd.z.sign ≤ 0)) = false := decide_eq_false hs0
  generalize sd.z.sign = sg at *
  clear hd0 hdp
  obtain ⟨k6, hk6⟩ : ∃ k6, k6 = w3.heap.size := ⟨_, rfl⟩
  obtain ⟨W6, hW6⟩ : ∃ W6, W6 = w3.alloc (.cells #[.slice none 0 0, .bool false, .slice none 0 0] 44) := ⟨_, rfl⟩
  have hb6 : Below w3.heap.size w3 W6 := by rw [hW6]; exact (Below.refl _ _).alloc (Nat.le_refl _) _
  have HST6 := Lib.hid (show ST w W6 k3 k4 k6 #[.slice sA sn sc, .bool sd.neg, .slice sd.A sd.n sd.c] none [] Bg.zero 0 from ⟨HB3.out.trans (hb6.mono HB3.out.size), KA3.out.below hb6, KB3.out.below hb6, by rw [hW6]; exact Blk.new_ hk6 rfl, NB.zero _ _, .inl ⟨rfl, rfl⟩, hk4w, by have := HB3.out.size; omega, by omega⟩)
  have hw6 : k6 < W6.heap.size := HST6.out.b6.lt
  clear hb6
  go_upto_region 4 with fail
  rw [← hk6, ← hW6]
  clear hk6 hW6 hs0 hs1
  go_upto_if 25 with fail
  go_cut [6] from 17 (fun s6 wx => s6 = .pointer (some ⟨k6, 0, none⟩) ∧ ∃ W9 A0 L0, W9 = wx ∧ L0.map Bg.z = List.replicate wd 0 ∧ L0.length = wd ∧ ST w wx k3 k4 k6 #[.slice sA sn sc, .bool sd.neg, .slice sd.A sd.n sd.c] A0 L0 Bg.zero K)
  case first =>
    by_cases hn0 : n = 0
    · have hwz := hz hn0
      have hng : ¬ ((n : Int) > 0) := by omega
      have HWZ := Lib.hid hwz
      clear hn0 hwz
      go_wp2_with fail
      go_meet
      case rel => exact ⟨rfl, _, none, [], rfl, by rw [HWZ.out]; rfl, HWZ.out.symm, HST6.out.wide (Nat.zero_le _)⟩
    · have hng : (n : Int) > 0 := by omega
      have h0L : 0 < Q.length := by rw [HQL.out]; omega
      obtain ⟨bQ, offQ, rfl, -, hc⟩ := at3 (fun _ => rfl) HAT.out.1 (show 0 < n by omega)
      obtain ⟨q0, q1, q2⟩ := hc W6 HST6.out.below 0 h0L _ _ _ rfl
      rw [Nat.zero_mul, Nat.add_zero] at q0
      rw [HSYS.out _ (List.getElem_mem h0L)] at q0
      clear q1 q2 hc
      generalize Q[0] = x0 at *
      have hmk := make42 wd hwd
      obtain ⟨g, hg⟩ : ∃ g, g = W6.heap.size := ⟨_, rfl⟩
      have hgk : g ≠ k6 := by omega
      obtain ⟨W7, hW7⟩ : ∃ W7, W7 = W6.alloc (.cells ((List.replicate wd Bg.zero).flatMap Bg.cells).toArray 37) := ⟨_, rfl⟩
      have hb7 : Below W6.heap.size W6 W7 := by rw [hW7]; exact (Below.refl _ _).alloc (Nat.le_refl _) _
      have HR7 := Lib.hid (Rw.make hW7 hg (show w.heap.size ≤ g by have := HST6.out.below.size; omega))
      have HST7 := Lib.hid (HST6.out.keep hb7)
      have b0 : W7.cell? ⟨k6, 0, none⟩ = some (.slice none 0 0) := HST7.out.b6.cell 0
      have f0 : W7.frozen? ⟨k6, 0, none⟩ = false := Joins.unfrozen_of_block HST7.out.b6 0
      have HST8 := Lib.hid (HST7.out.setA HR7.out)
      rw [hW7, hg] at HST8
      rw [hW7] at b0 f0
      clear hb7 hW7
      rw [List.length_replicate, World.setCell_alloc_past _ _ _ _ hw6] at HST8
      go_wp2_with fail
      go_meet
      case rel => exact ⟨rfl, _, _, _, rfl, (by rw [List.map_replicate]; rfl : (List.replicate wd Bg.zero).map Bg.z = List.replicate wd 0), List.length_replicate, HST8.out.wide (Nat.zero_le _)⟩
  case rest =>
    obtain ⟨rfl, W9, A0, L0, rfl, hz0, hl0, hst0⟩ := hcut
    have HST0 := Lib.hid hst0
    have HZ0 := Lib.hid hz0
    have HL0 := Lib.hid hl0
    clear hst0 hz0 hl0 hw6 HST6
    have a0 : W9.cell? ⟨k3, 0, none⟩ = some (.slice sA sn sc) := HST0.out.b3.cell 0
    go_wp2
    clear a0
    go_loopw [36] (fun s36 wr => ∃ (k : Nat) (L : List Bg) (b : Bg), s36 = .int .i64 (k : Int) ∧ k ≤ sn ∧ L.length = wd ∧ sumM (Q.map Iq.m) ((U.map Us.m).drop k) (L.map Bg.z, b.z) = RS ∧ Bd (L.map Bg.z, b.z) (k * M) ∧ ST w wr k3 k4 k6 #[.slice sA sn sc, .bool sd.neg, .slice sd.A sd.n sd.c] A0 L b K) (fun s36 _ => sn - (intOf s36).toNat)
    case atStart => exact ⟨0, L0, Bg.zero, rfl, Nat.zero_le _, HL0.out, by rw [List.drop_zero, HZ0.out]; exact HRS.out, ⟨fun z hz => by rw [HZ0.out] at hz; rw [List.eq_of_mem_replicate hz]; exact Nat.zero_le _, Nat.zero_le _⟩, HST0.out⟩
    case round =>
      obtain ⟨k, L, b, rfl, hkn, hL, hsum, hbd, hst⟩ := hrel
      generalize wr = X0 at *
      have HL := Lib.hid hL
      have HSUM := Lib.hid hsum
      have HBD := Lib.hid hbd
      have HST := Lib.hid hst
      clear hL hsum hbd hst
      by_cases hlt : k < sn
      · have hki : (k : Int) < (sn : Int) := by omega
        have hk0 : (0 : Int) ≤ (k : Int) := by omega
        have hkU : k < U.length := by rw [HUL.out]; exact hlt
        obtain ⟨bU, offU, rfl, -, hcu⟩ := at3 (fun _ => rfl) HUS.out.1 (show 0 < sn by omega)
        obtain ⟨e0, e1, e2⟩ := hcu X0 HST.out.below k hkU _ _ _ rfl
        have HUB := Lib.hid (HUS.out.2.2 _ (List.getElem_mem hkU))
        have HSTEP := Lib.hid (sumM_step (Q.map Iq.m) (U.map Us.m) k (by rw [List.length_map]; exact hkU) (L.map Bg.z, b.z))
        have HSTOP := Lib.hid (sumM_stop (Q.map Iq.m) (U.map Us.m) k (by rw [List.length_map]; exact hkU) (L.map Bg.z, b.z))
        rw [List.getElem_map] at HSTEP HSTOP
        unfold Us.m at HSTEP HSTOP
        clear hcu
        generalize U[k] = u at *
        obtain ⟨ui, ub⟩ := u
        dsimp only at *
        obtain ⟨k8, hk8⟩ : ∃ k8, k8 = X0.heap.size := ⟨_, rfl⟩
        obtain ⟨X1, hX1⟩ : ∃ X1, X1 = X0.alloc (.cells #[.int .i64 ui, .bool ub.neg, .slice ub.A ub.n ub.c] 62) := ⟨_, rfl⟩
        have hb1 : Below X0.heap.size X0 X1 := by rw [hX1]; exact (Below.refl _ _).alloc (Nat.le_refl _) _
        have K8 := Lib.hid (show Blk X1 k8 62 #[.int .i64 ui, .bool ub.neg, .slice ub.A ub.n ub.c] by rw [hX1]; exact Blk.new_ hk8 rfl)
        have HST1 := Lib.hid (HST.out.keep hb1)
        clear hb1
        go_upto_region 9 with fail
        rw [← hk8, ← hX1]
        clear hk8 hX1 e0 e1 e2
        have u0 : X1.cell? ⟨k8, 0, none⟩ = some (.int .i64 ui) := K8.out.cell 0
        have u1 : X1.cell? ⟨k8, 1, none⟩ = some (.bool ub.neg) := K8.out.cell 1
        have u2 : X1.cell? ⟨k8, 2, none⟩ = some (.slice ub.A ub.n ub.c) := K8.out.cell 2
        have HQM := Lib.hid (show (Q.map Iq.m).length = n by rw [List.length_map]; exact HQL.out)
        by_cases hi0 : ui < 0
        · have hi0b : (decide (ui < 0)) = true := decide_eq_true hi0
          have HRN := Lib.hid (show r = none from HSM.out.1 (HSUM.out.symm.trans (HSTOP.out (Or.inl hi0))))
          have b0 := HST1.out.b4.cell 0
          have b1 := HST1.out.b4.cell 1
          have b2 := HST1.out.b4.cell 2
          simp only [List.getElem?_toArray, List.getElem?_cons_zero, List.getElem?_cons_succ] at b0 b1 b2
          have f0 := Joins.unfrozen_of_block HST1.out.b4 0
          have f1 := Joins.unfrozen_of_block HST1.out.b4 1
          have f2 := Joins.unfrozen_of_block HST1.out.b4 2
          have HS3 := Lib.hid (store3 HST1.out.b4 (.slice none 0 0) (.bool false) (.slice none 0 0))
          go_wp2
          try simp only [Exit.inBlock, Exit.then]
          refine bodyPost_ret (results_c2 rfl _ _ _ k4 _ rfl (load44 HS3.out.1 rfl)) rfl ?_
          exact ⟨HS3.out.2 _ _ HST1.out.below hk4w, fun _ => rfl, fun m hm => by rw [HRN.out] at hm; cases hm⟩
        have hi0b : (decide (ui < 0)) = false := decide_eq_false hi0
        by_cases hi1 : ui ≥ (n : Int)
        · have hi1b : (decide ((n : Int) ≤ ui)) = true := decide_eq_true hi1
          have HRN := Lib.hid (show r = none from HSM.out.1 (HSUM.out.symm.trans (HSTOP.out (Or.inr (Or.inl (by rw [HQM.out]; exact hi1))))))
          have b0 := HST1.out.b4.cell 0
          have b1 := HST1.out.b4.cell 1
          have b2 := HST1.out.b4.cell 2
          simp only [List.getElem?_toArray, List.getElem?_cons_zero, List.getElem?_cons_succ] at b0 b1 b2
          have f0 := Joins.unfrozen_of_block HST1.out.b4 0
          have f1 := Joins.unfrozen_of_block HST1.out.b4 1
          have f2 := Joins.unfrozen_of_block HST1.out.b4 2
          have HS3 := Lib.hid (store3 HST1.out.b4 (.slice none 0 0) (.bool false) (.slice none 0 0))
          go_wp2
          try simp only [Exit.inBlock, Exit.then]
          refine bodyPost_ret (results_c2 rfl _ _ _ k4 _ rfl (load44 HS3.out.1 rfl)) rfl ?_
          exact ⟨HS3.out.2 _ _ HST1.out.below hk4w, fun _ => rfl, fun m hm => by rw [HRN.out] at hm; cases hm⟩
        have hi1b : (decide ((n : Int) ≤ ui)) = false := decide_eq_false hi1
        have hi1n : ui < (n : Int) := by omega
        have hi0n : 0 ≤ ui := by omega
        have CSU := Lib.hid (Sign_any ub.val ub.z Ns X1 (HUB.out.below HST1.out.below))
        unfold Bg.val at CSU
        go_wp2_with fail
        clear u0 u1 u2
        refine CSU.out.mono ?_
        rintro e4 X2 ⟨rfl, hb2⟩
        have HST2 := Lib.hid (HST1.out.keep hb2)
        have K82 := Lib.hid (K8.out.below hb2)
        clear hb2 CSU
        by_cases hneg : ub.z < 0
        · have hs1 : ub.z.sign < 0 := sign_lt.2 hneg
          have hs2 : (decide (ub.z.sign < 0)) = true := decide_eq_true hs1
          have HRN0 := Lib.hid (show RS = none from HSUM.out.symm.trans (HSTOP.out (Or.inr (Or.inr hneg))))
          generalize ub.z.sign = sg2 at *
          have HRN := Lib.hid (show r = none from HSM.out.1 (HRN0.out))
          have b0 := HST2.out.b4.cell 0
          have b1 := HST2.out.b4.cell 1
          have b2 := HST2.out.b4.cell 2
          simp only [List.getElem?_toArray, List.getElem?_cons_zero, List.getElem?_cons_succ] at b0 b1 b2
          have f0 := Joins.unfrozen_of_block HST2.out.b4 0
          have f1 := Joins.unfrozen_of_block HST2.out.b4 1
          have f2 := Joins.unfrozen_of_block HST2.out.b4 2
          have HS3 := Lib.hid (store3 HST2.out.b4 (.slice none 0 0) (.bool false) (.slice none 0 0))
          go_wp2
          try simp only [Exit.inBlock, Exit.then]
          refine bodyPost_ret (results_c2 rfl _ _ _ k4 _ rfl (load44 HS3.out.1 rfl)) rfl ?_
          exact ⟨HS3.out.2 _ _ HST2.out.below hk4w, fun _ => rfl, fun m hm => by rw [HRN.out] at hm; cases hm⟩
        have HNEG := Lib.hid hneg
        have hs1 : ¬ (ub.z.sign < 0) := by rw [sign_lt]; exact hneg
        have hs2 : (decide (ub.z.sign < 0)) = false := decide_eq_false hs1
        generalize ub.z.sign = sg2 at *
        obtain ⟨iN, rfl⟩ : ∃ iN : Nat, ui = (iN : Int) := ⟨ui.toNat, by omega⟩
        have hiQ : iN < Q.length := by rw [HQL.out]; omega
        have HNX := Lib.hid ((HSTEP.out (by rw [HQM.out]; omega)).symm.trans HSUM.out)
        rw [show (Q.map Iq.m).getD (Int.toNat (iN : Int)) ([], 0) = Iq.m Q[iN] by rw [Int.toNat_natCast, List.getD_eq_getElem?_getD, List.getElem?_map, List.getElem?_eq_getElem hiQ]; rfl] at HNX
        obtain ⟨bQ, offQ, rfl, -, hcq⟩ := at3 (fun _ => rfl) HAT.out.1 (show 0 < n by omega)
        obtain ⟨q0, q1, q2⟩ := hcq X2 HST2.out.below iN hiQ _ _ _ rfl
        have HQB := Lib.hid (HAT.out.2.2 _ (List.getElem_mem hiQ)).1
        have HQB2 := Lib.hid (HAT.out.2.2 _ (List.getElem_mem hiQ)).2
        have hqn : wd = Q[iN].n := (HSYS.out _ (List.getElem_mem hiQ)).symm
        clear hcq hneg hi0 hi1 HSTEP HSTOP
        generalize Q[iN] = q at *
        obtain ⟨qA, qn, qc, qL, qb⟩ := q
        unfold Iq.m at HNX
        dsimp only at *
        subst hqn
        have HQLl := Lib.hid HQB.out.len
        obtain ⟨T, hT⟩ : ∃ T, T = List.zipWith (fun a b => a + ub.z * b) (L.map Bg.z) (qL.map Bg.z) := ⟨_, rfl⟩
        have HNX := Lib.hid (show sumM (Q.map Iq.m) ((U.map Us.m).drop (k + 1)) (T, b.z + ub.z * qb.z) = RS by rw [hT]; exact HNX.out)
        have hBq : ∀ (z : Bg), z ∈ qL → (ub.z * z.z).natAbs ≤ M := fun z hz => by rw [HM.out]; exact mul_abs HUB.out.abs (HQB.out.2.2 z hz).abs
        have HBN := Lib.hid (show Bd (T, b.z + ub.z * qb.z) ((k + 1) * M) by
          rw [hT]
          exact HBD.out.add (S := (L.map Bg.z, b.z)) (q := (qL.map Bg.z, qb.z)) (fun z hz => by obtain ⟨y, hy, rfl⟩ := List.mem_map.1 hz; exact hBq y hy) (by rw [HM.out]; exact mul_abs HUB.out.abs HQB2.out.abs))
        have HTL := Lib.hid (show T.length = wd by rw [hT, List.length_zipWith, List.length_map, List.length_map, HL.out, HQLl.out, Nat.min_self])
        have HTG := Lib.hid (show ∀ j (h1 : j < T.length) (h2 : j < L.length) (h3 : j < qL.length), T[j] = L[j].z + ub.z * qL[j].z from fun j h1 h2 h3 => by subst hT; simp)
        have HTB := Lib.hid (show (b.z + ub.z * qb.z).natAbs < 4294967296 ^ K from HFIT.out _ (k + 1) HBN.out.2 hlt)
        clear hT hBq
        obtain ⟨k9, hk9⟩ : ∃ k9, k9 = X2.heap.size := ⟨_, rfl⟩
        obtain ⟨X3, hX3⟩ : ∃ X3, X3 = X2.alloc (.cells #[.slice qA wd qc, .bool qb.neg, .slice qb.A qb.n qb.c] 44) := ⟨_, rfl⟩
        have hb3 : Below X2.heap.size X2 X3 := by rw [hX3]; exact (Below.refl _ _).alloc (Nat.le_refl _) _
        have K9 := Lib.hid (show Blk X3 k9 44 #[.slice qA wd qc, .bool qb.neg, .slice qb.A qb.n qb.c] by rw [hX3]; exact Blk.new_ hk9 rfl)
        have HST3 := Lib.hid (HST2.out.keep hb3)
        have K83 := Lib.hid (K82.out.below hb3)
        have hk96 : k6 ≠ k9 := by have := HST2.out.b6.lt; omega
        have HK96 := Lib.hid hk96
        clear hb3 hk96
        have u0 : X2.cell? ⟨k8, 0, none⟩ = some (.int .i64 (iN : Int)) := K82.out.cell 0
        go_upto_region 12 with fail
        rw [← hk9, ← hX3]
        clear hk9 hX3 q0 q1 q2 u0 hs1 hs2
        have q0 : X3.cell? ⟨k9, 0, none⟩ = some (.slice qA wd qc) := K9.out.cell 0
        go_wp2
        clear q0
        go_loopw [65] (fun s65 wr2 => ∃ (j : Nat) (L' : List Bg), s65 = .int .i64 (j : Int) ∧ j ≤ wd ∧ L'.length = wd ∧ L'.map Bg.z = T.take j ++ (L.map Bg.z).drop j ∧ ST w wr2 k3 k4 k6 #[.slice (some ⟨bU, offU, none⟩) sn sc, .bool sd.neg, .slice sd.A sd.n sd.c] A0 L' b K ∧ Blk wr2 k8 62 #[.int .i64 (iN : Int), .bool ub.neg, .slice ub.A ub.n ub.c] ∧ Blk wr2 k9 44 #[.slice qA wd qc, .bool qb.neg, .slice qb.A qb.n qb.c]) (fun s65 _ => wd - (intOf s65).toNat)
        case atStart => exact ⟨0, L, rfl, Nat.zero_le _, HL.out, by rw [List.take_zero, List.drop_zero, List.nil_append], HST3.out, K83.out, K9.out⟩
        case round =>
          obtain ⟨j, L', rfl, hjn, hL', hmx, hstv, hk8v, hk9v⟩ := hrel
          generalize wr = V0 at *
          have HL' := Lib.hid hL'
          have HMX := Lib.hid hmx
          have HSTV := Lib.hid hstv
          have K8V := Lib.hid hk8v
          have K9V := Lib.hid hk9v
          clear hL' hmx hstv hk8v hk9v
          by_cases hjl : j < wd
          · have hji : (j : Int) < (wd : Int) := by omega
            have hj0 : (0 : Int) ≤ (j : Int) := by omega
            have hjq : j < qL.length := by rw [HQLl.out]; exact hjl
            have hjL : j < L.length := by rw [HL.out]; exact hjl
            have hjT : j < T.length := by rw [HTL.out]; exact hjl
            have hlTS : T.length = (L.map Bg.z).length := by rw [HTL.out, List.length_map, HL.out]
            obtain ⟨bq, offq, rfl, -, hcx⟩ := HQB.out.at (by omega)
            obtain ⟨c0, c1⟩ := hcx V0 HSTV.out.below j hjq
            have HXB := Lib.hid (HQB.out.2.2 _ (List.getElem_mem hjq))
            have HTj := Lib.hid (HTG.out j hjT hjL hjq)
            have HMS := Lib.hid (mix_set T (L.map Bg.z) j hlTS hjT)
            have HSKIP := Lib.hid (mix_skip T (L.map Bg.z) j hlTS hjT)
            rw [List.getElem_map] at HSKIP
            have HTA := Lib.hid (HFIT.out T[j] (k + 1) (HBN.out.1 _ (List.getElem_mem hjT)) hlt)
            have hDJ : j < L'.length := by rw [HL'.out]; exact hjl
            have HDZ := Lib.hid (show L'[j].z = L[j].z by
              have h1 := mix_get T (L.map Bg.z) j hlTS (by rw [List.length_map]; exact hjL)
              rw [← HMX.out, List.getElem?_map, List.getElem?_eq_getElem hDJ, List.getElem_map] at h1
              injection h1)
            clear hcx
            generalize qL[j] = x at *
            obtain ⟨k11, hk11⟩ : ∃ k11, k11 = V0.heap.size := ⟨_, rfl⟩
            obtain ⟨V1, hV1⟩ : ∃ V1, V1 = V0.alloc (.cells #[.bool x.neg, .slice x.A x.n x.c] 37) := ⟨_, rfl⟩
            have hb1 : Below V0.heap.size V0 V1 := by rw [hV1]; exact (Below.refl _ _).alloc (Nat.le_refl _) _
            have K11 := Lib.hid (show Blk V1 k11 37 #[.bool x.neg, .slice x.A x.n x.c] by rw [hV1]; exact Blk.new_ hk11 rfl)
            have HSTV1 := Lib.hid (HSTV.out.keep hb1)
            have K8V1 := Lib.hid (K8V.out.below hb1)
            have K9V1 := Lib.hid (K9V.out.below hb1)
            have CSX := Lib.hid (Sign_any x.val x.z Nl V1 (HXB.out.below HSTV1.out.below))
            unfold Bg.val at CSX
            clear hb1
            go_upto_region 15 with fail
            rw [← hk11, ← hV1]
            clear hk11 hV1 c0 c1
            have x0 : V1.cell? ⟨k11, 0, none⟩ = some (.bool x.neg) := K11.out.cell 0
            have x1 : V1.cell? ⟨k11, 1, none⟩ = some (.slice x.A x.n x.c) := K11.out.cell 1
            go_wp2_with fail
            clear x0 x1
            refine CSX.out.mono ?_
            rintro e6 V5 ⟨rfl, hb5⟩
            have HST5 := Lib.hid (HSTV1.out.keep hb5)
            have K85 := Lib.hid (K8V1.out.below hb5)
            have K95 := Lib.hid (K9V1.out.below hb5)
            have K115 := Lib.hid (K11.out.below hb5)
            clear hb5 CSX
            by_cases hxz : x.z = 0
            · have hs : x.z.sign = 0 := by rw [hxz]; rfl
              have HE := Lib.hid (HSKIP.out (by rw [HTj.out, hxz]; omega))
              rw [hs]
              clear hs hxz
              go_wp2
              go_roundw
              case rel => exact ⟨j + 1, L', by go_num, hjl, HL'.out, by rw [HMX.out]; exact HE.out, HST5.out, K85.out, K95.out⟩
              case measure => simp [intOf]; omega
            · have hs := sign_ne hxz
              have hs2 : (x.z.sign == 0) = false := by simpa using hs
              have hs3 : (x.z.sign != 0) = true := by simpa using hs
              generalize x.z.sign = sg3 at *
              clear hxz
              obtain ⟨g, rfl, -⟩ := HST5.out.ro.own (by omega)
              have z60 : V5.cell? ⟨k6, 0, none⟩ = some (.slice (some ⟨g, 0, none⟩) wd wd) := by have := HST5.out.b6.cell 0; rw [HL'.out] at this; exact this
              obtain ⟨d0, d1⟩ := HST5.out.rw.cells j hDJ
              have u1 : V5.cell? ⟨k8, 1, none⟩ = some (.bool ub.neg) := K85.out.cell 1
              have u2 : V5.cell? ⟨k8, 2, none⟩ = some (.slice ub.A ub.n ub.c) := K85.out.cell 2
              have x0 : V5.cell? ⟨k11, 0, none⟩ = some (.bool x.neg) := K115.out.cell 0
              have x1 : V5.cell? ⟨k11, 1, none⟩ = some (.slice x.A x.n x.c) := K115.out.cell 1
              have HDN := Lib.hid (show ∀ W, Below w.heap.size w W → Below V5.heap.size V5 W → NB W w.heap.size L'[j].val L'[j].z K from fun W _ hW => (HST5.out.rw.2.2 _ (List.getElem_mem hDJ)).below hW)
              have HTJ := Lib.hid (show (L'[j].z + ub.z * x.z).natAbs < 4294967296 ^ K by rw [HDZ.out, ← HTj.out]; exact HTA.out)
              have HMS := Lib.hid (show (T.take j ++ (L.map Bg.z).drop j).set j (L'[j].z + ub.z * x.z) = T.take (j + 1) ++ (L.map Bg.z).drop (j + 1) by rw [HDZ.out, ← HTj.out]; exact HMS.out)
              clear HSKIP HDZ hs
              generalize L'[j] = dd at *
              go_upto_region 16 with fail
              have hb0 : Below V5.heap.size V5 V5.drew := below_drew (Below.refl _ _)
              refine wp_region_mix 14 (fun w' => Below V5.heap.size V5 w') (by kernel_rfl) (by decide) ?_
              have HSTy := Lib.hid (HST5.out.keep hb0)
              have K8y := Lib.hid (K85.out.below hb0)
              have K9y := Lib.hid (K95.out.below hb0)
              generalize V5.drew = y0 at hb0 HSTy K8y K9y ⊢
              have CM := Lib.hid (Mul_any ub.val x.val ub.z x.z Ns Nl y0 (HUB.out.below HSTy.out.below) (HXB.out.below HSTy.out.below) (by omega) (by omega))
              unfold Bg.val at CM
              refine wpM_take (i := 0) (oi := ⟨some 73, _, _, _, _, _⟩) (v := ?_) rfl (by decide +kernel) (by decide +kernel) (by decide +kernel) (fun _ _ _ h => h) (Or.inl ⟨by rfl, ?_⟩) hb0 ?_
              case refine_2 =>
                intro w' hSw
                have z60' := keepcell hSw z60
                have d0' := keepcell hSw d0
                have d1' := keepcell hSw d1
                have u1' := keepcell hSw u1
                have u2' := keepcell hSw u2
                have x0' := keepcell hSw x0
                have x1' := keepcell hSw x1
                go_simp
                try (with_reducible rfl)
              try simp only [Act.put, List.setIfInBounds_toArray, List.set_cons_zero, List.set_cons_succ]
              refine wpM_take (i := 1) (oi := ⟨some 74, _, _, _, _, _⟩) (v := ?_) rfl (by decide +kernel) (by decide +kernel) (by decide +kernel) (fun _ _ _ h => h) (Or.inl ⟨by rfl, ?_⟩) hb0 ?_
              case refine_2 =>
                intro w' hSw
                have z60' := keepcell hSw z60
                have d0' := keepcell hSw d0
                have d1' := keepcell hSw d1
                have u1' := keepcell hSw u1
                have u2' := keepcell hSw u2
                have x0' := keepcell hSw x0
                have x1' := keepcell hSw x1
                go_simp
                try (with_reducible rfl)
              try simp only [Act.put, List.setIfInBounds_toArray, List.set_cons_zero, List.set_cons_succ]
              refine wpM_take (i := 2) (oi := ⟨some 75, _, _, _, _, _⟩) (v := ?_) rfl (by decide +kernel) (by decide +kernel) (by decide +kernel) (fun _ _ _ h => h) (Or.inl ⟨by rfl, ?_⟩) hb0 ?_
              case refine_2 =>
                intro w' hSw
                have z60' := keepcell hSw z60
                have d0' := keepcell hSw d0
                have d1' := keepcell hSw d1
                have u1' := keepcell hSw u1
                have u2' := keepcell hSw u2
                have x0' := keepcell hSw x0
                have x1' := keepcell hSw x1
                go_simp
                try (with_reducible rfl)
              try simp only [Act.put, List.setIfInBounds_toArray, List.set_cons_zero, List.set_cons_succ]
              refine wpM_take (i := 3) (oi := ⟨some 76, _, _, _, _, _⟩) (v := ?_) rfl (by decide +kernel) (by decide +kernel) (by decide +kernel) (fun _ _ _ h => h) (Or.inl ⟨by rfl, ?_⟩) hb0 ?_
              case refine_2 =>
                intro w' hSw
                have z60' := keepcell hSw z60
                have d0' := keepcell hSw d0
                have d1' := keepcell hSw d1
                have u1' := keepcell hSw u1
                have u2' := keepcell hSw u2
                have x0' := keepcell hSw x0
                have x1' := keepcell hSw x1
                go_simp
                try (with_reducible rfl)
              try simp only [Act.put, List.setIfInBounds_toArray, List.set_cons_zero, List.set_cons_succ]
              refine wpM_take (i := 4) (oi := ⟨some 77, _, _, _, _, _⟩) (v := ?_) rfl (by decide +kernel) (by decide +kernel) (by decide +kernel) (fun _ _ _ h => h) (Or.inl ⟨by rfl, ?_⟩) hb0 ?_
              case refine_2 =>
                intro w' hSw
                have z60' := keepcell hSw z60
                have d0' := keepcell hSw d0
                have d1' := keepcell hSw d1
                have u1' := keepcell hSw u1
                have u2' := keepcell hSw u2
                have x0' := keepcell hSw x0
                have x1' := keepcell hSw x1
                go_simp
                try (with_reducible rfl)
              try simp only [Act.put, List.setIfInBounds_toArray, List.set_cons_zero, List.set_cons_succ]
              refine wpM_take (i := 5) (oi := ⟨some 78, _, _, _, _, _⟩) (v := ?_) rfl (by decide +kernel) (by decide +kernel) (by decide +kernel) (fun _ _ _ h => h) (Or.inl ⟨by rfl, ?_⟩) hb0 ?_
              case refine_2 =>
                intro w' hSw
                have z60' := keepcell hSw z60
                have d0' := keepcell hSw d0
                have d1' := keepcell hSw d1
                have u1' := keepcell hSw u1
                have u2' := keepcell hSw u2
                have x0' := keepcell hSw x0
                have x1' := keepcell hSw x1
                go_simp
                try (with_reducible rfl)
              try simp only [Act.put, List.setIfInBounds_toArray, List.set_cons_zero, List.set_cons_succ]
              refine wpM_take (i := 6) (oi := ⟨some 79, _, _, _, _, _⟩) (v := ?_) rfl (by decide +kernel) (by decide +kernel) (by decide +kernel) (fun _ _ _ h => h) (Or.inl ⟨by rfl, ?_⟩) hb0 ?_
              case refine_2 =>
                intro w' hSw
                have z60' := keepcell hSw z60
                have d0' := keepcell hSw d0
                have d1' := keepcell hSw d1
                have u1' := keepcell hSw u1
                have u2' := keepcell hSw u2
                have x0' := keepcell hSw x0
                have x1' := keepcell hSw x1
                go_simp
                try (with_reducible rfl)
              try simp only [Act.put, List.setIfInBounds_toArray, List.set_cons_zero, List.set_cons_succ]
              refine wpM_take (i := 7) (oi := ⟨some 80, _, _, _, _, _⟩) (v := ?_) rfl (by decide +kernel) (by decide +kernel) (by decide +kernel) (fun _ _ _ h => h) (Or.inl ⟨by rfl, ?_⟩) hb0 ?_
              case refine_2 =>
                intro w' hSw
                have z60' := keepcell hSw z60
                have d0' := keepcell hSw d0
                have d1' := keepcell hSw d1
                have u1' := keepcell hSw u1
                have u2' := keepcell hSw u2
                have x0' := keepcell hSw x0
                have x1' := keepcell hSw x1
                go_simp
                try (with_reducible rfl)
              try simp only [Act.put, List.setIfInBounds_toArray, List.set_cons_zero, List.set_cons_succ]
              refine wpM_take (i := 8) (oi := ⟨some 81, _, _, _, _, _⟩) (v := ?_) rfl (by decide +kernel) (by decide +kernel) (by decide +kernel) (fun _ _ _ h => h) (Or.inl ⟨by rfl, ?_⟩) hb0 ?_
              case refine_2 =>
                intro w' hSw
                have z60' := keepcell hSw z60
                have d0' := keepcell hSw d0
                have d1' := keepcell hSw d1
                have u1' := keepcell hSw u1
                have u2' := keepcell hSw u2
                have x0' := keepcell hSw x0
                have x1' := keepcell hSw x1
                go_simp
                try (with_reducible rfl)
              try simp only [Act.put, List.setIfInBounds_toArray, List.set_cons_zero, List.set_cons_succ]
              refine wpM_take (i := 9) (oi := ⟨some 82, _, _, _, _, _⟩) (v := ?_) rfl (by decide +kernel) (by decide +kernel) (by decide +kernel) (fun _ _ _ h => h) (Or.inl ⟨by rfl, ?_⟩) hb0 ?_
              case refine_2 =>
                intro w' hSw
                have z60' := keepcell hSw z60
                have d0' := keepcell hSw d0
                have d1' := keepcell hSw d1
                have u1' := keepcell hSw u1
                have u2' := keepcell hSw u2
                have x0' := keepcell hSw x0
                have x1' := keepcell hSw x1
                go_simp
                try (with_reducible rfl)
              try simp only [Act.put, List.setIfInBounds_toArray, List.set_cons_zero, List.set_cons_succ]
              refine wpM_take (i := 10) (oi := ⟨some 83, _, _, _, _, _⟩) (v := ?_) rfl (by decide +kernel) (by decide +kernel) (by decide +kernel) (fun _ _ _ h => h) (Or.inl ⟨by rfl, ?_⟩) hb0 ?_
              case refine_2 =>
                intro w' hSw
                have z60' := keepcell hSw z60
                have d0' := keepcell hSw d0
                have d1' := keepcell hSw d1
                have u1' := keepcell hSw u1
                have u2' := keepcell hSw u2
                have x0' := keepcell hSw x0
                have x1' := keepcell hSw x1
                go_simp
                try (with_reducible rfl)
              try simp only [Act.put, List.setIfInBounds_toArray, List.set_cons_zero, List.set_cons_succ]
              refine wpM_step (i := 11) (o := ⟨some 84, _, _, _, _, _⟩) rfl (by decide +kernel) (by decide) (fun KK hK => ?_)
              go_simp
              refine CM.out.mono ?_
              rintro e y1 ⟨v1, rfl, hv1, hb1⟩
              have hb01 : Below V5.heap.size V5 y1 := hb0.trans (hb1.mono hb0.size)
              have HSTy1 := Lib.hid (HSTy.out.keep hb1)
              have K8y1 := Lib.hid (K8y.out.below hb1)
              have K9y1 := Lib.hid (K9y.out.below hb1)
              have HV1 := Lib.hid hv1.bg
              clear hv1 hb1
              refine hK.out _ _ hb01 ?_
              clear hK KK
              try simp only [Act.put, List.setIfInBounds_toArray, List.set_cons_zero, List.set_cons_succ]
              have HDy := Lib.hid (HDN.out y1 (HST5.out.below.trans (hb01.mono HST5.out.below.size)) hb01)
              have CA := Lib.hid (Add_any dd.val v1 dd.z (ub.z * x.z) K (Ns + Nl) y1 HDy.out.bg HV1.out (by omega) (by omega))
              unfold Bg.val at CA
              refine wpM_step (i := 12) (o := ⟨some 85, _, _, _, _, _⟩) rfl (by decide +kernel) (by decide) (fun KK hK => ?_)
              go_simp
              refine CA.out.mono ?_
              rintro e y2 ⟨v2, rfl, hv2, hb2⟩
              have hb02 : Below V5.heap.size V5 y2 := hb01.trans (hb2.mono hb01.size)
              have HSTy2 := Lib.hid (HSTy1.out.keep hb2)
              have K8y2 := Lib.hid (K8y1.out.below hb2)
              have K9y2 := Lib.hid (K9y1.out.below hb2)
              have HV2 := Lib.hid ((hv2.mono HSTy1.out.below.size (Nat.le_refl _)).tight HTJ.out)
              clear hv2 hb2
              refine hK.out _ _ hb02 ?_
              clear hK KK
              try simp only [Act.put, List.setIfInBounds_toArray, List.set_cons_zero, List.set_cons_succ]
              obtain ⟨sb, Av, nv, cv, rfl⟩ := HV2.out.expose
              refine wpM_take (i := 13) (oi := ⟨some 86, _, _, _, _, _⟩) (v := ?_) rfl (by decide +kernel) (by decide +kernel) (by decide +kernel) (fun _ _ _ h => h) (Or.inl ⟨by rfl, ?_⟩) hb02 ?_
              case refine_2 =>
                intro w' hSw
                have z60' := keepcell hSw z60
                have d0' := keepcell hSw d0
                have d1' := keepcell hSw d1
                have u1' := keepcell hSw u1
                have u2' := keepcell hSw u2
                have x0' := keepcell hSw x0
                have x1' := keepcell hSw x1
                go_simp
                try (with_reducible rfl)
              try simp only [Act.put, List.setIfInBounds_toArray, List.set_cons_zero, List.set_cons_succ]
              refine wpM_done (by decide +kernel) ?_
              simp only [List.drop_succ_cons, List.drop_zero]
              clear z60 d0 d1 u1 u2 x0 x1
              obtain ⟨⟨uu0, g0⟩, z0, ⟨uu1, g1⟩, z1⟩ := (HSTy2.out.rw).ready j (by rw [HL'.out]; exact hjl) sb
              have HSTF := Lib.hid (HSTy2.out.setL rfl j (by rw [HL'.out]; exact hjl) ⟨sb, Av, nv, cv, dd.z + ub.z * x.z⟩ HV2.out)
              have hr37 := (HSTy2.out.rw).2.1
              have hr37b : Blk (y2.setCell ⟨g, j * 2, none⟩ (.bool sb)) g 37 _ := Joins.block_setCell hr37 _
              have K8F := Lib.hid ((K8y2.out.set_other hr37 (by decide) (j * 2) (.bool sb)).set_other hr37b (by decide) (j * 2 + 1) (.slice Av nv cv))
              have K9F := Lib.hid ((K9y2.out.set_other hr37 (by decide) (j * 2) (.bool sb)).set_other hr37b (by decide) (j * 2 + 1) (.slice Av nv cv))
              clear hr37 hr37b
              go_wp2
              go_roundw
              case rel => exact ⟨j + 1, _, by go_num, hjl, by rw [List.length_set]; exact HL'.out, by rw [List.map_set, HMX.out]; exact HMS.out, HSTF.out, K8F.out, K9F.out⟩
              case measure => simp [intOf]; omega
          · obtain rfl : j = wd := by omega
            have hjl2 : ¬ ((j : Int) < (j : Int)) := by omega
            have HFIN := Lib.hid (show (L'.map Bg.z, (b.z + ub.z * qb.z)) = (T, b.z + ub.z * qb.z) by
              have := HMX.out
              have hm := mix_end T (L.map Bg.z) (by rw [HTL.out, List.length_map, HL.out])
              rw [List.length_map, HL.out] at hm
              rw [this, hm])
            have z61 : V0.cell? ⟨k6, 1, none⟩ = some (.bool b.neg) := HSTV.out.b6.cell 1
            have z62 : V0.cell? ⟨k6, 2, none⟩ = some (.slice b.A b.n b.c) := HSTV.out.b6.cell 2
            have u1 : V0.cell? ⟨k8, 1, none⟩ = some (.bool ub.neg) := K8V.out.cell 1
            have u2 : V0.cell? ⟨k8, 2, none⟩ = some (.slice ub.A ub.n ub.c) := K8V.out.cell 2
            have q1 : V0.cell? ⟨k9, 1, none⟩ = some (.bool qb.neg) := K9V.out.cell 1
            have q2 : V0.cell? ⟨k9, 2, none⟩ = some (.slice qb.A qb.n qb.c) := K9V.out.cell 2
            go_upto_region 18 with fail
            have hb0 : Below V0.heap.size V0 V0.drew := below_drew (Below.refl _ _)
            refine wp_region_mix 9 (fun w' => Below V0.heap.size V0 w') (by kernel_rfl) (by decide) ?_
            have HSTy := Lib.hid (HSTV.out.keep hb0)
            generalize V0.drew = y0 at hb0 HSTy ⊢
            have CM := Lib.hid (Mul_any ub.val qb.val ub.z qb.z Ns Nl y0 (HUB.out.below HSTy.out.below) (HQB2.out.below HSTy.out.below) (by omega) (by omega))
            unfold Bg.val at CM
            refine wpM_take (i := 0) (oi := ⟨some 88, _, _, _, _, _⟩) (v := ?_) rfl (by decide +kernel) (by decide +kernel) (by decide +kernel) (fun _ _ _ h => h) (Or.inl ⟨by rfl, ?_⟩) hb0 ?_
            case refine_2 =>
              intro w' hSw
              have z61' := keepcell hSw z61
              have z62' := keepcell hSw z62
              have u1' := keepcell hSw u1
              have u2' := keepcell hSw u2
              have q1' := keepcell hSw q1
              have q2' := keepcell hSw q2
              go_simp
              try (with_reducible rfl)
            try simp only [Act.put, List.setIfInBounds_toArray, List.set_cons_zero, List.set_cons_succ]
            refine wpM_take (i := 1) (oi := ⟨some 89, _, _, _, _, _⟩) (v := ?_) rfl (by decide +kernel) (by decide +kernel) (by decide +kernel) (fun _ _ _ h => h) (Or.inl ⟨by rfl, ?_⟩) hb0 ?_
            case refine_2 =>
              intro w' hSw
              have z61' := keepcell hSw z61
              have z62' := keepcell hSw z62
              have u1' := keepcell hSw u1
              have u2' := keepcell hSw u2
              have q1' := keepcell hSw q1
              have q2' := keepcell hSw q2
              go_simp
              try (with_reducible rfl)
            try simp only [Act.put, List.setIfInBounds_toArray, List.set_cons_zero, List.set_cons_succ]
            refine wpM_take (i := 2) (oi := ⟨some 90, _, _, _, _, _⟩) (v := ?_) rfl (by decide +kernel) (by decide +kernel) (by decide +kernel) (fun _ _ _ h => h) (Or.inl ⟨by rfl, ?_⟩) hb0 ?_
            case refine_2 =>
              intro w' hSw
              have z61' := keepcell hSw z61
              have z62' := keepcell hSw z62
              have u1' := keepcell hSw u1
              have u2' := keepcell hSw u2
              have q1' := keepcell hSw q1
              have q2' := keepcell hSw q2
              go_simp
              try (with_reducible rfl)
            try simp only [Act.put, List.setIfInBounds_toArray, List.set_cons_zero, List.set_cons_succ]
            refine wpM_take (i := 3) (oi := ⟨some 91, _, _, _, _, _⟩) (v := ?_) rfl (by decide +kernel) (by decide +kernel) (by decide +kernel) (fun _ _ _ h => h) (Or.inl ⟨by rfl, ?_⟩) hb0 ?_
            case refine_2 =>
              intro w' hSw
              have z61' := keepcell hSw z61
              have z62' := keepcell hSw z62
              have u1' := keepcell hSw u1
              have u2' := keepcell hSw u2
              have q1' := keepcell hSw q1
              have q2' := keepcell hSw q2
              go_simp
              try (with_reducible rfl)
            try simp only [Act.put, List.setIfInBounds_toArray, List.set_cons_zero, List.set_cons_succ]
            refine wpM_take (i := 4) (oi := ⟨some 92, _, _, _, _, _⟩) (v := ?_) rfl (by decide +kernel) (by decide +kernel) (by decide +kernel) (fun _ _ _ h => h) (Or.inl ⟨by rfl, ?_⟩) hb0 ?_
            case refine_2 =>
              intro w' hSw
              have z61' := keepcell hSw z61
              have z62' := keepcell hSw z62
              have u1' := keepcell hSw u1
              have u2' := keepcell hSw u2
              have q1' := keepcell hSw q1
              have q2' := keepcell hSw q2
              go_simp
              try (with_reducible rfl)
            try simp only [Act.put, List.setIfInBounds_toArray, List.set_cons_zero, List.set_cons_succ]
            refine wpM_take (i := 5) (oi := ⟨some 93, _, _, _, _, _⟩) (v := ?_) rfl (by decide +kernel) (by decide +kernel) (by decide +kernel) (fun _ _ _ h => h) (Or.inl ⟨by rfl, ?_⟩) hb0 ?_
            case refine_2 =>
              intro w' hSw
              have z61' := keepcell hSw z61
              have z62' := keepcell hSw z62
              have u1' := keepcell hSw u1
              have u2' := keepcell hSw u2
              have q1' := keepcell hSw q1
              have q2' := keepcell hSw q2
              go_simp
              try (with_reducible rfl)
            try simp only [Act.put, List.setIfInBounds_toArray, List.set_cons_zero, List.set_cons_succ]
            refine wpM_step (i := 6) (o := ⟨some 94, _, _, _, _, _⟩) rfl (by decide +kernel) (by decide) (fun KK hK => ?_)
            go_simp
            refine CM.out.mono ?_
            rintro e y1 ⟨v1, rfl, hv1, hb1⟩
            have hb01 : Below V0.heap.size V0 y1 := hb0.trans (hb1.mono hb0.size)
            have HSTy1 := Lib.hid (HSTy.out.keep hb1)
            have HV1 := Lib.hid hv1.bg
            clear hv1 hb1
            refine hK.out _ _ hb01 ?_
            clear hK KK
            try simp only [Act.put, List.setIfInBounds_toArray, List.set_cons_zero, List.set_cons_succ]
            have CA := Lib.hid (Add_any b.val v1 b.z (ub.z * qb.z) K (Ns + Nl) y1 HSTy1.out.bd.bg HV1.out (by omega) (by omega))
            unfold Bg.val at CA
            refine wpM_step (i := 7) (o := ⟨some 95, _, _, _, _, _⟩) rfl (by decide +kernel) (by decide) (fun KK hK => ?_)
            go_simp
            refine CA.out.mono ?_
            rintro e y2 ⟨v2, rfl, hv2, hb2⟩
            have hb02 : Below V0.heap.size V0 y2 := hb01.trans (hb2.mono hb01.size)
            have HSTy2 := Lib.hid (HSTy1.out.keep hb2)
            have HV2 := Lib.hid ((hv2.mono HSTy1.out.below.size (Nat.le_refl _)).tight HTB.out)
            clear hv2 hb2
            refine hK.out _ _ hb02 ?_
            clear hK KK
            try simp only [Act.put, List.setIfInBounds_toArray, List.set_cons_zero, List.set_cons_succ]
            obtain ⟨sb, Av, nv, cv, rfl⟩ := HV2.out.expose
            refine wpM_take (i := 8) (oi := ⟨some 96, _, _, _, _, _⟩) (v := ?_) rfl (by decide +kernel) (by decide +kernel) (by decide +kernel) (fun _ _ _ h => h) (Or.inl ⟨by rfl, ?_⟩) hb02 ?_
            case refine_2 =>
              intro w' hSw
              have z61' := keepcell hSw z61
              have z62' := keepcell hSw z62
              have u1' := keepcell hSw u1
              have u2' := keepcell hSw u2
              have q1' := keepcell hSw q1
              have q2' := keepcell hSw q2
              go_simp
              try (with_reducible rfl)
            try simp only [Act.put, List.setIfInBounds_toArray, List.set_cons_zero, List.set_cons_succ]
            refine wpM_done (by decide +kernel) ?_
            simp only [List.drop_succ_cons, List.drop_zero]
            clear z61 z62 u1 u2 q1 q2
            have b1 := HSTy2.out.b6.cell 1
            have b2 := HSTy2.out.b6.cell 2
            simp only [List.getElem?_toArray, List.getElem?_cons_zero, List.getElem?_cons_succ] at b1 b2
            have f1 := Joins.unfrozen_of_block HSTy2.out.b6 1
            have f2 := Joins.unfrozen_of_block HSTy2.out.b6 2
            have HSTF := Lib.hid (HSTy2.out.setB ⟨sb, Av, nv, cv, b.z + ub.z * qb.z⟩ HV2.out)
            go_wp2
            go_roundw
            case rel => exact ⟨k + 1, L', ⟨sb, Av, nv, cv, b.z + ub.z * qb.z⟩, by go_num, hlt, HL'.out, by rw [HFIN.out]; exact HNX.out, by rw [HFIN.out]; exact HBN.out, HSTF.out⟩
            case measure => simp [intOf]; omega
      ·
        obtain rfl : k = sn := by omega
        have hlt2 : ¬ ((k : Int) < (k : Int)) := by omega
        have HRD := Lib.hid (HSM.out.2 (L.map Bg.z, b.z) (by
          have := HSUM.out
          rw [List.drop_of_length_le (by rw [List.length_map, HUL.out]; exact Nat.le_refl _)] at this
          exact this.symm))
        have a60 : X0.cell? ⟨k6, 0, none⟩ = some (.slice A0 wd wd) := by have := HST.out.b6.cell 0; rw [HL.out] at this; exact this
        have HDZ := Lib.hid (show sd.z ≠ 0 from by have := HDP.out; omega)
        have HDV := Lib.hid (div_any (sd.z.natAbs + 1))
        obtain ⟨T, hT⟩ : ∃ T, T = (L.map Bg.z).map (· / sd.z) := ⟨_, rfl⟩
        have HTL := Lib.hid (show T.length = wd by rw [hT, List.length_map, List.length_map, HL.out])
        have HTG := Lib.hid (show ∀ j (h1 : j < T.length) (h2 : j < L.length), T[j] = L[j].z / sd.z from fun j h1 h2 => by subst hT; simp)
        have HTE := Lib.hid hT
        clear hT
        go_wp2
        clear a60
        go_loopw [101] (fun s101 wr2 => ∃ (j : Nat) (L' : List Bg), s101 = .int .i64 (j : Int) ∧ j ≤ wd ∧ L'.length = wd ∧ L'.map Bg.z = T.take j ++ (L.map Bg.z).drop j ∧ ((L.map Bg.z).take j).all (fun z => decide (z % sd.z = 0)) = true ∧ ST w wr2 k3 k4 k6 #[.slice sA k sc, .bool sd.neg, .slice sd.A sd.n sd.c] A0 L' b K) (fun s101 _ => wd - (intOf s101).toNat)
        case atStart => exact ⟨0, L, rfl, Nat.zero_le _, HL.out, by rw [List.take_zero, List.drop_zero, List.nil_append], rfl, HST.out⟩
        case round =>
          obtain ⟨j, L', rfl, hjn, hL', hmx, hall, hstv⟩ := hrel
          generalize wr = V0 at *
          have HL' := Lib.hid hL'
          have HMX := Lib.hid hmx
          have HALL := Lib.hid hall
          have HSTV := Lib.hid hstv
          clear hL' hmx hall hstv
          by_cases hjl : j < wd
          · have hji : (j : Int) < (wd : Int) := by omega
            have hj0 : (0 : Int) ≤ (j : Int) := by omega
            have hjL : j < L.length := by rw [HL.out]; exact hjl
            have hjT : j < T.length := by rw [HTL.out]; exact hjl
            have hlTS : T.length = (L.map Bg.z).length := by rw [HTL.out, List.length_map, HL.out]
            have hDJ : j < L'.length := by rw [HL'.out]; exact hjl
            have HDZ2 := Lib.hid (show L'[j].z = L[j].z by
              have h1 := mix_get T (L.map Bg.z) j hlTS (by rw [List.length_map]; exact hjL)
              rw [← HMX.out, List.getElem?_map, List.getElem?_eq_getElem hDJ, List.getElem_map] at h1
              injection h1)
            obtain ⟨g, rfl, -⟩ := HSTV.out.ro.own (by omega)
            obtain ⟨d0, d1⟩ := HSTV.out.rw.cells j hDJ
            have HDN := Lib.hid ((HSTV.out.rw.2.2 _ (List.getElem_mem hDJ)))
            have HDA := Lib.hid (HDN.out.bg.abs)
            have HMS := Lib.hid (show (T.take j ++ (L.map Bg.z).drop j).set j (L'[j].z / sd.z) = T.take (j + 1) ++ (L.map Bg.z).drop (j + 1) by rw [HDZ2.out, ← HTG.out j hjT hjL]; exact mix_set T (L.map Bg.z) j hlTS hjT)
            have HAN := Lib.hid (show L'[j].z % sd.z = 0 → ((L.map Bg.z).take (j + 1)).all (fun z => decide (z % sd.z = 0)) = true from fun e => by
              rw [List.take_succ_eq_append_getElem (by rw [List.length_map]; exact hjL), List.all_append, HALL.out, List.getElem_map, ← HDZ2.out]
              simp [e])
            have HNO := Lib.hid (show L'[j].z % sd.z ≠ 0 → r = none from fun e => by
              rw [HRD.out]
              exact divM_none (i := j) (by rw [List.length_map]; exact hjL) (by rw [List.getElem_map, ← HDZ2.out]; exact e))
            clear HDZ2
            generalize L'[j] = dd at *
            obtain ⟨k13, hk13⟩ : ∃ k13, k13 = V0.heap.size := ⟨_, rfl⟩
            obtain ⟨V1, hV1⟩ : ∃ V1, V1 = V0.alloc (.cells #[.bool dd.neg, .slice dd.A dd.n dd.c] 37) := ⟨_, rfl⟩
            have hb1 : Below V0.heap.size V0 V1 := by rw [hV1]; exact (Below.refl _ _).alloc (Nat.le_refl _) _
            have K13 := Lib.hid (show Blk V1 k13 37 #[.bool dd.neg, .slice dd.A dd.n dd.c] by rw [hV1]; exact Blk.new_ hk13 rfl)
            have HSTV1 := Lib.hid (HSTV.out.keep hb1)
            have CD := Lib.hid (DivFloor_any (sd.z.natAbs + 1) HDV.out dd.val sd.val dd.z sd.z K Ns V1 (HDN.out.below hb1).bg (HD.out.below HSTV1.out.below) (by omega) (by omega) HDZ.out (Nat.lt_succ_self _))
            unfold Bg.val at CD
            clear hb1
            go_upto_region 23 with fail
            rw [← hk13, ← hV1]
            clear hk13 hV1 d0 d1
            have x0 : V1.cell? ⟨k13, 0, none⟩ = some (.bool dd.neg) := K13.out.cell 0
            have x1 : V1.cell? ⟨k13, 1, none⟩ = some (.slice dd.A dd.n dd.c) := K13.out.cell 1
            have s1 : V1.cell? ⟨k3, 1, none⟩ = some (.bool sd.neg) := HSTV1.out.b3.cell 1
            have s2 : V1.cell? ⟨k3, 2, none⟩ = some (.slice sd.A sd.n sd.c) := HSTV1.out.b3.cell 2
            go_wp2_with fail
            clear x0 x1 s1 s2
            refine CD.out.mono ?_
            rintro e6 V5 ⟨vq, vr, q, r', rfl, hq, hr, hqr, hb5⟩
            obtain ⟨rfl, rfl⟩ := qr_pos hqr HDP.out
            have HST5 := Lib.hid (HSTV1.out.keep hb5)
            have HVQ := Lib.hid ((hq.mono HSTV1.out.below.size (Nat.le_refl _)).tight (K := K) (Nat.lt_of_le_of_lt (ediv_abs _ _) HDA.out))
            have HVR := Lib.hid hr.bg
            obtain ⟨sq, Aq, nq, cq, rfl⟩ := HVQ.out.expose
            obtain ⟨sr, Ar, nr, cr, rfl⟩ := hr.expose
            clear hq hr hqr hb5 CD
            obtain ⟨k14, hk14⟩ : ∃ k14, k14 = V5.heap.size := ⟨_, rfl⟩
            obtain ⟨k15, hk15⟩ : ∃ k15, k15 = k14 + 1 := ⟨_, rfl⟩
            obtain ⟨V6, hV6⟩ : ∃ V6, V6 = (V5.alloc (.cells #[.bool sq, .slice Aq nq cq] 37)).alloc (.cells #[.bool sr, .slice Ar nr cr] 37) := ⟨_, rfl⟩
            have hb6 : Below V5.heap.size V5 V6 := by rw [hV6]; exact ((Below.refl _ _).alloc (Nat.le_refl _) _).alloc (by simp) _
            have K14 := Lib.hid (show Blk V6 k14 37 #[.bool sq, .slice Aq nq cq] by rw [hV6, hk14]; exact (Blk.new _ _ _).alloc _)
            have K15 := Lib.hid (show Blk V6 k15 37 #[.bool sr, .slice Ar nr cr] by rw [hV6]; exact Blk.new_ (by rw [hk15, hk14]; simp) rfl)
            have HST6 := Lib.hid (HST5.out.keep hb6)
            have HVQ6 := Lib.hid (HVQ.out.below hb6)
            have CSR := Lib.hid (Sign_any _ _ _ V6 (HVR.out.below hb6))
            clear hb6
            go_upto_region 24 with fail
            rw [← hk14]
            try rw [← hk15]
            rw [← hV6]
            clear hk14 hk15 hV6
            have x0 : V6.cell? ⟨k15, 0, none⟩ = some (.bool sr) := K15.out.cell 0
            have x1 : V6.cell? ⟨k15, 1, none⟩ = some (.slice Ar nr cr) := K15.out.cell 1
            go_wp2_with fail
            clear x0 x1
            refine CSR.out.mono ?_
            rintro e7 V7 ⟨rfl, hb7⟩
            have HST7 := Lib.hid (HST6.out.keep hb7)
            have K147 := Lib.hid (K14.out.below hb7)
            have HVQ7 := Lib.hid (HVQ6.out.below hb7)
            clear hb7 CSR
            by_cases hxz : dd.z % sd.z = 0
            · have hs : (dd.z % sd.z).sign = 0 := by rw [hxz]; rfl
              have HAN1 := Lib.hid (HAN.out hxz)
              rw [hs]
              clear hs hxz HAN HNO
              have z60 : V7.cell? ⟨k6, 0, none⟩ = some (.slice (some ⟨g, 0, none⟩) wd wd) := by have := HST7.out.b6.cell 0; rw [HL'.out] at this; exact this
              have q0 : V7.cell? ⟨k14, 0, none⟩ = some (.bool sq) := K147.out.cell 0
              have q1 : V7.cell? ⟨k14, 1, none⟩ = some (.slice Aq nq cq) := K147.out.cell 1
              obtain ⟨⟨uu0, g0⟩, z0, ⟨uu1, g1⟩, z1⟩ := (HST7.out.rw).ready j hDJ sq
              have HSTF := Lib.hid (HST7.out.setL rfl j hDJ ⟨sq, Aq, nq, cq, dd.z / sd.z⟩ HVQ7.out)
              go_wp2
              go_roundw
              case rel => exact ⟨j + 1, _, by go_num, hjl, by rw [List.length_set]; exact HL'.out, by rw [List.map_set, HMX.out]; exact HMS.out, HAN1.out, HSTF.out⟩
              case measure => simp [intOf]; omega
            · have hs := sign_ne hxz
              have hs2 : ((dd.z % sd.z).sign == 0) = false := by simpa using hs
              have hs3 : ((dd.z % sd.z).sign != 0) = true := by simpa using hs
              have HRN0 := Lib.hid (HNO.out hxz)
              generalize (dd.z % sd.z).sign = sg3 at *
              clear hxz
              have HRN := Lib.hid (show r = none from HRN0.out)
              have b0 := HST7.out.b4.cell 0
              have b1 := HST7.out.b4.cell 1
              have b2 := HST7.out.b4.cell 2
              simp only [List.getElem?_toArray, List.getElem?_cons_zero, List.getElem?_cons_succ] at b0 b1 b2
              have f0 := Joins.unfrozen_of_block HST7.out.b4 0
              have f1 := Joins.unfrozen_of_block HST7.out.b4 1
              have f2 := Joins.unfrozen_of_block HST7.out.b4 2
              have HS3 := Lib.hid (store3 HST7.out.b4 (.slice none 0 0) (.bool false) (.slice none 0 0))
              go_wp2
              try simp only [Exit.inBlock, Exit.then]
              refine bodyPost_ret (results_c2 rfl _ _ _ k4 _ rfl (load44 HS3.out.1 rfl)) rfl ?_
              exact ⟨HS3.out.2 _ _ HST7.out.below hk4w, fun _ => rfl, fun m hm => by rw [HRN.out] at hm; cases hm⟩
          · obtain rfl : j = wd := by omega
            have hjl2 : ¬ ((j : Int) < (j : Int)) := by omega
            have HRR := Lib.hid (show r = some (L'.map Bg.z, b.z / sd.z) by
              have hm := mix_end T (L.map Bg.z) (by rw [HTL.out, List.length_map, HL.out])
              rw [List.length_map, HL.out] at hm
              have ha := HALL.out
              rw [List.take_of_length_le (by rw [List.length_map, HL.out]; exact Nat.le_refl _)] at ha
              rw [HRD.out, divM_some ha, HMX.out, hm, HTE.out])
            have z61 : V0.cell? ⟨k6, 1, none⟩ = some (.bool b.neg) := HSTV.out.b6.cell 1
            have z62 : V0.cell? ⟨k6, 2, none⟩ = some (.slice b.A b.n b.c) := HSTV.out.b6.cell 2
            have s1 : V0.cell? ⟨k3, 1, none⟩ = some (.bool sd.neg) := HSTV.out.b3.cell 1
            have s2 : V0.cell? ⟨k3, 2, none⟩ = some (.slice sd.A sd.n sd.c) := HSTV.out.b3.cell 2
            have HDA := Lib.hid (HSTV.out.bd.bg.abs)
            have CD := Lib.hid (DivFloor_any (sd.z.natAbs + 1) HDV.out b.val sd.val b.z sd.z K Ns V0 HSTV.out.bd.bg (HD.out.below HSTV.out.below) (by omega) (by omega) HDZ.out (Nat.lt_succ_self _))
            unfold Bg.val at CD
            go_wp2_with fail
            clear z61 z62 s1 s2
            refine CD.out.mono ?_
            rintro e6 V5 ⟨vq, vr, q, r', rfl, hq, hr, hqr, hb5⟩
            obtain ⟨rfl, rfl⟩ := qr_pos hqr HDP.out
            have HST5 := Lib.hid (HSTV.out.keep hb5)
            have HVQ := Lib.hid ((hq.mono HSTV.out.below.size (Nat.le_refl _)).tight (K := K) (Nat.lt_of_le_of_lt (ediv_abs _ _) HDA.out))
            obtain ⟨sq, Aq, nq, cq, rfl⟩ := HVQ.out.expose
            clear hq hr hqr hb5 CD
            have y1 : V5.cell? ⟨k6, 1, none⟩ = some (.bool b.neg) := HST5.out.b6.cell 1
            have f1 := Joins.unfrozen_of_block HST5.out.b6 1
            have s61 : Blk (V5.setCell ⟨k6, 1, none⟩ (.bool sq)) k6 44 #[.slice A0 L'.length L'.length, .bool sq, .slice b.A b.n b.c] := Joins.block_setCell HST5.out.b6 _
            have y2 : (V5.setCell ⟨k6, 1, none⟩ (.bool sq)).cell? ⟨k6, 2, none⟩ = some (.slice b.A b.n b.c) := s61.cell 2
            have f2 := Joins.unfrozen_of_block s61 2
            have HSTF := Lib.hid (HST5.out.setB ⟨sq, Aq, nq, cq, b.z / sd.z⟩ HVQ.out)
            clear s61
            obtain ⟨V8, hV8⟩ : ∃ V8, V8 = (V5.setCell ⟨k6, 1, none⟩ (.bool sq)).setCell ⟨k6, 2, none⟩ (.slice Aq nq cq) := ⟨_, rfl⟩
            dsimp only at HSTF
            rw [← hV8] at HSTF
            go_upto_region 29 with fail
            rw [← hV8]
            clear y1 y2 f1 f2 hV8
            have y0 : V8.cell? ⟨k6, 0, none⟩ = some (.slice A0 j j) := by have := HSTF.out.b6.cell 0; rw [HL'.out] at this; exact this
            have y1 : V8.cell? ⟨k6, 1, none⟩ = some (.bool sq) := HSTF.out.b6.cell 1
            have y2 : V8.cell? ⟨k6, 2, none⟩ = some (.slice Aq nq cq) := HSTF.out.b6.cell 2
            have b0 : V8.cell? ⟨k4, 0, none⟩ = some (.slice none 0 0) := HSTF.out.b4.cell 0
            have b1 : V8.cell? ⟨k4, 1, none⟩ = some (.bool false) := HSTF.out.b4.cell 1
            have b2 : V8.cell? ⟨k4, 2, none⟩ = some (.slice none 0 0) := HSTF.out.b4.cell 2
            have f0 := Joins.unfrozen_of_block HSTF.out.b4 0
            have f1 := Joins.unfrozen_of_block HSTF.out.b4 1
            have f2 := Joins.unfrozen_of_block HSTF.out.b4 2
            have HS3 := Lib.hid (store3 HSTF.out.b4 (.slice A0 j j) (.bool sq) (.slice Aq nq cq))
            have HOK := Lib.hid (HSTF.out.fin (.slice A0 j j) (.bool sq) (.slice Aq nq cq) (by rw [HL'.out]; omega))
            rw [HL'.out] at HOK
            go_wp2
            try simp only [Exit.inBlock, Exit.then]
            refine bodyPost_ret (results_c2 rfl _ _ _ k4 _ rfl (load44 HS3.out.1 rfl)) rfl ?_
            refine ⟨HS3.out.2 _ _ HSTF.out.below hk4w, ?_, ?_⟩
            · intro e
              rw [HRR.out] at e
              cases e
            · intro m hm
              rw [HRR.out] at hm
              injection hm with hm
              exact ⟨⟨A0, j, j, L', ⟨sq, Aq, nq, cq, b.z / sd.z⟩⟩, rfl, hm, HOK.out⟩
end Go.Proofs.Ythfolccofjaknaa
