/- Law CutproofConstraint: for every input the call returns true, and its arguments read afterwards as before. -/
import Derived.Test.YthfolccofjaknaaCoq
import Derived.Test.YthfolccofjaknaaCof
import Derived.Test.YthfolccofjaknaaBrs
import Derived.Test.YthfolccofjaknaaBrv
import Derived.Test.YthfolccofjaknaaMA
namespace Go.Proofs.Ythfolccofjaknaa
open Go.ChangeShapes Go.WideShapes Go.ChangeAt Go.RowKit Go.ChangeMaps

theorem rgtL_asc (n : Int) : ∀ (C : List (Int × Int)) (nx : Int), rgtL n nx C = true → ∀ i (h : i + 1 < C.length), C[i].1 < C[i + 1].1
  | [], _, _, i, h => by simp at h
  | [_], _, _, i, h => by simp at h
  | p :: q :: C, nx, hr, i, h => by
    rw [rgtL] at hr
    split at hr
    · cases hr
    · have hb := rgtL_bound n (q :: C) _ hr
      cases i with
      | zero =>
        have := (hb q List.mem_cons_self).1
        simp only [List.getElem_cons_zero, List.getElem_cons_succ]
        omega
      | succ i =>
        have := rgtL_asc n (q :: C) _ hr i (by simpa using h)
        simpa using this
theorem foldz_len : ∀ (C : List (Int × Int)) (z : List Int), (C.foldl (fun z p => z.set p.1.toNat p.2) z).length = z.length
  | [], _ => rfl
  | p :: C, z => by rw [List.foldl_cons, foldz_len C]; exact List.length_set
theorem ofZ_len (C : List (Int × Int)) (m : Nat) : (ofZ C m).length = m := by unfold ofZ; rw [foldz_len]; exact List.length_replicate
theorem foldz_bd (M : Nat) : ∀ (C : List (Int × Int)) (z : List Int), (∀ p ∈ C, p.2.natAbs ≤ M) → (∀ a ∈ z, a.natAbs ≤ M) → ∀ a ∈ C.foldl (fun z p => z.set p.1.toNat p.2) z, a.natAbs ≤ M
  | [], _, _, hz, a, ha => hz a ha
  | p :: C, z, hC, hz, a, ha => foldz_bd M C _ (fun q hq => hC q (List.mem_cons_of_mem _ hq)) (fun b hb => by
      rcases List.mem_or_eq_of_mem_set hb with hb | hb
      · exact hz b hb
      · rw [hb]; exact hC p List.mem_cons_self) a ha
theorem ofZ_bd {C : List (Int × Int)} {m : Nat} (h : ∀ p ∈ C, i64b p.1 ∧ i64b p.2) : ∀ a ∈ ofZ C m, a.natAbs ≤ 9223372036854775808 :=
  foldz_bd _ C _ (fun p hp => by have := (h p hp).2; unfold i64b at this; omega) (fun a ha => by rw [List.eq_of_mem_replicate ha]; decide)
theorem ofZ_zero {C : List (Int × Int)} {n : Int} {m : Nat} (hr : rgtL n 0 C = true) : ∀ (k : Nat) (hk : k < C.length) (j : Nat), j < m → C[k].1 ≤ (j : Int) → (ofZ (C.take k) m)[j]? = some 0
  | 0, _, j, hj, _ => by
    rw [List.take_zero]
    unfold ofZ
    rw [List.foldl_nil, List.getElem?_replicate, if_pos hj]
  | k + 1, hk, j, hj, hle => by
    have hk' : k < C.length := by omega
    have h1 := rgtL_asc n C 0 hr k hk
    have h2 := (rgtL_bound n C 0 hr _ (List.getElem_mem hk')).1
    rw [ofZ_snoc C m k hk', List.getElem?_set_ne (by omega)]
    exact ofZ_zero hr k hk' j hj (by omega)
theorem dotM_set : ∀ (a x : List Int) (v : Nat) (n : Int), a[v]? = some 0 → ∀ (h2 : v < x.length), dotM (a.set v n) x = dotM a x + n * x[v]
  | [], _, v, _, h, _ => by simp at h
  | _ :: _, [], _, _, _, h2 => by simp at h2
  | a :: l, y :: x, 0, n, h, _ => by
    obtain rfl : a = 0 := by simpa using h
    simp only [List.set_cons_zero, dotM, List.getElem_cons_zero]
    omega
  | a :: l, y :: x, v + 1, n, h, h2 => by
    have := dotM_set l x v n (by simpa using h) (by simpa using h2)
    simp only [List.set_cons_succ, dotM, this, List.getElem_cons_succ]
    omega
theorem at1 {w : World} {A : Option Addr} {n : Nat} {X : List Int} (h : At w A n 1 (X.flatMap xc)) (hn : 0 < n) : ∃ b off, A = some ⟨b, off, none⟩ ∧ b < w.heap.size ∧ ∀ (W : World), Below w.heap.size w W → ∀ i (hi : i < X.length), W.cell? ⟨b, off + i, none⟩ = some (.int .i16 X[i]) := by
  obtain ⟨b, off, e, hb, hc⟩ := h.2 hn
  refine ⟨b, off, e, hb, fun W hW i hi => ?_⟩
  have := flat_get xc 1 (fun _ => rfl) X i 0 hi (by decide)
  rw [Nat.mul_one, Nat.add_zero] at this
  exact keepcell hW (hc i _ this)
structure LS (w wr : World) (kx k5 : Nat) (x : Ct) (b : Bg) : Prop where
  below : Below w.heap.size w wr
  kxb : Blk wr kx 28 #[.int .i64 x.k, .slice x.A x.n x.c, .bool x.e]
  kb : Blk wr k5 37 #[.bool b.neg, .slice b.A b.n b.c]
  nb : NB wr w.heap.size b.val b.z 5
  h5 : w.heap.size ≤ k5
theorem LS.keep {w wr w2 : World} {kx k5 : Nat} {x : Ct} {b : Bg} (h : LS w wr kx k5 x b) (hb : Below wr.heap.size wr w2) : LS w w2 kx k5 x b :=
  ⟨h.below.trans (hb.mono h.below.size), h.kxb.below hb, h.kb.below hb, h.nb.below hb, h.h5⟩
theorem LS.set {w wr : World} {kx k5 : Nat} {x : Ct} {b : Bg} (h : LS w wr kx k5 x b) (c : Bg) (hc : NB wr w.heap.size c.val c.z 5) : LS w ((wr.setCell ⟨k5, 0, none⟩ (.bool c.neg)).setCell ⟨k5, 1, none⟩ (.slice c.A c.n c.c)) kx k5 x c := by
  have s0 := store_step h.kb 0 (.bool c.neg)
  have s1 := store_step s0.1 1 (.slice c.A c.n c.c)
  exact ⟨s1.2.2 _ _ (s0.2.2 _ _ h.below h.h5) h.h5, (h.kxb.set_other h.kb (by decide) 0 _).set_other s0.1 (by decide) 1 _, s1.1, (hc.set_other h.kb (by decide) 0 _).set_other s0.1 (by decide) 1 _, h.h5⟩
theorem LS.grown {w wr w2 : World} {kx k5 n : Nat} {x : Ct} {b : Bg} {v : Value} {xs : List Value} (h : LS w wr kx k5 x b) (ho : wr.ownsRow w.heap.size 37 2 v n xs) (hne : v.ownBlock ≠ some k5) (hg : wr.grownBy w2 v.ownBlock) : LS w w2 kx k5 x b :=
  ⟨h.below.grown hg h.below.size (fun j hj => (ho.lt j hj).1), h.kxb.grown ho (by decide) hg, (hg.block k5 h.kb.lt (fun e => hne e.symm)).trans h.kb, h.nb.grownT ho (by decide) hg, h.h5⟩
theorem sum_fit {k : Int} {C : List (Int × Int)} {m : Nat} {X : List Int} (hk : i64b k) (hC : ∀ p ∈ C, i64b p.1 ∧ i64b p.2) (hX : ∀ a ∈ X, i16b a) (hm : m ≤ 6) : (k + dotM (ofZ C m) X).natAbs < 4294967296 ^ 5 := by
  have h := dotM_abs 9223372036854775808 (ofZ C m) X (ofZ_bd hC) (fun a ha => by have := hX a ha; unfold i16b at this; omega)
  rw [ofZ_len] at h
  unfold i64b at hk
  have h2 : m * (9223372036854775808 * 9223372036854775808) ≤ 6 * (9223372036854775808 * 9223372036854775808) := Nat.mul_le_mul_right _ hm
  omega
theorem con_all (x : Ct) (m : Nat) (X : List Int) (hm : X.length = m) : ((ofM x m).all fun q => hldM q X) = (decide (x.k + dotM (ofZ x.C m) X ≤ 0) && (!x.e || decide (0 ≤ x.k + dotM (ofZ x.C m) X))) := by
  have e1 : ∀ b : Int, hldM (ofZ x.C m, b) X = decide (dotM (ofZ x.C m) X ≤ b) := fun b => by
    unfold hldM
    simp only [ofZ_len, hm, decide_true, Bool.true_and]
  have e2 : ∀ b : Int, hldM ((ofZ x.C m).map (fun z => -z), b) X = decide (-dotM (ofZ x.C m) X ≤ b) := fun b => by
    unfold hldM
    simp only [List.length_map, ofZ_len, hm, decide_true, Bool.true_and, dotM_neg]
  unfold ofM
  generalize dotM (ofZ x.C m) X = d at *
  cases x.e with
  | false =>
    simp only [List.all_cons, List.all_nil, Bool.and_true, e1, if_neg (show ¬ (false = true) by decide), Bool.not_false, Bool.true_or]
    exact decide_eq_decide.2 (by omega)
  | true =>
    simp only [List.all_cons, List.all_nil, Bool.and_true, e1, e2, if_true, Bool.not_true, Bool.false_or]
    rw [show decide (d ≤ -x.k) = decide (x.k + d ≤ 0) from decide_eq_decide.2 (by omega), show decide (-d ≤ x.k) = decide (0 ≤ x.k + d) from decide_eq_decide.2 (by omega)]
set_option maxRecDepth 100000 in
set_option maxHeartbeats 8000000 in
theorem cutproofConstraint_walk (x : Ct) (A : Option Addr) (n c : Nat) (X : List Int) (w : World) (k0 : x.ok w) (k1 : At w A n 1 (X.flatMap xc)) (l1 : n ≤ NM) (g1 : ∀ a ∈ X, i16b a) :
    Calls Try.prog 10 #[x.val, .slice A n c] w fun e w' => e = .returned (.bool true) ∧ Below w.heap.size w w' := by
  have HXN := Lib.hid (show X.length = n by have := k1.1; rw [flat_len xc 1 (fun _ => rfl)] at this; omega)
  have H := Lib.hid k0
  have HA := Lib.hid k1
  have HXB := Lib.hid g1
  have hn63 : n ≤ 9223372036854775807 := l1
  have hxn63 : x.n ≤ 9223372036854775807 := k0.2.1
  have HCL := Lib.hid k0.len
  clear k0 k1 g1 l1
  unfold Ct.val
  obtain ⟨kx, hkx⟩ : ∃ kx, kx = w.heap.size := ⟨_, rfl⟩
  obtain ⟨W1, hW1⟩ : ∃ W1, W1 = w.alloc (.cells #[.int .i64 x.k, .slice x.A x.n x.c, .bool x.e] 28) := ⟨_, rfl⟩
  have HB1 := Lib.hid (show Below w.heap.size w W1 by rw [hW1]; exact (Below.refl _ _).alloc (Nat.le_refl _) _)
  have KX := Lib.hid (show Blk W1 kx 28 #[.int .i64 x.k, .slice x.A x.n x.c, .bool x.e] by rw [hW1]; exact Blk.new_ hkx rfl)
  go_enter Try.func10, Try.ntmps10
  go_wp2_with fail
  rw [← hkx, ← hW1]
  clear hkx hW1
  refine (awake_any W1).mono ?_
  rintro e2 w2 ⟨rfl, hb2⟩
  have HB2 := Lib.hid (HB1.out.trans (hb2.mono HB1.out.size))
  have KX2 := Lib.hid (KX.out.below hb2)
  clear hb2 HB1 KX
  by_cases hn6 : n ≤ 6
  case neg =>
    have hni : (n : Int) > 6 := by omega
    go_wp2_with fail
    refine (awake_any _).mono ?_
    rintro e9 w9 ⟨rfl, hb9⟩
    have HB9 := Lib.hid (HB2.out.trans (hb9.mono HB2.out.size))
    clear hb9
    go_wp2
    go_ret
    exact ⟨rfl, HB9.out⟩
  have hni : ¬ ((n : Int) > 6) := by omega
  have CR := Lib.hid (Right_any w2 x (n : Int) (H.out.below HB2.out) ⟨by omega, by omega⟩)
  obtain ⟨ok, hok⟩ : ∃ o, okC x.C (n : Int) = o := ⟨_, rfl⟩
  rw [hok] at CR
  have HOK := Lib.hid hok
  unfold Ct.val at CR
  clear hok
  have c0 : w2.cell? ⟨kx, 0, none⟩ = some (.int .i64 x.k) := KX2.out.cell 0
  have c1 : w2.cell? ⟨kx, 1, none⟩ = some (.slice x.A x.n x.c) := KX2.out.cell 1
  have c2 : w2.cell? ⟨kx, 2, none⟩ = some (.bool x.e) := KX2.out.cell 2
  go_wp2_with fail
  clear c0 c1 c2
  refine CR.out.mono ?_
  rintro e3 w3 ⟨rfl, hb3⟩
  have HB3 := Lib.hid (HB2.out.trans (hb3.mono HB2.out.size))
  have KX3 := Lib.hid (KX2.out.below hb3)
  clear hb3 CR HB2 KX2
  cases ok with
  | false =>
    go_wp2_with fail
    refine (awake_any _).mono ?_
    rintro e9 w9 ⟨rfl, hb9⟩
    have HB9 := Lib.hid (HB3.out.trans (hb9.mono HB3.out.size))
    clear hb9
    go_wp2
    go_ret
    exact ⟨rfl, HB9.out⟩
  | true =>
  have HRG := Lib.hid (show rgtL (n : Int) 0 x.C = true by have := HOK.out; unfold okC at this; simp only [Bool.and_eq_true] at this; exact this.1)
  have CO := Lib.hid (ROf_any x.k w3 H.out.2.2.1.1 H.out.2.2.1.2)
  have c0 : w3.cell? ⟨kx, 0, none⟩ = some (.int .i64 x.k) := KX3.out.cell 0
  go_wp2_with fail
  clear c0
  refine CO.out.mono ?_
  rintro e4 w4 ⟨v0, rfl, hv0, hb4⟩
  have HB4 := Lib.hid (HB3.out.trans (hb4.mono HB3.out.size))
  have KX4 := Lib.hid (KX3.out.below hb4)
  have HV0 := Lib.hid ((hv0.mono HB3.out.size (Nat.le_refl _)).tight (K := 5) (by have := H.out.2.2.1; unfold i64b at this; omega))
  clear hv0 hb4 CO HB3 KX3
  obtain ⟨s0, A0, n0, cc0, rfl⟩ := HV0.out.expose
  obtain ⟨k5, hk5⟩ : ∃ k, k = w4.heap.size := ⟨_, rfl⟩
  obtain ⟨W5, hW5⟩ : ∃ W, W = w4.alloc (.cells #[.bool s0, .slice A0 n0 cc0] 37) := ⟨_, rfl⟩
  have hb5 : Below w4.heap.size w4 W5 := by rw [hW5]; exact (Below.refl _ _).alloc (Nat.le_refl _) _
  have HL0 := Lib.hid (show LS w W5 kx k5 x ⟨s0, A0, n0, cc0, x.k⟩ from ⟨HB4.out.trans (hb5.mono HB4.out.size), KX4.out.below hb5, by rw [hW5]; exact Blk.new_ hk5 rfl, HV0.out.below hb5, by rw [hk5]; exact HB4.out.size⟩)
  clear hb5
  go_upto_region 4 with fail
  rw [← hk5, ← hW5]
  clear hk5 hW5
  have c1 : W5.cell? ⟨kx, 1, none⟩ = some (.slice x.A x.n x.c) := HL0.out.kxb.cell 1
  go_wp2
  clear c1
  go_loopw [38] (fun s38 wr => ∃ (k : Nat) (b : Bg), s38 = .int .i64 (k : Int) ∧ k ≤ x.n ∧ b.z = x.k + dotM (ofZ (x.C.take k) n) X ∧ LS w wr kx k5 x b) (fun s38 _ => x.n - (intOf s38).toNat)
  case atStart => exact ⟨0, _, rfl, Nat.zero_le _, by rw [List.take_zero]; show x.k = x.k + dotM (List.replicate n 0) X; rw [dotM_zero]; omega, HL0.out⟩
  case round =>
    obtain ⟨k, b, rfl, hkn, hbz, hls⟩ := hrel
    generalize wr = X0 at *
    have HBZ := Lib.hid hbz
    have HLS := Lib.hid hls
    clear hbz hls
    by_cases hlt : k < x.n
    · have hki : (k : Int) < (x.n : Int) := by omega
      have hk0 : (0 : Int) ≤ (k : Int) := by omega
      have hkC : k < x.C.length := by rw [HCL.out]; exact hlt
      obtain ⟨bA, off, eA, -, hc⟩ := at2 (f := cfc) (fun _ => rfl) H.out.1 (show 0 < x.n by omega)
      obtain ⟨d0, d1⟩ := hc X0 HLS.out.below k hkC _ _ rfl
      have HPB := Lib.hid (rgtL_bound _ _ _ HRG.out _ (List.getElem_mem hkC))
      have HPI := Lib.hid (H.out.2.2.2 _ (List.getElem_mem hkC))
      have HSN := Lib.hid (ofZ_snoc x.C n k hkC)
      have HZZ := Lib.hid (ofZ_zero (m := n) HRG.out k hkC)
      have HFIT := Lib.hid (sum_fit (k := x.k) (C := x.C.take (k + 1)) (m := n) (X := X) H.out.2.2.1 (fun p hp => H.out.2.2.2 p (List.mem_of_mem_take hp)) HXB.out hn6)
      clear hc
      generalize x.C[k] = p at *
      obtain ⟨pv, pn⟩ := p
      dsimp only at HSN HPB HPI HZZ d0 d1
      obtain ⟨iv, rfl⟩ : ∃ iv : Nat, pv = (iv : Int) := ⟨pv.toNat, by have := HPB.out; omega⟩
      have hivm : iv < n := by have := HPB.out; omega
      have hivi : (iv : Int) < (n : Int) := by omega
      have hiv0 : (0 : Int) ≤ (iv : Int) := by omega
      have hivX : iv < X.length := by rw [HXN.out]; exact hivm
      obtain ⟨bX, offX, eX, -, hcx⟩ := at1 HA.out (show 0 < n by omega)
      have HCX := Lib.hid (fun W hW => hcx W hW iv hivX)
      have HXI := Lib.hid (HXB.out _ (List.getElem_mem hivX))
      have HNZ := Lib.hid (show b.z + pn * X[iv] = x.k + dotM (ofZ (x.C.take (k + 1)) n) X by
        rw [HSN.out, Int.toNat_natCast, dotM_set _ _ _ _ (HZZ.out iv hivm (Int.le_refl _)) hivX, HBZ.out]
        omega)
      have HFT := Lib.hid (show (b.z + pn * X[iv]).natAbs < 4294967296 ^ 5 by rw [HNZ.out]; exact HFIT.out)
      clear hcx
      generalize X[iv] = xv at *
      have hwx : IntKind.i64.wrap xv = xv := IntWalk.i64_in _ (by have := HXI.out; unfold i16b at this; omega)
      obtain ⟨k7, hk7⟩ : ∃ k7, k7 = X0.heap.size := ⟨_, rfl⟩
      obtain ⟨X1, hX1⟩ : ∃ X1, X1 = X0.alloc (.cells #[.int .i64 (iv : Int), .int .i64 pn] 71) := ⟨_, rfl⟩
      have hb1 : Below X0.heap.size X0 X1 := by rw [hX1]; exact (Below.refl _ _).alloc (Nat.le_refl _) _
      have K7 := Lib.hid (show Blk X1 k7 71 #[.int .i64 (iv : Int), .int .i64 pn] by rw [hX1]; exact Blk.new_ hk7 rfl)
      have HL1 := Lib.hid (HLS.out.keep hb1)
      clear hb1
      rw [eA, eX]
      go_upto_region 7 with fail
      rw [← hk7, ← hX1]
      clear hk7 hX1 d0 d1
      have s0 : X1.cell? ⟨k5, 0, none⟩ = some (.bool b.neg) := HL1.out.kb.cell 0
      have s1 : X1.cell? ⟨k5, 1, none⟩ = some (.slice b.A b.n b.c) := HL1.out.kb.cell 1
      have e0 : X1.cell? ⟨k7, 0, none⟩ = some (.int .i64 (iv : Int)) := K7.out.cell 0
      have e1 : X1.cell? ⟨k7, 1, none⟩ = some (.int .i64 pn) := K7.out.cell 1
      have f0 : X1.cell? ⟨bX, offX + iv, none⟩ = some (.int .i16 xv) := HCX.out X1 HL1.out.below
      have hb0 : Below X1.heap.size X1 X1.drew := below_drew (Below.refl _ _)
      refine wp_region_mix 13 (fun w' => Below X1.heap.size X1 w') (by kernel_rfl) (by decide) ?_
      have HLy := Lib.hid (HL1.out.keep hb0)
      generalize X1.drew = y0 at hb0 HLy ⊢
      have CN := Lib.hid (lbig_any pn y0 HPI.out.2.1 HPI.out.2.2)
      refine wpM_take (i := 0) (oi := ⟨some 42, _, _, _, _, _⟩) (v := ?_) rfl (by decide +kernel) (by decide +kernel) (by decide +kernel) (fun _ _ _ h => h) (Or.inl ⟨by rfl, ?_⟩) hb0 ?_
      case refine_2 =>
        intro w' hSw
        have s0' := keepcell hSw s0
        have s1' := keepcell hSw s1
        have e0' := keepcell hSw e0
        have e1' := keepcell hSw e1
        have f0' := keepcell hSw f0
        go_simp
        try (with_reducible rfl)
      try simp only [Act.put, List.setIfInBounds_toArray, List.set_cons_zero, List.set_cons_succ]
      refine wpM_take (i := 1) (oi := ⟨some 43, _, _, _, _, _⟩) (v := ?_) rfl (by decide +kernel) (by decide +kernel) (by decide +kernel) (fun _ _ _ h => h) (Or.inl ⟨by rfl, ?_⟩) hb0 ?_
      case refine_2 =>
        intro w' hSw
        have s0' := keepcell hSw s0
        have s1' := keepcell hSw s1
        have e0' := keepcell hSw e0
        have e1' := keepcell hSw e1
        have f0' := keepcell hSw f0
        go_simp
        try (with_reducible rfl)
      try simp only [Act.put, List.setIfInBounds_toArray, List.set_cons_zero, List.set_cons_succ]
      refine wpM_take (i := 2) (oi := ⟨some 44, _, _, _, _, _⟩) (v := ?_) rfl (by decide +kernel) (by decide +kernel) (by decide +kernel) (fun _ _ _ h => h) (Or.inl ⟨by rfl, ?_⟩) hb0 ?_
      case refine_2 =>
        intro w' hSw
        have s0' := keepcell hSw s0
        have s1' := keepcell hSw s1
        have e0' := keepcell hSw e0
        have e1' := keepcell hSw e1
        have f0' := keepcell hSw f0
        go_simp
        try (with_reducible rfl)
      try simp only [Act.put, List.setIfInBounds_toArray, List.set_cons_zero, List.set_cons_succ]
      refine wpM_take (i := 4) (oi := ⟨some 46, _, _, _, _, _⟩) (v := ?_) rfl (by decide +kernel) (by decide +kernel) (by decide +kernel) (fun _ _ _ h => h) (Or.inl ⟨by rfl, ?_⟩) hb0 ?_
      case refine_2 =>
        intro w' hSw
        have s0' := keepcell hSw s0
        have s1' := keepcell hSw s1
        have e0' := keepcell hSw e0
        have e1' := keepcell hSw e1
        have f0' := keepcell hSw f0
        go_simp
        try (with_reducible rfl)
      try simp only [Act.put, List.setIfInBounds_toArray, List.set_cons_zero, List.set_cons_succ]
      refine wpM_take (i := 5) (oi := ⟨some 47, _, _, _, _, _⟩) (v := ?_) rfl (by decide +kernel) (by decide +kernel) (by decide +kernel) (fun _ _ _ h => h) (Or.inl ⟨by rfl, ?_⟩) hb0 ?_
      case refine_2 =>
        intro w' hSw
        have s0' := keepcell hSw s0
        have s1' := keepcell hSw s1
        have e0' := keepcell hSw e0
        have e1' := keepcell hSw e1
        have f0' := keepcell hSw f0
        go_simp
        try (with_reducible rfl)
      try simp only [Act.put, List.setIfInBounds_toArray, List.set_cons_zero, List.set_cons_succ]
      refine wpM_take (i := 6) (oi := ⟨some 48, _, _, _, _, _⟩) (v := ?_) rfl (by decide +kernel) (by decide +kernel) (by decide +kernel) (fun _ _ _ h => h) (Or.inl ⟨by rfl, ?_⟩) hb0 ?_
      case refine_2 =>
        intro w' hSw
        have s0' := keepcell hSw s0
        have s1' := keepcell hSw s1
        have e0' := keepcell hSw e0
        have e1' := keepcell hSw e1
        have f0' := keepcell hSw f0
        go_simp
        try (with_reducible rfl)
      try simp only [Act.put, List.setIfInBounds_toArray, List.set_cons_zero, List.set_cons_succ]
      refine wpM_take (i := 7) (oi := ⟨some 49, _, _, _, _, _⟩) (v := ?_) rfl (by decide +kernel) (by decide +kernel) (by decide +kernel) (fun _ _ _ h => h) (Or.inl ⟨by rfl, ?_⟩) hb0 ?_
      case refine_2 =>
        intro w' hSw
        have s0' := keepcell hSw s0
        have s1' := keepcell hSw s1
        have e0' := keepcell hSw e0
        have e1' := keepcell hSw e1
        have f0' := keepcell hSw f0
        go_simp
        try (with_reducible rfl)
      try simp only [Act.put, List.setIfInBounds_toArray, List.set_cons_zero, List.set_cons_succ]
      refine wpM_take (i := 8) (oi := ⟨some 50, _, _, _, _, _⟩) (v := ?_) rfl (by decide +kernel) (by decide +kernel) (by decide +kernel) (fun _ _ _ h => h) (Or.inl ⟨by rfl, ?_⟩) hb0 ?_
      case refine_2 =>
        intro w' hSw
        have s0' := keepcell hSw s0
        have s1' := keepcell hSw s1
        have e0' := keepcell hSw e0
        have e1' := keepcell hSw e1
        have f0' := keepcell hSw f0
        go_simp
        try (with_reducible rfl)
      try simp only [Act.put, List.setIfInBounds_toArray, List.set_cons_zero, List.set_cons_succ]
      refine wpM_take (i := 9) (oi := ⟨some 51, _, _, _, _, _⟩) (v := ?_) rfl (by decide +kernel) (by decide +kernel) (by decide +kernel) (fun _ _ _ h => h) (Or.inl ⟨by rfl, ?_⟩) hb0 ?_
      case refine_2 =>
        intro w' hSw
        have s0' := keepcell hSw s0
        have s1' := keepcell hSw s1
        have e0' := keepcell hSw e0
        have e1' := keepcell hSw e1
        have f0' := keepcell hSw f0
        go_simp
        try (with_reducible rfl)
      try simp only [Act.put, List.setIfInBounds_toArray, List.set_cons_zero, List.set_cons_succ]
      refine wpM_step (i := 3) (o := ⟨some 45, _, _, _, _, _⟩) rfl (by decide +kernel) (by decide) (fun KK hK => ?_)
      go_simp
      refine CN.out.mono ?_
      rintro e y1 ⟨⟨sb1, Ab1, nb1, cb1, zb1⟩, rfl, rfl, hv1, hb1⟩
      have hb01 : Below X1.heap.size X1 y1 := hb0.trans (hb1.mono hb0.size)
      have HLy1 := Lib.hid (HLy.out.keep hb1)
      have HV1 := Lib.hid hv1.bg
      clear hv1 hb1
      unfold Bg.val
      dsimp only at HV1 ⊢
      refine hK.out _ _ hb01 ?_
      clear hK KK
      try simp only [Act.put, List.setIfInBounds_toArray, List.set_cons_zero, List.set_cons_succ]
      have CM := Lib.hid (lbig_any xv y1 (by have := HXI.out; unfold i16b at this; omega) (by have := HXI.out; unfold i16b at this; omega))
      refine wpM_step (i := 10) (o := ⟨some 52, _, _, _, _, _⟩) rfl (by decide +kernel) (by decide) (fun KK hK => ?_)
      go_simp
      refine CM.out.mono ?_
      rintro e y2 ⟨⟨sb2, Ab2, nb2, cb2, zb2⟩, rfl, rfl, hv2, hb2⟩
      have hb02 : Below X1.heap.size X1 y2 := hb01.trans (hb2.mono hb01.size)
      have HLy2 := Lib.hid (HLy1.out.keep hb2)
      have HV12 := Lib.hid (HV1.out.below hb2)
      have HV2 := Lib.hid hv2.bg
      clear hv2 hb2
      unfold Bg.val
      dsimp only at HV2 ⊢
      refine hK.out _ _ hb02 ?_
      clear hK KK
      try simp only [Act.put, List.setIfInBounds_toArray, List.set_cons_zero, List.set_cons_succ]
      have CT := Lib.hid (RMul_any _ _ zb1 zb2 2 y2 HV12.out HV2.out (by decide))
      unfold Bg.val at CT
      dsimp only at CT
      refine wpM_step (i := 11) (o := ⟨some 53, _, _, _, _, _⟩) rfl (by decide +kernel) (by decide) (fun KK hK => ?_)
      go_simp
      refine CT.out.mono ?_
      rintro e y3 ⟨v3, rfl, hv3, hb3⟩
      have hb03 : Below X1.heap.size X1 y3 := hb02.trans (hb3.mono hb02.size)
      have HLy3 := Lib.hid (HLy2.out.keep hb3)
      have HV3 := Lib.hid hv3.bg
      clear hv3 hb3
      refine hK.out _ _ hb03 ?_
      clear hK KK
      try simp only [Act.put, List.setIfInBounds_toArray, List.set_cons_zero, List.set_cons_succ]
      have CA := Lib.hid (RAdd_any b.val v3 b.z (zb1 * zb2) 15 y3 (HLy3.out.nb.bg.mono (by decide)) HV3.out (by decide))
      unfold Bg.val at CA
      refine wpM_step (i := 12) (o := ⟨some 54, _, _, _, _, _⟩) rfl (by decide +kernel) (by decide) (fun KK hK => ?_)
      go_simp
      refine CA.out.mono ?_
      rintro e y4 ⟨v4, rfl, hv4, hb4⟩
      have hb04 : Below X1.heap.size X1 y4 := hb03.trans (hb4.mono hb03.size)
      have HLy4 := Lib.hid (HLy3.out.keep hb4)
      have HV4 := Lib.hid ((hv4.mono HLy3.out.below.size (Nat.le_refl _)).tight HFT.out)
      clear hv4 hb4
      obtain ⟨sv, Av, nv, cv, rfl⟩ := HV4.out.expose
      refine hK.out _ _ hb04 ?_
      clear hK KK
      try simp only [Act.put, List.setIfInBounds_toArray, List.set_cons_zero, List.set_cons_succ]
      refine wpM_done (by decide +kernel) ?_
      simp only [List.drop_succ_cons, List.drop_zero]
      clear s0 s1 e0 e1 f0
      have b0 : y4.cell? ⟨k5, 0, none⟩ = some (.bool b.neg) := HLy4.out.kb.cell 0
      have f0 := Joins.unfrozen_of_block HLy4.out.kb 0
      have hk1 : Blk (y4.setCell ⟨k5, 0, none⟩ (.bool sv)) k5 37 #[.bool sv, .slice b.A b.n b.c] := Joins.block_setCell HLy4.out.kb _
      have b1 : (y4.setCell ⟨k5, 0, none⟩ (.bool sv)).cell? ⟨k5, 1, none⟩ = some (.slice b.A b.n b.c) := hk1.cell 1
      have f1 := Joins.unfrozen_of_block hk1 1
      have HSTF := Lib.hid (HLy4.out.set ⟨sv, Av, nv, cv, b.z + zb1 * zb2⟩ HV4.out)
      clear hk1
      go_wp2
      go_roundw
      case rel => exact ⟨k + 1, ⟨sv, Av, nv, cv, b.z + zb1 * zb2⟩, by go_num, hlt, HNZ.out, HSTF.out⟩
      case measure => simp [intOf]; omega
    · obtain rfl : k = x.n := by omega
      have hlt2 : ¬ ((x.n : Int) < (x.n : Int)) := by omega
      have HSZ := Lib.hid (show b.z = x.k + dotM (ofZ x.C n) X by
        rw [HBZ.out, List.take_of_length_le (by rw [HCL.out]; exact Nat.le_refl _)])
      obtain ⟨i0, hi, hz0, hz1, hz2⟩ := info_parts i37
      have hk5X : k5 < X0.heap.size := HLS.out.kb.lt
      go_wp2
      go_loopw [8, 58] (fun s8 s58 wr => ∃ (j : Nat) (v : Value) (L : List Bg), s58 = .int .i64 (j : Int) ∧ v = s8 ∧ j ≤ n ∧ L.length = j ∧ L.map Bg.z = X.take j ∧ wr.ownsRow X0.heap.size 37 2 v L.length (L.flatMap Bg.cells) ∧ (∀ a ∈ L, NB wr X0.heap.size a.val a.z 2) ∧ Below X0.heap.size X0 wr) (fun _ s58 _ => n - (intOf s58).toNat)
      case atStart => exact ⟨0, _, [], rfl, rfl, Nat.zero_le _, rfl, rfl, World.ownsRow_nil _ _ _ _, fun a ha => (by cases ha), Below.refl _ _⟩
      case round =>
        obtain ⟨j, v, L, rfl, rfl, hjn, hLl, hLm, hown, hnb, hB⟩ := hrel
        generalize wr = V0 at *
        have HLl := Lib.hid hLl
        have HLM := Lib.hid hLm
        have HOW := Lib.hid hown
        have HNB := Lib.hid hnb
        have HBV := Lib.hid hB
        clear hLl hLm hown hnb hB
        by_cases hjl : j < n
        · have hji : (j : Int) < (n : Int) := by omega
          have hj0 : (0 : Int) ≤ (j : Int) := by omega
          have hjX : j < X.length := by rw [HXN.out]; exact hjl
          obtain ⟨bX, offX, eX, -, hcx⟩ := at1 HA.out (show 0 < n by omega)
          have f0 := hcx V0 (HLS.out.below.trans (HBV.out.mono HLS.out.below.size)) j hjX
          have HXI := Lib.hid (HXB.out _ (List.getElem_mem hjX))
          have HTK := Lib.hid (show X.take (j + 1) = X.take j ++ [X[j]] from List.take_succ_eq_append_getElem hjX)
          clear hcx
          generalize X[j] = xv at *
          have hwx : IntKind.i64.wrap xv = xv := IntWalk.i64_in _ (by have := HXI.out; unfold i16b at this; omega)
          have CN := Lib.hid (lbig_any xv V0 (by have := HXI.out; unfold i16b at this; omega) (by have := HXI.out; unfold i16b at this; omega))
          rw [eX]
          go_wp2_with fail
          clear f0
          refine CN.out.mono ?_
          rintro e6 V1 ⟨⟨sb, Ab, nb, cb, zb⟩, rfl, rfl, hv, hb⟩
          have HBV1 := Lib.hid (HBV.out.trans (hb.mono HBV.out.size))
          have HOW1 := Lib.hid (own37_below HOW.out hb)
          have HNB1 := Lib.hid (fun a ha => (HNB.out a ha).below hb)
          have HV1 := Lib.hid (hv.mono HBV.out.size (Nat.le_refl _))
          clear hv hb CN
          unfold Bg.val
          dsimp only
          obtain ⟨V2, hV2⟩ : ∃ V2, V2 = V1.alloc (.cells #[.bool sb, .slice Ab nb cb] 37) := ⟨_, rfl⟩
          obtain ⟨g8, hg8⟩ : ∃ g8, g8 = V1.heap.size := ⟨_, rfl⟩
          have hb2 : Below V1.heap.size V1 V2 := by rw [hV2]; exact (Below.refl _ _).alloc (Nat.le_refl _) _
          have HBV2 := Lib.hid (HBV1.out.trans (hb2.mono HBV1.out.size))
          have HOW2 := Lib.hid (own37_below HOW1.out hb2)
          have HNB2 := Lib.hid (fun a ha => (HNB1.out a ha).below hb2)
          have HV2 := Lib.hid (HV1.out.below hb2)
          have HSRC := Lib.hid (src_blk (P := Try.prog) (W := V2) (g := g8) (e := 37) (t := 42) (size := 2) (xs := Bg.cells ⟨sb, Ab, nb, cb, zb⟩) (n := 1) (c := 1) Try.underlying42 rfl (fun x hx => by
            unfold Bg.cells at hx
            simp only [List.mem_cons, List.not_mem_nil, or_false] at hx
            rcases hx with rfl | rfl <;> rfl) (by rw [hV2]; exact Blk.new_ hg8 rfl))
          have HSZ2 := Lib.hid HBV2.out.size
          have hL6 : L.length ≤ 6 := by have := HLl.out; omega
          clear hb2
          go_wp2_with (at_builtin; go_loud (rw [← hg8, ← hV2]); clear hg8 hV2; go_loud (refine wpList_append_src _ rfl _ _ 42 42 rfl X0.heap.size 37 i0 _ 2 32 Try.underlying42 hi hz0 hz1 hz2 rfl v L.length (L.flatMap Bg.cells) rfl HOW2.out _ 1 (Bg.cells ⟨sb, Ab, nb, cb, zb⟩) rfl HSRC.out (by unfold maxLen; omega) (by omega) HSZ2.out ?_); intro v' V3 own' hg hm)
          have HBV3 := Lib.hid (HBV2.out.grown hg HSZ2.out (fun j hj => (HOW2.out.lt j hj).1))
          have HOW3 := Lib.hid (show V3.ownsRow X0.heap.size 37 2 v' (L ++ [(⟨sb, Ab, nb, cb, zb⟩ : Bg)]).length ((L ++ [(⟨sb, Ab, nb, cb, zb⟩ : Bg)]).flatMap Bg.cells) by rw [List.length_append, List.flatMap_append, List.flatMap_cons, List.flatMap_nil, List.append_nil]; exact own')
          have HNB3 := Lib.hid (show ∀ a ∈ L ++ [(⟨sb, Ab, nb, cb, zb⟩ : Bg)], NB V3 X0.heap.size a.val a.z 2 from fun a ha => by
            rcases List.mem_append.1 ha with ha | ha
            · exact (HNB2.out a ha).grownT HOW2.out (by decide) hg
            · rw [List.mem_singleton.1 ha]; exact HV2.out.grownT HOW2.out (by decide) hg)
          clear own' hg hm
          go_wp2
          go_roundw
          case rel => exact ⟨j + 1, _, L ++ [(⟨sb, Ab, nb, cb, zb⟩ : Bg)], by go_num, rfl, hjl, by rw [List.length_append, HLl.out]; rfl, by rw [List.map_append, HLM.out, HTK.out]; rfl, HOW3.out, HNB3.out, HBV3.out⟩
          case measure => simp [intOf]; omega
        · obtain rfl : j = n := by omega
          have hjl2 : ¬ ((j : Int) < (j : Int)) := by omega
          have HLX := Lib.hid (show L.map Bg.z = X by rw [HLM.out, List.take_of_length_le (by rw [HXN.out]; exact Nat.le_refl _)])
          obtain ⟨vA, vc, rfl, hvat⟩ := own_at37 HOW.out
          rw [HLl.out]
          have HVAT := Lib.hid hvat
          have HBW := Lib.hid (HLS.out.below.trans (HBV.out.mono HLS.out.below.size))
          have HLV := Lib.hid (HLS.out.keep HBV.out)
          have HVB := Lib.hid (show Bigs V0 vA j L 2 from ⟨by have := hvat; rw [HLl.out] at this; exact this, hn63, fun a ha => (HNB.out a ha).bg⟩)
          have COF := Lib.hid (Of13_ok V0 x j (H.out.below HBW.out) HOK.out)
          unfold Ct.val at COF
          clear hvat
          have c0 : V0.cell? ⟨kx, 0, none⟩ = some (.int .i64 x.k) := HLV.out.kxb.cell 0
          have c1 : V0.cell? ⟨kx, 1, none⟩ = some (.slice x.A x.n x.c) := HLV.out.kxb.cell 1
          have c2 : V0.cell? ⟨kx, 2, none⟩ = some (.bool x.e) := HLV.out.kxb.cell 2
          go_wp2_with fail
          clear c0 c1 c2
          refine COF.out.mono ?_
          rintro e7 V1 ⟨g, gc, Q, rfl, hat, hgd, hqm, hb1⟩
          have HLV1 := Lib.hid (HLV.out.keep hb1)
          have HVB1 := Lib.hid (HVB.out.below hb1)
          have HQA := Lib.hid hat
          have HQG := Lib.hid (fun q hq => (hgd q hq).nrm)
          have HQM := Lib.hid hqm
          have HQL := Lib.hid (show Q.length ≤ 2 by
            have := congrArg List.length hqm
            rw [List.length_map] at this
            rw [this]
            unfold ofM
            split <;> simp)
          obtain ⟨nq, hnq⟩ : ∃ m, m = Q.length := ⟨_, rfl⟩
          rw [← hnq]
          have HNQ := Lib.hid hnq
          have hnq2 : nq ≤ 2 := by rw [hnq]; exact HQL.out
          have HQN := Lib.hid (show ∀ q ∈ Q, q.n ≤ 6 from fun q hq => by
            have h1 : q.m ∈ ofM x j := by rw [← hqm]; exact List.mem_map_of_mem hq
            have h2 : q.m.1.length = j := by
              unfold ofM at h1
              rcases List.mem_cons.1 h1 with h | h
              · rw [h]; exact ofZ_len _ _
              · split at h
                · rw [List.mem_singleton.1 h]
                  simp [ofZ_len]
                · cases h
            have h3 := (hgd q hq).nrm.1.len
            have h4 : q.m.1.length = q.L.length := by show (q.L.map Bg.z).length = _; rw [List.length_map]
            omega)
          clear hat hgd hqm hb1 COF hnq
          go_wp2
          go_loopw [11, 74] (fun s11 s74 wr => ∃ (i : Nat), s74 = .int .i64 (i : Int) ∧ s11 = .bool ((Q.take i).all fun q => hldM q.m X) ∧ i ≤ nq ∧ Below V1.heap.size V1 wr) (fun _ s74 _ => nq - (intOf s74).toNat)
          case atStart => exact ⟨0, rfl, rfl, Nat.zero_le _, Below.refl _ _⟩
          case round =>
            obtain ⟨i, rfl, rfl, hin, hB⟩ := hrel
            generalize wr = Y0 at *
            have HBY := Lib.hid hB
            have HLY := Lib.hid (HLV1.out.keep hB)
            clear hB
            by_cases hil : i < nq
            · have hii : (i : Int) < (nq : Int) := by omega
              have hi0 : (0 : Int) ≤ (i : Int) := by omega
              have hiQ : i < Q.length := by rw [← HNQ.out]; exact hil
              have HQA2 := HQA.out
              rw [← HNQ.out] at HQA2
              obtain ⟨bQ, offQ, eQ, -, hcq⟩ := at3 (fun _ => rfl) HQA2 (show 0 < nq by omega)
              injection eQ with eQ
              injection eQ with eQ1 eQ2 _
              subst eQ1 eQ2
              obtain ⟨d0, d1, d2⟩ := hcq Y0 HBY.out i hiQ _ _ _ rfl
              rw [Nat.zero_add] at d0 d1 d2
              have HQO := Lib.hid (HQG.out _ (List.getElem_mem hiQ))
              have HQ6 := Lib.hid (HQN.out _ (List.getElem_mem hiQ))
              have HTQ := Lib.hid (show ((Q.take (i + 1)).all fun q => hldM q.m X) = (((Q.take i).all fun q => hldM q.m X) && hldM Q[i].m X) by rw [List.take_succ_eq_append_getElem hiQ, List.all_append]; simp)
              clear hcq HQA2
              generalize Q[i] = q at *
              obtain ⟨ab, hab⟩ : ∃ y, ((Q.take i).all fun q => hldM q.m X) = y := ⟨_, rfl⟩
              rw [hab] at HTQ ⊢
              clear hab
              obtain ⟨k13, hk13⟩ : ∃ k, k = Y0.heap.size := ⟨_, rfl⟩
              obtain ⟨Y1, hY1⟩ : ∃ Y, Y = Y0.alloc (.cells #[.slice q.A q.n q.c, .bool q.b.neg, .slice q.b.A q.b.n q.b.c] 44) := ⟨_, rfl⟩
              have hb1 : Below Y0.heap.size Y0 Y1 := by rw [hY1]; exact (Below.refl _ _).alloc (Nat.le_refl _) _
              have HBY1 := Lib.hid (HBY.out.trans (hb1.mono HBY.out.size))
              have K13 := Lib.hid (show Blk Y1 k13 44 #[.slice q.A q.n q.c, .bool q.b.neg, .slice q.b.A q.b.n q.b.c] by rw [hY1]; exact Blk.new_ hk13 rfl)
              clear hb1
              go_upto_region 19 with fail
              rw [← hk13, ← hY1]
              clear hk13 hY1 d0 d1 d2
              cases ab with
              | false =>
                have HT2 := Lib.hid (HTQ.out.trans (Bool.false_and _))
                go_wp2
                go_roundw
                case rel => exact ⟨i + 1, by go_num, by rw [HT2.out], hil, HBY1.out⟩
                case measure => simp [intOf]; omega
              | true =>
                have d0 : Y1.cell? ⟨k13, 0, none⟩ = some (.slice q.A q.n q.c) := K13.out.cell 0
                have d1 : Y1.cell? ⟨k13, 1, none⟩ = some (.bool q.b.neg) := K13.out.cell 1
                have d2 : Y1.cell? ⟨k13, 2, none⟩ = some (.slice q.b.A q.b.n q.b.c) := K13.out.cell 2
                have HT2 := Lib.hid (HTQ.out.trans (Bool.true_and _))
                have CH := Lib.hid (Holds_any Y1 q vA j vc L 2 ⟨(HQO.out.below HBY1.out).1, (HQO.out.below HBY1.out).2.2.bg⟩ (HVB1.out.below HBY1.out) (by decide) (by have := HQ6.out; omega))
                rw [HLX.out] at CH
                unfold Iq.val at CH
                obtain ⟨hh, hhe⟩ : ∃ y, hldM q.m X = y := ⟨_, rfl⟩
                rw [hhe] at CH HT2
                clear hhe
                go_wp2_with fail
                clear d0 d1 d2
                refine CH.out.mono ?_
                rintro e8 Y2 ⟨rfl, hb2⟩
                have HBY2 := Lib.hid (HBY1.out.trans (hb2.mono HBY1.out.size))
                clear hb2 CH
                go_wp2
                go_roundw
                case rel => exact ⟨i + 1, by go_num, by rw [HT2.out], hil, HBY2.out⟩
                case measure => simp [intOf]; omega
            · obtain rfl : i = nq := by omega
              have hil2 : ¬ ((i : Int) < (i : Int)) := by omega
              have HALL := Lib.hid (show ((Q.take i).all fun q => hldM q.m X) = (decide (b.z ≤ 0) && (!x.e || decide (0 ≤ b.z))) by
                rw [List.take_of_length_le (by rw [HNQ.out]; exact Nat.le_refl _), HSZ.out, ← con_all x j X HXN.out, ← HQM.out, List.all_map]
                rfl)
              rw [HALL.out]
              have s0 : Y0.cell? ⟨k5, 0, none⟩ = some (.bool b.neg) := HLY.out.kb.cell 0
              have s1 : Y0.cell? ⟨k5, 1, none⟩ = some (.slice b.A b.n b.c) := HLY.out.kb.cell 1
              have CG := Lib.hid (RSign_any b.val b.z 5 Y0 HLY.out.nb.bg (by decide))
              unfold Bg.val at CG
              obtain ⟨al, hal⟩ : ∃ y, (decide (b.z ≤ 0) && (!x.e || decide (0 ≤ b.z))) = y := ⟨_, rfl⟩
              rw [hal]
              have HAL := Lib.hid hal
              clear hal
              go_wp2_with fail
              clear s0 s1
              refine CG.out.mono ?_
              rintro e9 Y9 ⟨rfl, hb9⟩
              have HB9 := Lib.hid (HLY.out.below.trans (hb9.mono HLY.out.below.size))
              have c2 : Y9.cell? ⟨kx, 2, none⟩ = some (.bool x.e) := (HLY.out.kxb.below hb9).cell 2
              clear hb9 CG
              obtain ⟨eq, heq⟩ : ∃ e, x.e = e := ⟨_, rfl⟩
              rw [heq] at c2 HAL
              clear heq
              rcases Int.lt_trichotomy b.z 0 with hz | hz | hz
              · have hsg : b.z.sign = -1 := Int.sign_eq_neg_one_of_neg hz
                rw [hsg]
                cases eq with
                | false =>
                  obtain rfl : al = true := by rw [← HAL.out, decide_eq_true (show b.z ≤ 0 by omega)]; rfl
                  go_wp2
                  go_ret
                  exact ⟨rfl, HB9.out⟩
                | true =>
                  obtain rfl : al = false := by rw [← HAL.out, decide_eq_false (show ¬ (0 ≤ b.z) by omega)]; simp
                  go_wp2
                  go_ret
                  exact ⟨rfl, HB9.out⟩
              · have hsg : b.z.sign = 0 := by rw [hz]; rfl
                rw [hsg]
                obtain rfl : al = true := by rw [← HAL.out, decide_eq_true (show b.z ≤ 0 by omega), decide_eq_true (show 0 ≤ b.z by omega)]; simp
                go_wp2
                go_ret
                exact ⟨rfl, HB9.out⟩
              · have hsg : b.z.sign = 1 := Int.sign_eq_one_of_pos hz
                rw [hsg]
                obtain rfl : al = false := by rw [← HAL.out, decide_eq_false (show ¬ (b.z ≤ 0) by omega)]; rfl
                go_wp2
                go_ret
                exact ⟨rfl, HB9.out⟩

set_option maxRecDepth 100000 in
theorem cutproofConstraint_lifted (os : Os) (started : os.Started) (H : Type) (enc : TypeId × Value → H) :
    ReturnsInHanded {} Try.checked os 10 .any (Rows.cutproofConstraintSpec.pre6 enc Try.prog Try.f10 Rows.cutproofConstraintRow.domain false) (Rows.cutproofConstraintSpec.post enc Try.prog Try.f10 false true false false) := by
  refine law_lifted (C := Try.checked) (B := 4) Try.own started (by kernel_rfl) Try.func10
    (ChangeSpec.witness6 (enc := enc) (C := Try.checked) false ⟨#[], #[.agg #[.int .i64 0, .slice none 0 0, .bool false], .slice none 0 0], []⟩ 8 (by kernel_rfl) (by kernel_rfl) (by kernel_rfl) (by kernel_rfl))
    Try.laidOut (by kernel_rfl) rfl rfl rfl Try.underlying4 (fun ds h => match ds, h with | [_, _], _ => rfl) ?_
  intro W base args ds ps hval hA hlt hsz
  rw [Try.params10] at hA hval hsz
  obtain ⟨v0, vs0, d0, ds0, p0, q0, hargs, rfl, rfl, h0, r0⟩ := trodAll_cons hA
  obtain ⟨v1, vs1, d1, ds1, p1, q1, rfl, rfl, rfl, h1, r1⟩ := trodAll_cons r0
  obtain ⟨rfl, rfl, rfl⟩ := trodAll_nil r1
  obtain rfl : args = #[v0, v1] := by cases args; simp_all
  obtain ⟨x0, rfl, k0⟩ := open_con (hval 0 28 v0 rfl rfl) h0 (fun x hx => hlt x (by simp [hx])) hsz (j := 0) rfl rfl
  obtain ⟨A1, n1, c1, X1, rfl, k1, l1, g1⟩ := open_i16s (hval 1 68 v1 rfl rfl) h1 (fun x hx => hlt x (by simp [hx])) hsz (j := 1) rfl rfl
  exact cutproofConstraint_walk x0 A1 n1 c1 X1 W k0 k1 l1 g1

theorem cutproofConstraint_over : Rows.cutproofConstraintRow.holds Try.pinned (OpenSpec.ofChange Rows.cutproofConstraintSpec) :=
  OpenClaim.holds_of_wide 10 Try.f10 rfl rfl rfl rfl rfl rfl rfl ⟨rfl, rfl, rfl, rfl, rfl⟩ rfl rfl rfl rfl rfl (by kernel_rfl) Try.func10 (by kernel_rfl)
    (of_decide_eq_true (by kernel_rfl)) (by unfold Func.isWrapper; first | (rw [if_pos (by decide +kernel)]; kernel_rfl) | (rw [if_neg (by decide +kernel)]; exact ⟨rfl, rfl⟩))
    (fun os started H enc _ => cutproofConstraint_lifted os started H enc)

theorem cutproofConstraint_proved : Rows.CutproofConstraintSaid := cutproofConstraint_over
end Go.Proofs.Ythfolccofjaknaa
