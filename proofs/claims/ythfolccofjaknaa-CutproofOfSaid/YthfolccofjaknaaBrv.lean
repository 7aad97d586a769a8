/- The reference's product of integers. -/
import Derived.Test.YthfolccofjaknaaBru
namespace Go.Proofs.Ythfolccofjaknaa
open Go.ChangeShapes Go.WideShapes Go.ChangeAt Go.RowKit Go.ChangeMaps

def mulS (B S X d K M : Nat) (i : Nat) (v : Value) (W : World) : Prop :=
  match i with
  | 0 => Z1 W B v
  | 2 => HR0 W v (65536 * S) (K + 1)
  | 8 => HV W v (X * d) M
  | 9 => HV W v (65536 * S + X * d) (K + 2)
  | _ => True
theorem mulS_mono (B S X d K M : Nat) (i : Nat) (v : Value) (W W' : World) (h : mulS B S X d K M i v W) (hb : Below W.heap.size W W') : mulS B S X d K M i v W' := by
  unfold mulS at h ⊢
  split at h <;> first | exact h.below hb | trivial
theorem HR0.wide {w : World} {v : Value} {x N M : Nat} (h : HR0 w v x N) (hM : N ≤ M) : HR0 w v x M := by
  obtain ⟨A, n, c, L, e, hg, hs, hv, hN⟩ := h
  exact ⟨A, n, c, L, e, hg, hs, hv, Nat.le_trans hN hM⟩
set_option maxRecDepth 100000 in
set_option maxHeartbeats 4000000 in
theorem RMul_any (a b : Value) (z1 z2 : Int) (N : Nat) (w : World) (h : BG w a z1 N) (h2 : BG w b z2 N) (hN : N ≤ 10000) : Calls Try.prog 39 #[a, b] w fun e w' => ∃ v, e = .returned v ∧ NB w' w.heap.size v (z1 * z2) (6 * N + 3) ∧ Below w.heap.size w w' := by
  obtain ⟨z, hz⟩ : ∃ z, z1 * z2 = z := ⟨_, rfl⟩
  rw [hz]
  have HZZ := Lib.hid hz
  clear hz
  obtain ⟨na, A, n, c, D, rfl, hd1, hs1, hn1, hz1⟩ := h
  obtain ⟨nb, A2, m, c2, E, rfl, hd2, hs2, hn2, hz2⟩ := h2
  have HZ1 := Lib.hid hz1
  have HZ2 := Lib.hid hz2
  obtain ⟨W0, hW0⟩ : ∃ V, V = ((w.alloc (.cells #[.bool na, .slice A n c] 37)).alloc (.cells #[.bool nb, .slice A2 m c2] 37)).alloc (.cells #[.bool false, .slice none 0 0] 37) := ⟨_, rfl⟩
  have HB := Lib.hid (show Below w.heap.size w W0 by rw [hW0]; exact (((Below.refl _ w).alloc (Nat.le_refl _) _).alloc (by simp) _).alloc (by simp; omega) _)
  have K2 := Lib.hid (show Blk W0 w.heap.size 37 #[.bool na, .slice A n c] by rw [hW0]; exact ((Blk.new _ _ _).alloc _).alloc _)
  have K3 := Lib.hid (show Blk W0 (w.heap.size + 1) 37 #[.bool nb, .slice A2 m c2] by rw [hW0]; exact (Blk.new_ (by simp) rfl : Blk ((w.alloc _).alloc _) _ _ _).alloc _)
  have K4 := Lib.hid (show Blk W0 (w.heap.size + 1 + 1) 37 #[.bool false, .slice none 0 0] by rw [hW0]; exact Blk.new_ (by simp) rfl)
  have GX := Lib.hid (show BG W0 (.agg #[.bool na, .slice A n c]) z1 N from BG.below ⟨na, A, n, c, D, rfl, hd1, hs1, hn1, hz1⟩ HB.out)
  have GY := Lib.hid (show BG W0 (.agg #[.bool nb, .slice A2 m c2]) z2 N from BG.below ⟨nb, A2, m, c2, E, rfl, hd2, hs2, hn2, hz2⟩ HB.out)
  clear hd1 hs1 hn1 hz1 hd2 hs2 hn2 hz2
  have K2_0 : W0.cell? ⟨w.heap.size, 0, none⟩ = some (.bool na) := K2.out.cell 0
  have K2_1 : W0.cell? ⟨w.heap.size, 1, none⟩ = some (.slice A n c) := K2.out.cell 1
  have K3_0 : W0.cell? ⟨w.heap.size + 1, 0, none⟩ = some (.bool nb) := K3.out.cell 0
  have K3_1 : W0.cell? ⟨w.heap.size + 1, 1, none⟩ = some (.slice A2 m c2) := K3.out.cell 1
  go_enter Try.func39, Try.ntmps39
  go_upto_region 1 with fail
  rw [← hW0]
  clear hW0
  have hy0 : Below W0.heap.size W0 W0.drew := below_drew (Below.refl _ _)
  refine wp_region_mix 4 (fun w' => Below W0.heap.size W0 w') (by kernel_rfl) (by decide) ?_
  generalize W0.drew = y0 at hy0 ⊢
  refine wpM_take (i := 0) (oi := ⟨some 9, _, _, _, _, _⟩) (v := ?_) rfl (by decide +kernel) (by decide +kernel) (by decide +kernel) (fun _ _ _ h => h) (Or.inl ⟨by rfl, ?_⟩) hy0 ?_
  case refine_2 =>
    intro w' hSw
    have K2_0' := keepcell hSw K2_0
    have K2_1' := keepcell hSw K2_1
    have K3_0' := keepcell hSw K3_0
    have K3_1' := keepcell hSw K3_1
    go_simp
    try (with_reducible rfl)
  try simp only [Act.put, List.setIfInBounds_toArray, List.set_cons_zero, List.set_cons_succ]
  refine wpM_take (i := 2) (oi := ⟨some 11, _, _, _, _, _⟩) (v := ?_) rfl (by decide +kernel) (by decide +kernel) (by decide +kernel) (fun _ _ _ h => h) (Or.inl ⟨by rfl, ?_⟩) hy0 ?_
  case refine_2 =>
    intro w' hSw
    have K2_0' := keepcell hSw K2_0
    have K2_1' := keepcell hSw K2_1
    have K3_0' := keepcell hSw K3_0
    have K3_1' := keepcell hSw K3_1
    go_simp
    try (with_reducible rfl)
  try simp only [Act.put, List.setIfInBounds_toArray, List.set_cons_zero, List.set_cons_succ]
  refine wpM_step (i := 1) (o := ⟨some 10, _, _, _, _, _⟩) rfl (by decide +kernel) (by decide) (fun K hK => ?_)
  go_simp
  refine (halves_any _ z1 N y0 (GX.out.below hy0) (by omega)).mono ?_
  rintro e y1 ⟨v1, rfl, hv, hc⟩
  have hy1 : Below W0.heap.size W0 y1 := hy0.trans (hc.mono hy0.size)
  have H1 := Lib.hid hv
  clear hv
  clear hc
  refine hK.out _ _ hy1 ?_
  clear hK K
  try simp only [Act.put, List.setIfInBounds_toArray, List.set_cons_zero, List.set_cons_succ]
  refine wpM_step (i := 3) (o := ⟨some 12, _, _, _, _, _⟩) rfl (by decide +kernel) (by decide) (fun K hK => ?_)
  go_simp
  refine (halves_any _ z2 N y1 (GY.out.below hy1) (by omega)).mono ?_
  rintro e y2 ⟨v2, rfl, hv, hc⟩
  have hy2 : Below W0.heap.size W0 y2 := hy1.trans (hc.mono hy1.size)
  have H2 := Lib.hid hv
  replace H1 := Lib.hid (H1.out.below hc)
  clear hv
  clear hc
  refine hK.out _ _ hy2 ?_
  clear hK K
  try simp only [Act.put, List.setIfInBounds_toArray, List.set_cons_zero, List.set_cons_succ]
  refine wpM_done (by decide +kernel) ?_
  simp only [List.drop_succ_cons, List.drop_zero]
  clear K2_0 K2_1 K3_0 K3_1
  replace K2 := Lib.hid (K2.out.below hy2)
  replace K3 := Lib.hid (K3.out.below hy2)
  replace K4 := Lib.hid (K4.out.below hy2)
  replace HB := Lib.hid (HB.out.trans (hy2.mono HB.out.size))
  clear hy0 hy1 hy2 GX GY
  obtain ⟨A6, n6, c6, M, e6, hg6, hs6, hnm6, hdv6, hN6⟩ := H2.out
  subst e6
  have HA := Lib.hid hg6.at
  have HL := Lib.hid hg6.1
  have HKL := Lib.hid hg6.2.1
  have HDV := Lib.hid hdv6
  clear H2 hg6 hs6 hnm6 hdv6
  obtain ⟨X, hX⟩ : ∃ X, z1.natAbs = X := ⟨_, rfl⟩
  rw [hX] at H1
  have HX := Lib.hid hX
  clear hX
  obtain ⟨W3, hW3⟩ : ∃ V, V = y2.alloc (.cells #[] 3) := ⟨_, rfl⟩
  have hb3 : Below y2.heap.size y2 W3 := by rw [hW3]; exact (Below.refl _ _).alloc (Nat.le_refl _) _
  have HS0 := Lib.hid (show HV W3 (.slice (some ⟨y2.heap.size, 0, none⟩) 0 0) (X * dv 65536 (M.drop n6)) (2 * N + 2 + 2 * (n6 - n6)) from ⟨_, 0, 0, [], rfl, ⟨rfl, dok_nil _, fun h => absurd h (Nat.lt_irrefl 0)⟩, Sl.own (Nat.le_refl _) (by decide), nmz_nil, by rw [List.drop_of_length_le (by rw [HL.out]; exact Nat.le_refl _)]; rfl, Nat.zero_le _⟩)
  have HW3 := Lib.hid hW3
  clear hW3
  go_wp2_with fail
  rw [← HW3.out]
  have HB3 := Lib.hid hb3
  clear hb3
  go_loopw [7, 8] (fun s7 s8 wr => ∃ (j : Nat) (x : Int), s8 = .int .i64 x ∧ x = (j : Int) - 1 ∧ j ≤ n6 ∧ HV wr s7 (X * dv 65536 (M.drop j)) (2 * N + 2 + 2 * (n6 - j)) ∧ Below y2.heap.size y2 wr) (fun _ s8 _ => (intOf s8 + 1).toNat)
  case atStart => exact ⟨n6, _, rfl, rfl, Nat.le_refl _, HS0.out, HB3.out⟩
  case round =>
    obtain ⟨j, x, rfl, hx, hj, hs, hb⟩ := hrel
    have HS := Lib.hid hs
    have HBr := Lib.hid hb
    clear hs hb HS0 HB3 HW3
    rcases Nat.eq_zero_or_pos j with h0 | h0
    · subst h0
      obtain rfl : x = -1 := by omega
      clear hx
      replace K2 := Lib.hid (K2.out.below HBr.out)
      replace K3 := Lib.hid (K3.out.below HBr.out)
      replace K4 := Lib.hid (K4.out.below HBr.out)
      replace HB := Lib.hid (HB.out.trans (HBr.out.mono HB.out.size))
      have K2_0 : wr.cell? ⟨w.heap.size, 0, none⟩ = some (.bool na) := K2.out.cell 0
      have K2_1 : wr.cell? ⟨w.heap.size, 1, none⟩ = some (.slice A n c) := K2.out.cell 1
      have K3_0 : wr.cell? ⟨w.heap.size + 1, 0, none⟩ = some (.bool nb) := K3.out.cell 0
      have K3_1 : wr.cell? ⟨w.heap.size + 1, 1, none⟩ = some (.slice A2 m c2) := K3.out.cell 1
      have CB := Lib.hid (big_hv (na != nb) _ _ _ wr HS.out (by omega))
      rw [show sgn (na != nb) (X * dv 65536 (M.drop 0)) = z from by
        rw [List.drop_zero, HDV.out, ← HX.out, sgn_mul, sgn_self HZ1.out, sgn_self HZ2.out]
        exact HZZ.out] at CB
      go_wp2_with fail
      refine CB.out.mono ?_
      rintro e w7 ⟨v7, rfl, hv, hc⟩
      have HV := Lib.hid (hv.mono (show w.heap.size ≤ _ from HB.out.size) (show _ ≤ 6 * N + 3 by omega))
      have HB9 := Lib.hid (HB.out.trans (hc.mono HB.out.size))
      have K9 := Lib.hid (K4.out.below hc)
      clear hv hc CB K2_0 K2_1 K3_0 K3_1
      obtain ⟨Ar, nr, cr, Dr, hevr, hor, hsr, hnr, hvr, hNr⟩ := HV.out
      obtain ⟨sbr, hsbr⟩ : ∃ b, b = decide (z < 0) := ⟨_, rfl⟩
      rw [← hsbr] at hevr
      subst hevr
      have HSBr := Lib.hid hsbr
      clear hsbr
      go_wp2_with ((refine wpList_store_row (o := ⟨none, _, _, _, _, _⟩) rfl 37 _ _ rfl (w.heap.size + 1 + 1) #[.bool sbr, .slice Ar nr cr] rfl rfl 37 _ K9.out (by kernel_rfl) rfl (by simp [Value.oneCell']) ?_))
      refine bodyPost_ret (results_c1 rfl _ _ _ (w.heap.size + 1 + 1) _ rfl (load24 (K9.out.setRow (ds := #[.bool sbr, .slice Ar nr cr])) rfl)) rfl ?_
      exact ⟨_, rfl, NB.row ⟨Ar, nr, cr, Dr, by rw [HSBr.out], hor, hsr, hnr, hvr, hNr⟩ K9.out _, HB9.out.grown (grown_row w7 (w.heap.size + 1 + 1) _) HB9.out.size (fun j hj => by first | (injection hj with hj; omega) | omega | (cases hj; exact Nat.le_refl _))⟩
    · obtain ⟨i, rfl⟩ : ∃ i, j = i + 1 := ⟨j - 1, by omega⟩
      obtain rfl : x = (i : Int) := by omega
      clear hx h0
      have hiI : (i : Int) < (n6 : Int) := by omega
      have hi0 : (0 : Int) ≤ (i : Int) := by omega
      have hi1 : (i : Int) ≥ 0 := by omega
      obtain ⟨b, off, rfl, hbl, hcell⟩ := HA.out (by omega)
      obtain ⟨d, hd⟩ : ∃ d, M[i]? = some d := ⟨_, List.getElem?_eq_getElem (by rw [HL.out]; omega)⟩
      have c0 := hcell wr HBr.out i d hd
      have hdB := dok_at HKL.out hd
      obtain ⟨K, hK⟩ : ∃ K, 2 * N + 2 + 2 * (n6 - (i + 1)) = K := ⟨_, rfl⟩
      have hKb : K ≤ 6 * N + 2 := by omega
      have HKK := Lib.hid (show 2 * N + 2 + 2 * (n6 - i) = K + 2 by omega)
      have hKN : 2 * N + 1 ≤ K + 1 := by omega
      obtain ⟨S, hS⟩ : ∃ S, X * dv 65536 (M.drop (i + 1)) = S := ⟨_, rfl⟩
      have HST := Lib.hid (show 65536 * S + X * d = X * dv 65536 (M.drop i) by
        rw [dv_drop_cons 65536 M i d hd, Nat.mul_add, ← hS, ← Nat.mul_assoc, ← Nat.mul_assoc, Nat.mul_comm 65536 X, Nat.add_comm])
      rw [hK, hS] at HS
      clear hcell hd hK hS
      obtain ⟨A7, n7, c7, L7, e7, hg7, hs7, hn7, hv7, hN7⟩ := HS.out
      subst e7
      have HG7 := Lib.hid hg7
      have HV7 := Lib.hid hv7
      have H1r := Lib.hid (H1.out.below HBr.out)
      clear hg7 hs7 hn7 hv7 HS
      go_upto_region 6 with fail
      have hS0 : Below wr.heap.size wr wr.drew := below_drew (Below.refl _ _)
      refine wp_region_mix 10 (fun w' => Below wr.heap.size wr w') (by kernel_rfl) (by decide) ?_
      generalize wr.drew = y0 at hS0 ⊢
      refine wpM_take (i := 1) (oi := ⟨some 22, _, _, _, _, _⟩) (v := ?_) rfl (by decide +kernel) (by decide +kernel) (by decide +kernel) (fun _ _ _ h => h) (Or.inl ⟨by rfl, ?_⟩) hS0 ?_
      case refine_2 =>
        intro w' hSw
        go_simp
        try (with_reducible rfl)
      try simp only [Act.put, List.setIfInBounds_toArray, List.set_cons_zero, List.set_cons_succ]
      refine wpM_take (i := 3) (oi := ⟨some 24, _, _, _, _, _⟩) (v := ?_) rfl (by decide +kernel) (by decide +kernel) (by decide +kernel) (fun _ _ _ h => h) (Or.inl ⟨by rfl, ?_⟩) hS0 ?_
      case refine_2 =>
        intro w' hSw
        go_simp
        try (with_reducible rfl)
      try simp only [Act.put, List.setIfInBounds_toArray, List.set_cons_zero, List.set_cons_succ]
      refine wpM_take (i := 4) (oi := ⟨some 25, _, _, _, _, _⟩) (v := ?_) rfl (by decide +kernel) (by decide +kernel) (by decide +kernel) (fun _ _ _ h => h) (Or.inl ⟨by rfl, ?_⟩) hS0 ?_
      case refine_2 =>
        intro w' hSw
        go_simp
        try (with_reducible rfl)
      try simp only [Act.put, List.setIfInBounds_toArray, List.set_cons_zero, List.set_cons_succ]
      refine wpM_take (i := 5) (oi := ⟨some 26, _, _, _, _, _⟩) (v := ?_) rfl (by decide +kernel) (by decide +kernel) (by decide +kernel) (fun _ _ _ h => h) (Or.inl ⟨by rfl, ?_⟩) hS0 ?_
      case refine_2 =>
        intro w' hSw
        go_simp
        try (with_reducible rfl)
      try simp only [Act.put, List.setIfInBounds_toArray, List.set_cons_zero, List.set_cons_succ]
      refine wpM_take (i := 6) (oi := ⟨some 27, _, _, _, _, _⟩) (v := ?_) rfl (by decide +kernel) (by decide +kernel) (by decide +kernel) (fun _ _ _ h => h) (Or.inl ⟨by rfl, ?_⟩) hS0 ?_
      case refine_2 =>
        intro w' hSw
        go_simp
        try (with_reducible rfl)
      try simp only [Act.put, List.setIfInBounds_toArray, List.set_cons_zero, List.set_cons_succ]
      refine wpM_take (i := 7) (oi := ⟨some 28, _, _, _, _, _⟩) (v := ?_) rfl (by decide +kernel) (by decide +kernel) (by decide +kernel) (fun _ _ _ h => h) (Or.inl ⟨by rfl, ?_⟩) hS0 ?_
      case refine_2 =>
        intro w' hSw
        have c0' := keepcell hSw c0
        go_simp
        try (with_reducible rfl)
      try simp only [Act.put, List.setIfInBounds_toArray, List.set_cons_zero, List.set_cons_succ]
      refine wpM_apart (fun i => 21 + i) [0, 2, 8, 9] (mulS wr.heap.size S X d K (2 * N + 1)) ap0 (by decide +kernel) (fun i j h => absurd h ap0_no) (mulS_mono wr.heap.size S X d K (2 * N + 1)) hS0 ?_ ?_
      · refine List.forall_mem_cons.2 ⟨?_, List.forall_mem_cons.2 ⟨?_, List.forall_mem_cons.2 ⟨?_, List.forall_mem_cons.2 ⟨?_, List.forall_mem_nil _⟩⟩⟩⟩
        · refine ⟨⟨some 21, _, _, _, _, _⟩, rfl, rfl, fun vs W KK hS hd hK => ?_⟩
          simp only [puts, List.foldl_cons, List.foldl_nil, Act.put, List.setIfInBounds_toArray, List.set_cons_zero, List.set_cons_succ, Nat.reduceAdd, Nat.reduceSub, Nat.reduceEqDiff, ↓reduceIte, reduceCtorEq] at hK ⊢
          go_simp
          exact hK _ _ (hS.alloc hS.size _) ((Below.refl _ _).alloc (Nat.le_refl _) _) ⟨_, rfl, hS.size, Blk.new _ _ _⟩ (fun j h => absurd h ap0_no)
        · refine ⟨⟨some 23, _, _, _, _, _⟩, rfl, rfl, fun vs W KK hS hd hK => ?_⟩
          have d0 : Z1 W wr.heap.size (vs 0) := hd 0 (by decide) (by decide +kernel)
          simp only [puts, List.foldl_cons, List.foldl_nil, Act.put, List.setIfInBounds_toArray, List.set_cons_zero, List.set_cons_succ, Nat.reduceAdd, Nat.reduceSub, Nat.reduceEqDiff, ↓reduceIte, reduceCtorEq] at hK ⊢
          obtain ⟨g, e2, hg, hk⟩ := d0
          simp only [e2] at hK ⊢
          refine ite_pos (by rfl) ?_
          refine wp_append_one W _ _ rfl g rfl hk _ n7 L7 rfl (hg_src (HG7.out.below hS)) HG7.out.2.1 (by omega) (fun v' w' h hb => ?_)
          rw [HV7.out] at h
          exact hK _ _ (hS.trans (hb.mono hS.size)) hb (show HR0 w' v' (65536 * S) (K + 1) from h.wide (by omega)) (fun j h => absurd h ap0_no)
        · refine ⟨⟨some 29, _, _, _, _, _⟩, rfl, rfl, fun vs W KK hS hd hK => ?_⟩
          simp only [puts, List.foldl_cons, List.foldl_nil, Act.put, List.setIfInBounds_toArray, List.set_cons_zero, List.set_cons_succ, Nat.reduceAdd, Nat.reduceSub, Nat.reduceEqDiff, ↓reduceIte, reduceCtorEq] at hK ⊢
          go_simp
          refine (times_hv v1 X (2 * N) d W (H1r.out.below hS) (by omega) hdB).mono ?_
          rintro e W' ⟨v, rfl, hv, hb⟩
          exact hK _ _ (hS.trans (hb.mono hS.size)) hb hv (fun j h => absurd h ap0_no)
        · refine ⟨⟨some 30, _, _, _, _, _⟩, rfl, rfl, fun vs W KK hS hd hK => ?_⟩
          have d2 : HR0 W (vs 2) (65536 * S) (K + 1) := hd 2 (by decide) (by decide +kernel)
          have d8 : HV W (vs 8) (X * d) (2 * N + 1) := hd 8 (by decide) (by decide +kernel)
          simp only [puts, List.foldl_cons, List.foldl_nil, Act.put, List.setIfInBounds_toArray, List.set_cons_zero, List.set_cons_succ, Nat.reduceAdd, Nat.reduceSub, Nat.reduceEqDiff, ↓reduceIte, reduceCtorEq] at hK ⊢
          go_simp
          refine (plus_r0 _ _ (65536 * S) (X * d) (K + 1) W d2 (d8.r0.wide hKN) (by omega)).mono ?_
          rintro e W' ⟨v, rfl, hv, hb⟩
          exact hK _ _ (hS.trans (hb.mono hS.size)) hb hv (fun j h => absurd h ap0_no)
      · intro vs W hS hd hap
        have d9 : HV W (vs 9) (65536 * S + X * d) (K + 2) := hd 9 (by decide)
        rw [HST.out] at d9
        have HN9 := Lib.hid d9
        have HBn := Lib.hid (HBr.out.trans (hS.mono HBr.out.size))
        clear d9 hd hap hS
        simp only [puts, List.foldl_cons, List.foldl_nil, Act.put, List.setIfInBounds_toArray, List.set_cons_zero, List.set_cons_succ, Nat.reduceAdd, Nat.reduceSub, Nat.reduceEqDiff, ↓reduceIte, reduceCtorEq]
        simp only [List.drop_succ_cons, List.drop_zero]
        go_wp2
        go_roundw
        case rel => exact ⟨i, _, by first | rfl | go_num, rfl, by omega, by rw [HKK.out]; exact HN9.out, HBn.out⟩
        case measure => simp only [intOf]; omega
end Go.Proofs.Ythfolccofjaknaa
