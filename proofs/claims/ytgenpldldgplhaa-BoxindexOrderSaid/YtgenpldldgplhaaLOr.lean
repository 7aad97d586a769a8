/- Law BoxindexOrder: for every input the call returns true, and its arguments read afterwards as before. -/
import Derived.Test.YtgenpldldgplhaaBo4
import Derived.Test.YtgenpldldgplhaaMi2
import Derived.Test.YtgenpldldgplhaaBfr
import Derived.Test.YtgenpldldgplhaaBpy
import Derived.Test.YtgenpldldgplhaaBaw
import Derived.Deep.Cut
namespace Go.Proofs.Ytgenpldldgplhaa
open Go.ChangeShapes Go.WideShapes Go.ChangeAt Go.RowKit Go.ChangeMaps

theorem KS.symm {L1 L2 : List It} (h : KS L1 L2) : KS L2 L1 := Eq.symm h
theorem KS.ok {L1 L2 : List It} (h : KS L1 L2) (hk : ∀ y ∈ L1, w64 y.id ∧ w64 y.t) : ∀ y ∈ L2, w64 y.id ∧ w64 y.t := by
  intro y hy
  have : y.key ∈ L1.map It.key := by rw [h]; exact List.mem_map_of_mem hy
  obtain ⟨z, hz, e⟩ := List.mem_map.1 this
  have h1 := hk z hz
  have e1 : z.id = y.id := congrArg Prod.fst e
  have e2 : z.t = y.t := congrArg (fun p => p.2.1) e
  rw [← e1, ← e2]
  exact h1
theorem KS.drop {L1 L2 : List It} (h : KS L1 L2) (j : Nat) : KS (L1.drop j) (L2.drop j) := by
  unfold KS at *
  rw [List.map_drop, List.map_drop, h]
set_option maxRecDepth 100000 in
set_option maxHeartbeats 4000000 in
theorem boxindexOrder_walk (A : Option Addr) (n c : Nat) (R : List Ot) (t1 : Int) (A1 : Option Addr) (n1 c1 : Nat) (R1 : List Sd) (w : World) (k0 : Ots w A n R) (l0 : n * 48 ≤ 140737488351232) (g0 : ∀ x ∈ R, Sds w x.A x.n x.R ∧ x.n ≤ 9223372036854775807 ∧ w64 x.id ∧ w64 x.t ∧ 0 ≤ x.kd ∧ x.kd < 256) (k1 : Sds w A1 n1 R1) (l1 : n1 ≤ c1 ∧ c1 ≤ 9223372036854775807) (g1 : w64 t1) : Calls Try.prog 5 #[.slice A n c, .agg #[.int .i64 t1, .slice A1 n1 c1]] w fun e w' => e = .returned (.bool true) ∧ Below w.heap.size w w' := by
  have hn0 : n ≤ 9223372036854775807 := by omega
  have hn1 : n1 ≤ 9223372036854775807 := by omega
  obtain ⟨i0, hi, hz0, hz1, hz2⟩ := info_parts Try.info34
  have HI := Lib.hid hi
  have HZ0 := Lib.hid hz0
  have HZ1 := Lib.hid hz1
  have HZ2 := Lib.hid hz2
  obtain ⟨w0, hw0⟩ : ∃ W, W = w.alloc (.cells #[.int .i64 t1, .slice A1 n1 c1] 32) := ⟨_, rfl⟩
  have HB0 := Lib.hid (show Below w.heap.size w w0 by rw [hw0]; exact (Below.refl _ w).alloc (Nat.le_refl _) _)
  have KX0 := Lib.hid (show Blk w0 w.heap.size 32 #[.int .i64 t1, .slice A1 n1 c1] by rw [hw0]; exact Blk.new _ _ _)
  have HK := Lib.hid k0
  have HG := Lib.hid g0
  have HS1 := Lib.hid k1
  have HRL := Lib.hid k0.len
  clear hi hz0 hz1 hz2 k0 g0 k1
  go_enter Try.func5, Try.ntmps5
  go_wp2_with fail
  rw [← hw0]
  clear hw0
  refine (awake_any w0).mono ?_
  rintro e1 w1 ⟨rfl, hb1⟩
  have HB1 := Lib.hid (HB0.out.trans (hb1.mono HB0.out.size))
  have KX1 := Lib.hid (KX0.out.below hb1)
  have CF := Lib.hid (show ∀ W (_ : Below w.heap.size w W) (A' : Option Addr) (c' : Nat), Ots W A' (n + 1) (R ++ [⟨0, 0, t1, A1, n1, c1, R1⟩]) → Calls Try.prog 10 #[.slice A' (n + 1) c', .int .i64 41] W (FrP (R ++ [⟨0, 0, t1, A1, n1, c1, R1⟩]) (n + 1) 41 W) from fun W hW A' c' h =>
    Fair_any A' (n + 1) c' _ 41 W h (by omega) (fun o ho => by
      rcases List.mem_append.1 ho with ho | ho
      · exact ⟨(HG.out o ho).1.below hW, (HG.out o ho).2.1⟩
      · rw [List.mem_singleton.1 ho]
        exact ⟨HS1.out.below hW, hn1⟩))
  clear hb1
  have d0 : w1.cell? ⟨w.heap.size, 0, none⟩ = some (.int .i64 t1) := KX1.out.cell 0
  have d1 : w1.cell? ⟨w.heap.size, 1, none⟩ = some (.slice A1 n1 c1) := KX1.out.cell 1
  go_upto_region 3 with fail
  have hb0 : Below w1.heap.size w1 w1.drew := below_drew (Below.refl _ _)
  refine wp_region_mix 6 (fun w' => Below w1.heap.size w1 w') (by kernel_rfl) (by decide) ?_
  generalize w1.drew = y0 at hb0 ⊢
  refine wpM_take (i := 1) (oi := ⟨some 13, _, _, _, _, _⟩) (v := ?_) rfl (by decide +kernel) (by decide +kernel) (by decide +kernel) (fun _ _ _ h => h) (Or.inl ⟨by rfl, ?_⟩) hb0 ?_
  case refine_2 =>
    intro w' hSw
    go_simp
    try (with_reducible rfl)
  try simp only [Act.put, List.setIfInBounds_toArray, List.set_cons_zero, List.set_cons_succ]
  refine wpM_take (i := 3) (oi := ⟨some 15, _, _, _, _, _⟩) (v := ?_) rfl (by decide +kernel) (by decide +kernel) (by decide +kernel) (fun _ _ _ h => h) (Or.inl ⟨by rfl, ?_⟩) hb0 ?_
  case refine_2 =>
    intro w' hSw
    have d0' := keepcell hSw d0
    have d1' := keepcell hSw d1
    go_simp
    try (with_reducible rfl)
  try simp only [Act.put, List.setIfInBounds_toArray, List.set_cons_zero, List.set_cons_succ]
  refine wpM_take (i := 4) (oi := ⟨some 16, _, _, _, _, _⟩) (v := ?_) rfl (by decide +kernel) (by decide +kernel) (by decide +kernel) (fun _ _ _ h => h) (Or.inl ⟨by rfl, ?_⟩) hb0 ?_
  case refine_2 =>
    intro w' hSw
    go_simp
    try (with_reducible rfl)
  try simp only [Act.put, List.setIfInBounds_toArray, List.set_cons_zero, List.set_cons_succ]
  refine wpM_chains (fun i => 12 + i) [0, 2, 5] (fun i v W => (i = 0 → ∃ g, v = .slice (some ⟨g, 0, none⟩) 0 0 ∧ Blk W g 34 #[] ∧ w1.heap.size ≤ g) ∧ (i = 2 → W.ownsRow w1.heap.size 34 4 v n (R.flatMap Ot.cells)) ∧ (i = 5 → ∃ g, v = .slice (some ⟨g, 0, none⟩) 1 1 ∧ Blk W g 34 #[.int .u8 0, .int .i64 0, .int .i64 t1, .slice A1 n1 c1]) ∧ True) (by decide +kernel) (fun i v W W' h0 hb => ⟨fun e => (fun h => let ⟨g, e, k, q⟩ := h; ⟨g, e, k.below hb, q⟩) (h0.1 e), fun e => (fun h => own_below h hb) (h0.2.1 e), fun e => (fun h => let ⟨g, e, k⟩ := h; ⟨g, e, k.below hb⟩) (h0.2.2.1 e), trivial⟩) hb0 ?_ ?_
  · refine List.forall_mem_cons.2 ⟨?_, List.forall_mem_cons.2 ⟨?_, List.forall_mem_cons.2 ⟨?_, List.forall_mem_nil _⟩⟩⟩
    · refine ⟨⟨some 12, _, _, _, _, _⟩, rfl, rfl, fun vs W K hS hd hK => ?_⟩
      simp only [puts, List.foldl_cons, List.foldl_nil, Act.put, List.setIfInBounds_toArray, List.set_cons_zero, List.set_cons_succ, Nat.reduceAdd, Nat.reduceSub] at hK ⊢
      go_simp
      have hb : Below W.heap.size W (W.alloc (.cells #[] 34)) := (Below.refl _ _).alloc (Nat.le_refl _) _
      exact hK _ _ (hS.trans (hb.mono hS.size)) hb ⟨fun _ => ⟨_, rfl, Blk.new _ _ _, hS.size⟩, fun e => absurd e (by decide), fun e => absurd e (by decide), trivial⟩
    · refine ⟨⟨some 14, _, _, _, _, _⟩, rfl, rfl, fun vs W K hS hd hK => ?_⟩
      obtain ⟨g, e1, k1, q1⟩ := (hd 0 (by decide) (by decide +kernel)).1 rfl
      simp only [puts, List.foldl_cons, List.foldl_nil, Act.put, List.setIfInBounds_toArray, List.set_cons_zero, List.set_cons_succ, Nat.reduceAdd, Nat.reduceSub] at hK ⊢
      simp only [e1] at hK ⊢
      rw [if_pos (by rfl)]
      refine wp_append_new W (.tmp 12) (.tmp 13) 22 22 (by rfl) w1.heap.size 34 i0 _ 4 48 Try.underlying22 HI.out HZ0.out HZ1.out HZ2.out rfl g q1 (by rfl) k1 (.slice A n c) n (R.flatMap Ot.cells) (by rfl) (At.src Try.underlying22 (HK.out.below (HB1.out.trans (hS.mono HB1.out.size))) (ot_one R) (by decide)) (by unfold maxLen; omega) (by omega) ?_
      intro v' W' ho hb
      exact hK _ _ (hS.trans (hb.mono hS.size)) hb ⟨fun e => absurd e (by decide), fun _ => ho, fun e => absurd e (by decide), trivial⟩
    · refine ⟨⟨some 17, _, _, _, _, _⟩, rfl, rfl, fun vs W K hS hd hK => ?_⟩
      simp only [puts, List.foldl_cons, List.foldl_nil, Act.put, List.setIfInBounds_toArray, List.set_cons_zero, List.set_cons_succ, Nat.reduceAdd, Nat.reduceSub] at hK ⊢
      go_simp
      have hb : Below W.heap.size W (W.alloc (.cells #[.int .u8 0, .int .i64 0, .int .i64 t1, .slice A1 n1 c1] 34)) := (Below.refl _ _).alloc (Nat.le_refl _) _
      exact hK _ _ (hS.trans (hb.mono hS.size)) hb ⟨fun e => absurd e (by decide), fun e => absurd e (by decide), fun _ => ⟨_, rfl, Blk.new _ _ _⟩, trivial⟩
  · intro vs W hS hd
    obtain o2 := (hd 2 (by decide)).2.1 rfl
    obtain ⟨g, e5, k5⟩ := (hd 5 (by decide)).2.2.1 rfl
    simp only [puts, List.foldl_cons, List.foldl_nil, Act.put, List.setIfInBounds_toArray, List.set_cons_zero, List.set_cons_succ, Nat.reduceAdd, Nat.reduceSub]
    simp only [e5]
    clear hd
    simp only [List.drop_succ_cons, List.drop_zero]
    refine wpList_append_src W rfl (.tmp 14) (.tmp 17) 22 22 rfl w1.heap.size 34 i0 _ 4 48 Try.underlying22 HI.out HZ0.out HZ1.out HZ2.out rfl _ n (R.flatMap Ot.cells) rfl o2 _ 1 [.int .u8 0, .int .i64 0, .int .i64 t1, .slice A1 n1 c1] rfl (src_blk Try.underlying22 rfl (ot_one [⟨0, 0, t1, A1, n1, c1, R1⟩]) k5) (by unfold maxLen; omega) (by omega) hS.size ?_
    intro v' W2 own' hg _
    have hb1 : Below w1.heap.size w1 W2 := grown_below hS hS.size o2 hg
    obtain ⟨A', c', rfl, hat, -, -⟩ := At.of_own own'
    have hot : Ots W2 A' (n + 1) (R ++ [⟨0, 0, t1, A1, n1, c1, R1⟩]) := by
      unfold Ots
      rw [List.flatMap_append]
      exact hat
    have HBW := Lib.hid (HB1.out.trans (hb1.mono HB1.out.size))
    have KXW := Lib.hid (KX1.out.below hb1)
    have HOT := Lib.hid hot
    clear hot hat own' hg o2 k5 e5 hb1 hS
    go_wp2_with fail
    refine (CF.out _ HBW.out _ _ HOT.out).mono ?_
    rintro e2 w2 ⟨q, rfl, hq, hb2⟩
    have HB2 := Lib.hid (HBW.out.trans (hb2.mono HBW.out.size))
    have KX2 := Lib.hid (KXW.out.below hb2)
    clear CF hb2 HOT HBW KXW HB1 KX1 HB0 KX0
    cases q
    · go_wp2
      go_ret
      exact ⟨rfl, HB2.out⟩
    obtain ⟨hn60, hn4⟩ := hq rfl
    have hn : n ≤ 40 := by omega
    have hn14 : n1 ≤ 4 := hn4 ⟨0, 0, t1, A1, n1, c1, R1⟩ (List.mem_append_right _ (List.mem_singleton.2 rfl))
    have HOK := Lib.hid (show OkO w2 R from fun o ho => ⟨(HG.out o ho).1.below HB2.out, by have := hn4 o (List.mem_append_left _ ho); omega, (HG.out o ho).2.2⟩)
    clear hq hn4 hn60 hn0 hn1
    have HKO := Lib.hid (HK.out.below HB2.out)
    have CP := Lib.hid (Play_any A n c R w2 HKO.out (by omega) HOK.out)
    go_wp2_with fail
    refine CP.out.mono ?_
    rintro e3 w3 ⟨x, A', m, c', M, L1, L2, rfl, hp⟩
    have HP := Lib.hid hp
    have hlm : L1.length = m := hp.ks.len.trans hp.row.len
    have hmn : m ≤ n := hp.n
    have HB3 := Lib.hid (HB2.out.trans (hp.bel.mono HB2.out.size))
    have KX3 := Lib.hid (KX2.out.below hp.bel)
    clear CP hp HB2 KX2 HKO HOK HK HG
    go_wp2_with fail
    refine (New_any w3).mono ?_
    rintro e4 w4 ⟨y, rfl, hy, hb4⟩
    have HIY0 := Lib.hid hy
    have HB4 := Lib.hid hb4
    have HA := Lib.hid HP.out.row.at
    have HL := Lib.hid HP.out.row.len
    have HASC := Lib.hid (show Asc L2 from HP.out.ks.asc HP.out.ix.asc)
    have HOKI := Lib.hid (HP.out.ks.ok HP.out.ix.ok)
    have HSDI := Lib.hid HP.out.sd
    clear hy hb4
    go_wp2_with fail
    go_loopw [9] (fun s wr => ∃ (j : Nat), s = .int .i64 ((j : Int) - 1) ∧ j ≤ m ∧ Below w3.heap.size w3 wr ∧ ∃ L3, IX wr w3.heap.size y (m - j) L3 ∧ KS L3 (L2.drop j)) (fun s _ => (intOf s + 1).toNat)
    case atStart => exact ⟨m, by go_num, Nat.le_refl _, HB4.out, [], by rw [Nat.sub_self]; exact HIY0.out, by rw [← HL.out, List.drop_length]; exact KS.nil⟩
    case round =>
      obtain ⟨j, rfl, hjm, hB, L3, hix, hks⟩ := hrel
      have HBR := Lib.hid (HB3.out.trans (hB.mono HB3.out.size))
      have KXR := Lib.hid (KX3.out.below hB)
      cases j with
      | zero =>
        have hneg : ¬ ((0 : Int) ≤ ((0 : Nat) : Int) - 1) := by omega
        obtain ⟨zs, hzs⟩ : ∃ zs, candL L1 t1 R1 = zs := ⟨_, rfl⟩
        have hks3 : KS L3 L2 := by simpa using hks
        have hl3 : L3.length = m := hks3.len.trans HP.out.row.len
        have hzs3 : candL L3 t1 R1 = zs := by rw [← hzs, hks3.cand t1 R1, HP.out.ks.cand t1 R1]
        have hzl : zs.length ≤ 1000 := by
          rw [← hzs]
          unfold candL
          rw [List.length_map]
          exact Nat.le_trans (List.length_filter_le _ _) (by omega)
        have HIY := Lib.hid hix
        have HPB := Lib.hid (HP.out.below hB)
        have HLX := Lib.hid (show ∀ (W : World) (_ : Below wr.heap.size wr W), Calls Try.prog 12 #[.pointer (some ⟨x, 0, none⟩)] W fun e w' => e = .returned (.int .i64 (m : Int)) ∧ w' = W from fun W hW => by
          have := Len_any W _ x M L1 (HPB.out.below hW).ix
          rw [hlm] at this
          exact this)
        have HLY := Lib.hid (show ∀ (W : World) (_ : Below wr.heap.size wr W), Calls Try.prog 12 #[.pointer (some ⟨y, 0, none⟩)] W fun e w' => e = .returned (.int .i64 (m : Int)) ∧ w' = W from fun W hW => by
          have := Len_any W _ y _ L3 (HIY.out.below hW)
          rw [hl3] at this
          exact this)
        have HCX := Lib.hid (show ∀ (W : World) (_ : Below wr.heap.size wr W) (D : Option Addr) (d : Nat), Sds W D n1 R1 → Calls Try.prog 14 #[.pointer (some ⟨x, 0, none⟩), .agg #[.int .i64 t1, .slice D n1 d]] W fun e w' => ∃ A' n' c', e = .returned (.slice A' n' c') ∧ (Nms w' A' n' zs ∧ n' ≤ 1000) ∧ Below W.heap.size W w' from fun W hW D d hD => by
          refine (Cand_any W _ x _ L1 ((HPB.out.below hW).ix) t1 g1 D n1 d R1 hD (by omega) (by omega)).mono ?_
          rintro e w' ⟨A1, n1, c1, rfl, ho, hb⟩
          rw [hzs] at ho
          refine ⟨A1, n1, c1, rfl, ⟨Nms.own ho, ?_⟩, hb⟩
          have h5 := ho.1
          rw [ic_len] at h5
          have h6 := hzl
          omega)
        have HCY := Lib.hid (show ∀ (W : World) (_ : Below wr.heap.size wr W) (D : Option Addr) (d : Nat), Sds W D n1 R1 → Calls Try.prog 14 #[.pointer (some ⟨y, 0, none⟩), .agg #[.int .i64 t1, .slice D n1 d]] W fun e w' => ∃ A' n' c', e = .returned (.slice A' n' c') ∧ (Nms w' A' n' zs ∧ n' ≤ 1000) ∧ Below W.heap.size W w' from fun W hW D d hD => by
          refine (Cand_any W _ y _ L3 (HIY.out.below hW) t1 g1 D n1 d R1 hD (by omega) (by omega)).mono ?_
          rintro e w' ⟨A1, n1, c1, rfl, ho, hb⟩
          rw [hzs3] at ho
          refine ⟨A1, n1, c1, rfl, ⟨Nms.own ho, ?_⟩, hb⟩
          have h5 := ho.1
          rw [ic_len] at h5
          have h6 := hzl
          omega)
        have HT3 := Lib.hid (show ∀ (W : World) (_ : Below wr.heap.size wr W), Sds W A1 n1 R1 from fun W hW => HS1.out.below (HBR.out.trans (hW.mono HBR.out.size)))
        have d0 : wr.cell? ⟨w.heap.size, 0, none⟩ = some (.int .i64 t1) := KXR.out.cell 0
        have d1 : wr.cell? ⟨w.heap.size, 1, none⟩ = some (.slice A1 n1 c1) := KXR.out.cell 1
        clear hzs hzs3 hks hks3 hix hB hzl hl3
        go_upto_region 13 with fail
        have hb0 : Below wr.heap.size wr wr.drew := below_drew (Below.refl _ _)
        refine wp_region_mix 14 (fun w' => Below wr.heap.size wr w') (by kernel_rfl) (by decide) ?_
        generalize wr.drew = y0 at hb0 ⊢
        refine wpM_take (i := 0) (oi := ⟨some 54, _, _, _, _, _⟩) (v := ?_) rfl (by decide +kernel) (by decide +kernel) (by decide +kernel) (fun _ _ _ h => h) (Or.inl ⟨by rfl, ?_⟩) hb0 ?_
        case refine_2 =>
          intro w' hSw
          go_simp
          try (with_reducible rfl)
        try simp only [Act.put, List.setIfInBounds_toArray, List.set_cons_zero, List.set_cons_succ]
        refine wpM_take (i := 2) (oi := ⟨some 56, _, _, _, _, _⟩) (v := ?_) rfl (by decide +kernel) (by decide +kernel) (by decide +kernel) (fun _ _ _ h => h) (Or.inl ⟨by rfl, ?_⟩) hb0 ?_
        case refine_2 =>
          intro w' hSw
          go_simp
          try (with_reducible rfl)
        try simp only [Act.put, List.setIfInBounds_toArray, List.set_cons_zero, List.set_cons_succ]
        refine wpM_step (i := 1) (o := ⟨some 55, _, _, _, _, _⟩) rfl (by decide +kernel) (by decide) (fun K hK => ?_)
        go_simp
        refine (HLX.out _ hb0).mono ?_
        rintro e y55 ⟨rfl, rfl⟩
        refine hK.out _ _ hb0 ?_
        clear hK K
        try simp only [Act.put, List.setIfInBounds_toArray, List.set_cons_zero, List.set_cons_succ]
        refine wpM_step (i := 3) (o := ⟨some 57, _, _, _, _, _⟩) rfl (by decide +kernel) (by decide) (fun K hK => ?_)
        go_simp
        refine (HLY.out _ hb0).mono ?_
        rintro e y57 ⟨rfl, rfl⟩
        refine hK.out _ _ hb0 ?_
        clear hK K
        try simp only [Act.put, List.setIfInBounds_toArray, List.set_cons_zero, List.set_cons_succ]
        refine wpM_take (i := 4) (oi := ⟨some 58, _, _, _, _, _⟩) (v := .bool true) rfl (by decide +kernel) (by decide +kernel) (by decide +kernel) (fun _ _ _ h => h) (Or.inl ⟨by rfl, ?_⟩) hb0 ?_
        case refine_1 =>
          intro w' hSw
          go_simp
          try (with_reducible rfl)
        try simp only [Act.put, List.setIfInBounds_toArray, List.set_cons_zero, List.set_cons_succ]
        refine wpM_take (i := 5) (oi := ⟨some 59, _, _, _, _, _⟩) (v := .bool true) rfl (by decide +kernel) (by decide +kernel) (by decide +kernel) (fun _ _ _ h => h) (Or.inl ⟨by rfl, ?_⟩) hb0 ?_
        case refine_1 =>
          intro w' hSw
          go_simp
          try (with_reducible rfl)
        try simp only [Act.put, List.setIfInBounds_toArray, List.set_cons_zero, List.set_cons_succ]
        refine wpM_take (i := 6) (oi := ⟨some 60, _, _, _, _, _⟩) (v := ?_) rfl (by decide +kernel) (by decide +kernel) (by decide +kernel) (fun _ _ _ h => h) (Or.inl ⟨by rfl, ?_⟩) hb0 ?_
        case refine_2 =>
          intro w' hSw
          go_simp
          try (with_reducible rfl)
        try simp only [Act.put, List.setIfInBounds_toArray, List.set_cons_zero, List.set_cons_succ]
        refine wpM_take (i := 7) (oi := ⟨some 61, _, _, _, _, _⟩) (v := ?_) rfl (by decide +kernel) (by decide +kernel) (by decide +kernel) (fun _ _ _ h => h) (Or.inl ⟨by rfl, ?_⟩) hb0 ?_
        case refine_2 =>
          intro w' hSw
          have d0' := keepcell hSw d0
          have d1' := keepcell hSw d1
          go_simp
          try (with_reducible rfl)
        try simp only [Act.put, List.setIfInBounds_toArray, List.set_cons_zero, List.set_cons_succ]
        refine wpM_take (i := 10) (oi := ⟨some 64, _, _, _, _, _⟩) (v := ?_) rfl (by decide +kernel) (by decide +kernel) (by decide +kernel) (fun _ _ _ h => h) (Or.inl ⟨by rfl, ?_⟩) hb0 ?_
        case refine_2 =>
          intro w' hSw
          go_simp
          try (with_reducible rfl)
        try simp only [Act.put, List.setIfInBounds_toArray, List.set_cons_zero, List.set_cons_succ]
        refine wpM_take (i := 11) (oi := ⟨some 65, _, _, _, _, _⟩) (v := ?_) rfl (by decide +kernel) (by decide +kernel) (by decide +kernel) (fun _ _ _ h => h) (Or.inl ⟨by rfl, ?_⟩) hb0 ?_
        case refine_2 =>
          intro w' hSw
          have d0' := keepcell hSw d0
          have d1' := keepcell hSw d1
          go_simp
          try (with_reducible rfl)
        try simp only [Act.put, List.setIfInBounds_toArray, List.set_cons_zero, List.set_cons_succ]
        refine wpM_step (i := 8) (o := ⟨some 62, _, _, _, _, _⟩) rfl (by decide +kernel) (by decide) (fun K hK => ?_)
        rw [if_pos (by rfl)]
        go_simp
        refine (To_any t1 A1 n1 c1 R1 _ (HT3.out _ hb0) (by omega)).mono ?_
        rintro e y62 ⟨D1, q1, rfl, s1, h1⟩
        have hb1 := hb0.trans (h1.mono hb0.size)
        refine hK.out _ _ hb1 ?_
        clear hK K
        try simp only [Act.put, List.setIfInBounds_toArray, List.set_cons_zero, List.set_cons_succ]
        refine wpM_step (i := 9) (o := ⟨some 63, _, _, _, _, _⟩) rfl (by decide +kernel) (by decide) (fun K hK => ?_)
        rw [if_pos (by rfl)]
        go_simp
        refine (HCX.out _ hb1 D1 q1 s1).mono ?_
        rintro e y63 ⟨D2, k2, q2, rfl, ⟨s2, z2⟩, h2⟩
        have hb2 := hb1.trans (h2.mono hb1.size)
        refine hK.out _ _ hb2 ?_
        clear hK K
        try simp only [Act.put, List.setIfInBounds_toArray, List.set_cons_zero, List.set_cons_succ]
        refine wpM_step (i := 12) (o := ⟨some 66, _, _, _, _, _⟩) rfl (by decide +kernel) (by decide) (fun K hK => ?_)
        rw [if_pos (by rfl)]
        go_simp
        refine (To_any t1 A1 n1 c1 R1 _ (HT3.out _ hb2) (by omega)).mono ?_
        rintro e y66 ⟨D3, q3, rfl, s3, h3⟩
        have hb3 := hb2.trans (h3.mono hb2.size)
        refine hK.out _ _ hb3 ?_
        clear hK K
        try simp only [Act.put, List.setIfInBounds_toArray, List.set_cons_zero, List.set_cons_succ]
        refine wpM_step (i := 13) (o := ⟨some 67, _, _, _, _, _⟩) rfl (by decide +kernel) (by decide) (fun K hK => ?_)
        rw [if_pos (by rfl)]
        go_simp
        refine (HCY.out _ hb3 D3 q3 s3).mono ?_
        rintro e y67 ⟨D4, k4, q4, rfl, ⟨s4, z4⟩, h4⟩
        have hb4 := hb3.trans (h4.mono hb3.size)
        refine hK.out _ _ hb4 ?_
        clear hK K
        try simp only [Act.put, List.setIfInBounds_toArray, List.set_cons_zero, List.set_cons_succ]
        refine wpM_done (by decide +kernel) ?_
        have s2' := At.below (At.below s2 h3) h4
        simp only [List.drop_succ_cons, List.drop_zero]
        have CS := Lib.hid (Same_any D2 D4 k2 k4 q2 q4 zs zs _ s2' s4 (by omega))
        have HBZ := Lib.hid (HBR.out.trans (hb4.mono HBR.out.size))
        clear s1 s2 s2' s3 s4 hb0 hb1 hb2 hb3 hb4 h1 h2 h3 h4
        go_wp2_with fail
        refine CS.out.mono ?_
        rintro e W' ⟨rfl, hb⟩
        have HBE := Lib.hid (HBZ.out.trans (hb.mono HBZ.out.size))
        clear hb CS HBZ
        simp only [decide_true]
        go_wp2
        go_ret
        exact ⟨rfl, HBE.out⟩
      | succ j =>
        have ej : (((j + 1 : Nat) : Int) - 1) = (j : Int) := by omega
        simp only [ej]
        clear ej
        have hj0 : (0 : Int) ≤ (j : Int) := by omega
        have hjm' : (j : Int) < m := by omega
        obtain ⟨b, off, rfl, hbl, hc⟩ := HA.out (by omega)
        have hi' : j < L2.length := by rw [HL.out]; omega
        obtain ⟨c0, c1, c2⟩ := hc wr hB j hi'
        have hdr : L2.drop j = L2[j] :: L2.drop (j + 1) := (List.drop_eq_getElem_cons hi')
        obtain ⟨hid, hti⟩ := HOKI.out L2[j] (List.getElem_mem hi')
        obtain ⟨hsz, hsn⟩ := HSDI.out L2[j] (List.getElem_mem hi')
        have has : Asc (L2[j] :: L2.drop (j + 1)) := by rw [← hdr]; exact List.Pairwise.drop HASC.out
        have HTO := Lib.hid (show ∀ W (_ : Below wr.heap.size wr W), Calls Try.prog 15 #[.agg #[.int .i64 L2[j].t, .slice L2[j].A L2[j].n L2[j].c]] W fun e w' => ∃ A' c', e = .returned (.agg #[.int .i64 L2[j].t, .slice A' L2[j].n c']) ∧ Sds w' A' L2[j].n L2[j].R ∧ Below W.heap.size W w' from fun W hW => To_any _ _ _ _ _ W (hsz.below (hB.trans (hW.mono hB.size))) hsn)
        have HPU := Lib.hid (show ∀ W (_ : Below wr.heap.size wr W) (D : Option Addr) (d : Nat), Sds W D L2[j].n L2[j].R → Calls Try.prog 18 #[.pointer (some ⟨y, 0, none⟩), .int .i64 L2[j].id, .agg #[.int .i64 L2[j].t, .slice D L2[j].n d]] W fun e w' => e = .returned (.tuple #[]) ∧ (∃ A' c', IX w' w3.heap.size y (m - (j + 1) + 1) (putL L3 ⟨L2[j].id, L2[j].t, A', L2[j].n, c', L2[j].R⟩)) ∧ KC W w' ∧ (∀ w0, Below w3.heap.size w0 W → Below w3.heap.size w0 w') from fun W hW D d hD => Put_any W _ y _ L3 (hix.below hW) _ _ hid hti D _ d _ hD hsn (by omega))
        have HNX := Lib.hid (show ∀ W A5 c5, IX W w3.heap.size y (m - (j + 1) + 1) (putL L3 ⟨L2[j].id, L2[j].t, A5, L2[j].n, c5, L2[j].R⟩) → Below w3.heap.size w3 W → Below w3.heap.size w3 W ∧ ∃ L3, IX W w3.heap.size y (m - j) L3 ∧ KS L3 (L2.drop j) from fun W A5 c5 h hb => by
          refine ⟨hb, putL L3 ⟨L2[j].id, L2[j].t, A5, L2[j].n, c5, L2[j].R⟩, ?_, ?_⟩
          · rw [show m - j = m - (j + 1) + 1 by omega]
            exact h
          · rw [hdr, ← put_front has]
            exact hks.put rfl)
        clear hc hbl hid hti hsz hsn has hdr hix hks
        generalize L2[j] = z at *
        go_upto_region 12 with fail
        have hb0 : Below wr.heap.size wr wr.drew := below_drew (Below.refl _ _)
        refine wp_region_mix 12 (fun w' => Below wr.heap.size wr w') (by kernel_rfl) (by decide) ?_
        generalize wr.drew = y0 at hb0 ⊢
        refine wpM_take (i := 0) (oi := ⟨some 41, _, _, _, _, _⟩) (v := ?_) rfl (by decide +kernel) (by decide +kernel) (by decide +kernel) (fun _ _ _ h => h) (Or.inl ⟨by rfl, ?_⟩) hb0 ?_
        case refine_2 =>
          intro w' hSw
          have c0' := keepcell hSw c0
          have c1' := keepcell hSw c1
          have c2' := keepcell hSw c2
          go_simp
          try (with_reducible rfl)
        try simp only [Act.put, List.setIfInBounds_toArray, List.set_cons_zero, List.set_cons_succ]
        refine wpM_take (i := 1) (oi := ⟨some 42, _, _, _, _, _⟩) (v := ?_) rfl (by decide +kernel) (by decide +kernel) (by decide +kernel) (fun _ _ _ h => h) (Or.inl ⟨by rfl, ?_⟩) hb0 ?_
        case refine_2 =>
          intro w' hSw
          have c0' := keepcell hSw c0
          have c1' := keepcell hSw c1
          have c2' := keepcell hSw c2
          go_simp
          try (with_reducible rfl)
        try simp only [Act.put, List.setIfInBounds_toArray, List.set_cons_zero, List.set_cons_succ]
        refine wpM_take (i := 2) (oi := ⟨some 43, _, _, _, _, _⟩) (v := ?_) rfl (by decide +kernel) (by decide +kernel) (by decide +kernel) (fun _ _ _ h => h) (Or.inl ⟨by rfl, ?_⟩) hb0 ?_
        case refine_2 =>
          intro w' hSw
          have c0' := keepcell hSw c0
          have c1' := keepcell hSw c1
          have c2' := keepcell hSw c2
          go_simp
          try (with_reducible rfl)
        try simp only [Act.put, List.setIfInBounds_toArray, List.set_cons_zero, List.set_cons_succ]
        refine wpM_take (i := 3) (oi := ⟨some 44, _, _, _, _, _⟩) (v := ?_) rfl (by decide +kernel) (by decide +kernel) (by decide +kernel) (fun _ _ _ h => h) (Or.inl ⟨by rfl, ?_⟩) hb0 ?_
        case refine_2 =>
          intro w' hSw
          have c0' := keepcell hSw c0
          have c1' := keepcell hSw c1
          have c2' := keepcell hSw c2
          go_simp
          try (with_reducible rfl)
        try simp only [Act.put, List.setIfInBounds_toArray, List.set_cons_zero, List.set_cons_succ]
        refine wpM_take (i := 4) (oi := ⟨some 45, _, _, _, _, _⟩) (v := ?_) rfl (by decide +kernel) (by decide +kernel) (by decide +kernel) (fun _ _ _ h => h) (Or.inl ⟨by rfl, ?_⟩) hb0 ?_
        case refine_2 =>
          intro w' hSw
          have c0' := keepcell hSw c0
          have c1' := keepcell hSw c1
          have c2' := keepcell hSw c2
          go_simp
          try (with_reducible rfl)
        try simp only [Act.put, List.setIfInBounds_toArray, List.set_cons_zero, List.set_cons_succ]
        refine wpM_take (i := 5) (oi := ⟨some 46, _, _, _, _, _⟩) (v := ?_) rfl (by decide +kernel) (by decide +kernel) (by decide +kernel) (fun _ _ _ h => h) (Or.inl ⟨by rfl, ?_⟩) hb0 ?_
        case refine_2 =>
          intro w' hSw
          have c0' := keepcell hSw c0
          have c1' := keepcell hSw c1
          have c2' := keepcell hSw c2
          go_simp
          try (with_reducible rfl)
        try simp only [Act.put, List.setIfInBounds_toArray, List.set_cons_zero, List.set_cons_succ]
        refine wpM_take (i := 6) (oi := ⟨some 47, _, _, _, _, _⟩) (v := ?_) rfl (by decide +kernel) (by decide +kernel) (by decide +kernel) (fun _ _ _ h => h) (Or.inl ⟨by rfl, ?_⟩) hb0 ?_
        case refine_2 =>
          intro w' hSw
          have c0' := keepcell hSw c0
          have c1' := keepcell hSw c1
          have c2' := keepcell hSw c2
          go_simp
          try (with_reducible rfl)
        try simp only [Act.put, List.setIfInBounds_toArray, List.set_cons_zero, List.set_cons_succ]
        refine wpM_take (i := 7) (oi := ⟨some 48, _, _, _, _, _⟩) (v := ?_) rfl (by decide +kernel) (by decide +kernel) (by decide +kernel) (fun _ _ _ h => h) (Or.inl ⟨by rfl, ?_⟩) hb0 ?_
        case refine_2 =>
          intro w' hSw
          have c0' := keepcell hSw c0
          have c1' := keepcell hSw c1
          have c2' := keepcell hSw c2
          go_simp
          try (with_reducible rfl)
        try simp only [Act.put, List.setIfInBounds_toArray, List.set_cons_zero, List.set_cons_succ]
        refine wpM_take (i := 8) (oi := ⟨some 49, _, _, _, _, _⟩) (v := ?_) rfl (by decide +kernel) (by decide +kernel) (by decide +kernel) (fun _ _ _ h => h) (Or.inl ⟨by rfl, ?_⟩) hb0 ?_
        case refine_2 =>
          intro w' hSw
          have c0' := keepcell hSw c0
          have c1' := keepcell hSw c1
          have c2' := keepcell hSw c2
          go_simp
          try (with_reducible rfl)
        try simp only [Act.put, List.setIfInBounds_toArray, List.set_cons_zero, List.set_cons_succ]
        refine wpM_take (i := 9) (oi := ⟨some 50, _, _, _, _, _⟩) (v := ?_) rfl (by decide +kernel) (by decide +kernel) (by decide +kernel) (fun _ _ _ h => h) (Or.inl ⟨by rfl, ?_⟩) hb0 ?_
        case refine_2 =>
          intro w' hSw
          have c0' := keepcell hSw c0
          have c1' := keepcell hSw c1
          have c2' := keepcell hSw c2
          go_simp
          try (with_reducible rfl)
        try simp only [Act.put, List.setIfInBounds_toArray, List.set_cons_zero, List.set_cons_succ]
        refine wpM_take (i := 10) (oi := ⟨some 51, _, _, _, _, _⟩) (v := ?_) rfl (by decide +kernel) (by decide +kernel) (by decide +kernel) (fun _ _ _ h => h) (Or.inl ⟨by rfl, ?_⟩) hb0 ?_
        case refine_2 =>
          intro w' hSw
          have c0' := keepcell hSw c0
          have c1' := keepcell hSw c1
          have c2' := keepcell hSw c2
          go_simp
          try (with_reducible rfl)
        try simp only [Act.put, List.setIfInBounds_toArray, List.set_cons_zero, List.set_cons_succ]
        refine wpM_step (i := 11) (o := ⟨some 52, _, _, _, _, _⟩) rfl (by decide +kernel) (by decide) (fun K hK => ?_)
        go_simp
        refine (HTO.out _ hb0).mono ?_
        rintro e y1 ⟨D, d, rfl, hsd, h1⟩
        have hb1 : Below wr.heap.size wr y1 := hb0.trans (h1.mono hb0.size)
        refine hK.out _ _ hb1 ?_
        clear hK K
        try simp only [Act.put, List.setIfInBounds_toArray, List.set_cons_zero, List.set_cons_succ]
        refine wpM_done (by decide +kernel) ?_
        simp only [List.drop_succ_cons, List.drop_zero]
        have CPU := Lib.hid (HPU.out y1 hb1 D d hsd)
        clear hsd h1 hb0 HTO HPU
        go_wp2_with fail
        refine CPU.out.mono ?_
        rintro e w5 ⟨rfl, ⟨A5, c5, hi5⟩, hkc, hbw⟩
        have hB5 := hbw _ (hB.trans (hb1.mono hB.size))
        have HROU := Lib.hid (HNX.out w5 A5 c5 hi5 hB5)
        clear CPU hi5 hkc hbw hB5
        go_wp2
        go_roundw
        case rel =>
          exact ⟨j, rfl, by omega, HROU.out⟩
        case measure => simp [intOf] <;> omega

set_option maxRecDepth 100000 in
theorem boxindexOrder_lifted (os : Os) (started : os.Started) (H : Type) (enc : TypeId × Value → H) :
    ReturnsInHanded {} Try.checked os 5 .any (Rows.boxindexOrderSpec.pre6 enc Try.prog Try.f5 Rows.boxindexOrderRow.domain false) (Rows.boxindexOrderSpec.post enc Try.prog Try.f5 false true false false) := by
  refine law_lifted (C := Try.checked) (B := 4) Try.own started (by kernel_rfl) Try.func5
    (ChangeSpec.witness6 (enc := enc) (C := Try.checked) false ⟨#[], #[.slice none 0 0, .agg #[.int .i64 0, .slice none 0 0]], []⟩ 8 (by kernel_rfl) (by kernel_rfl) (by kernel_rfl) (by kernel_rfl))
    Try.laidOut (by kernel_rfl) rfl rfl rfl Try.underlying4 (fun ds h => match ds, h with | [_, _], _ => rfl) ?_
  intro W base args ds ps hval hA hlt hsz
  rw [Try.params5] at hA hval hsz
  obtain ⟨v0, vs0, d0, ds0, p0, q0, hargs, rfl, rfl, h0, r0⟩ := trodAll_cons hA
  obtain ⟨v1, vs1, d1, ds1, p1, q1, rfl, rfl, rfl, h1, r1⟩ := trodAll_cons r0
  obtain ⟨rfl, rfl, rfl⟩ := trodAll_nil r1
  obtain rfl : args = #[v0, v1] := by cases args; simp_all
  obtain ⟨A0, n0, c0, R0, rfl, k0, l0, g0⟩ := open_opsS (hval 0 22 v0 rfl rfl) h0 (fun x hx => hlt x (by simp [hx])) hsz (j := 0) rfl rfl
  obtain ⟨x1, A1, n1, c1, R1, rfl, k1, l1, g1⟩ := open_Box (hval 1 32 v1 rfl rfl) h1 (fun x hx => hlt x (by simp [hx]))
  exact boxindexOrder_walk A0 n0 c0 R0 x1 A1 n1 c1 R1 W k0 l0 g0 k1 l1 g1

theorem boxindexOrder_over : Rows.boxindexOrderRow.holds Try.pinned (OpenSpec.ofChange Rows.boxindexOrderSpec) :=
  OpenClaim.holds_of_wide 5 Try.f5 rfl rfl rfl rfl rfl rfl rfl ⟨rfl, rfl, rfl, rfl, rfl⟩ rfl rfl rfl rfl rfl (by kernel_rfl) Try.func5 (by kernel_rfl)
    (of_decide_eq_true (by kernel_rfl)) (by unfold Func.isWrapper; first | (rw [if_pos (by decide +kernel)]; kernel_rfl) | (rw [if_neg (by decide +kernel)]; exact ⟨rfl, rfl⟩))
    (fun os started H enc _ => boxindexOrder_lifted os started H enc)

theorem boxindexOrder_proved : Rows.BoxindexOrderSaid := boxindexOrder_over
end Go.Proofs.Ytgenpldldgplhaa
