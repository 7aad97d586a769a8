/- Law BoxindexHull: for every input the call returns true, and its arguments read afterwards as before. -/
import Derived.Test.YtgenpldldgplhaaBo3
import Derived.Test.YtgenpldldgplhaaHlm
import Derived.Test.YtgenpldldgplhaaMxe
import Derived.Deep.Cut
namespace Go.Proofs.Ytgenpldldgplhaa
open Go.ChangeShapes Go.WideShapes Go.ChangeAt Go.RowKit Go.ChangeMaps

theorem KS.ok {L1 L2 : List It} (h : KS L1 L2) (hk : ∀ y ∈ L1, w64 y.id ∧ w64 y.t) : ∀ y ∈ L2, w64 y.id ∧ w64 y.t := by
  intro y hy
  have : y.key ∈ L1.map It.key := by rw [h]; exact List.mem_map_of_mem hy
  obtain ⟨z, hz, e⟩ := List.mem_map.1 this
  have h1 := hk z hz
  have e1 : z.id = y.id := congrArg Prod.fst e
  have e2 : z.t = y.t := congrArg (fun p => p.2.1) e
  rw [← e1, ← e2]
  exact h1
def QQ (sz : Int → Nat) (t : Int) (n : Nat) (R : List Sd) : Prop := (∀ s ∈ R, SdOk s) ∧ (0 < n → sz t = n)
set_option maxRecDepth 100000 in
set_option maxHeartbeats 4000000 in
theorem boxindexHull_walk (A : Option Addr) (n c : Nat) (R : List Ot) (w : World) (k0 : Ots w A n R) (l0 : n ≤ 9223372036854775807) (g0 : ∀ x ∈ R, Sds w x.A x.n x.R ∧ x.n ≤ 9223372036854775807 ∧ w64 x.id ∧ w64 x.t ∧ 0 ≤ x.kd ∧ x.kd < 256) : Calls Try.prog 6 #[.slice A n c] w fun e w' => e = .returned (.bool true) ∧ Below w.heap.size w w' := by
  have HK := Lib.hid k0
  have HG := Lib.hid g0
  go_enter Try.func6, Try.ntmps6
  go_wp2_with fail
  refine (awake_any w).mono ?_
  rintro e1 w1 ⟨rfl, hb1⟩
  have HB1 := Lib.hid hb1
  have CF := Lib.hid (Fair_all A n c R 30 w1 (k0.below hb1) (by omega) (fun o ho => ⟨(g0 o ho).1.below hb1, (g0 o ho).2.1⟩))
  clear hb1 k0 g0
  go_wp2_with fail
  refine CF.out.mono ?_
  rintro e2 w2 ⟨q, rfl, hq, hb2⟩
  have HB2 := Lib.hid (HB1.out.trans (hb2.mono HB1.out.size))
  clear CF hb2
  cases q
  · go_wp2
    go_ret
    exact ⟨rfl, HB2.out⟩
  · obtain ⟨hn60, hn4, sz, hsz⟩ := hq rfl
    have hn : n ≤ 30 := by omega
    have HOK := Lib.hid (show OkQ (QQ sz) w2 R from fun o ho => ⟨(HG.out o ho).1.below HB2.out, by have := hn4 o ho; omega, (HG.out o ho).2.2.1, (HG.out o ho).2.2.2.1, (HG.out o ho).2.2.2.2.1, (HG.out o ho).2.2.2.2.2, hsz o ho⟩)
    clear hq hn4 hn60 hsz
    have HKO := Lib.hid (HK.out.below HB2.out)
    have CP := Lib.hid (Play_from (QQ sz) A n c R w2 HKO.out (by omega) HOK.out)
    go_wp2_with fail
    refine CP.out.mono ?_
    rintro e3 w3 ⟨x, A', m, c', M, L1, L2, rfl, hp⟩
    have HP := Lib.hid hp
    have HA := Lib.hid hp.row.at
    have HL := Lib.hid hp.row.len
    have HPN := Lib.hid hp.n
    have hmn : m ≤ n := hp.n
    have HSD := Lib.hid hp.sd
    have HOKI := Lib.hid (hp.ks.ok hp.ix.ok)
    have HB3 := Lib.hid (HB2.out.trans (hp.bel.mono HB2.out.size))
    clear CP hp HB2 HKO HOK HK HG
    go_wp2
    go_loopw [28] (fun s wr => ∃ (i : Nat), s = .int .i64 (i : Int) ∧ i ≤ m ∧ Below w3.heap.size w3 wr) (fun s _ => m - (intOf s).toNat)
    case atStart => exact ⟨0, rfl, Nat.zero_le _, Below.refl _ _⟩
    case round =>
      obtain ⟨i, rfl, him, hB⟩ := hrel
      generalize wr = wr1 at *
      by_cases hlt : i < m
      · have hki : (i : Int) < m := by omega
        have hk0 : (0 : Int) ≤ (i : Int) := by omega
        obtain ⟨b, off, rfl, hbl, hc⟩ := HA.out (by omega)
        have HC := Lib.hid hc
        have hi' : i < L2.length := by rw [HL.out]; exact hlt
        obtain ⟨c0, c1, c2⟩ := hc wr1 hB i hi'
        have HYM := Lib.hid (List.getElem_mem hi')
        generalize L2[i] = y at *
        obtain ⟨yid, yt, yA, yn, yc, yR⟩ := y
        dsimp only at c0 c1 c2
        obtain ⟨ys1, ys2, ys3⟩ := HSD.out _ HYM.out
        dsimp only at ys1 ys2 ys3
        have HYL := Lib.hid ys1.len
        have HYW := Lib.hid (HOKI.out _ HYM.out).2
        have HYS := Lib.hid (show ∀ W, Below w3.heap.size w3 W → Sds W yA yn yR from fun W hW => ys1.below hW)
        have HYQ := Lib.hid ys3.1
        have HYN := Lib.hid ys3.2
        obtain ⟨W1, hW1⟩ : ∃ W, W = wr1.alloc (.cells #[.int .i64 yid, .int .i64 yt, .slice yA yn yc] 47) := ⟨_, rfl⟩
        have hb1 : Below wr1.heap.size wr1 W1 := by rw [hW1]; exact (Below.refl _ _).alloc (Nat.le_refl _) _
        have HB1 := Lib.hid (hB.trans (hb1.mono hB.size))
        have KY := Lib.hid (show Blk W1 wr1.heap.size 47 #[.int .i64 yid, .int .i64 yt, .slice yA yn yc] by rw [hW1]; exact Blk.new _ _ _)
        clear hb1 ys1 ys3 hc hbl hB
        go_upto_region 11 with fail
        rw [← hW1]
        clear hW1 c0 c1 c2
        go_wp2
        go_loopw [34] (fun s wr2 => ∃ (j : Nat), s = .int .i64 (j : Int) ∧ j ≤ m ∧ Below W1.heap.size W1 wr2) (fun s _ => m - (intOf s).toNat)
        case atStart => exact ⟨0, rfl, Nat.zero_le _, Below.refl _ _⟩
        case round =>
          obtain ⟨j, rfl, hjm, hBr2⟩ := hrel
          generalize wr = wr2 at *
          have HBw := Lib.hid (HB1.out.trans (hBr2.mono HB1.out.size))
          by_cases hlt2 : j < m
          · have hki2 : (j : Int) < m := by omega
            have hk02 : (0 : Int) ≤ (j : Int) := by omega
            have hj' : j < L2.length := by rw [HL.out]; exact hlt2
            obtain ⟨c0, c1, c2⟩ := HC.out wr2 HBw.out j hj'
            have HZM := Lib.hid (List.getElem_mem hj')
            generalize L2[j] = z at *
            obtain ⟨zid, zt, zA, zn, zc, zR⟩ := z
            dsimp only at c0 c1 c2
            obtain ⟨zs1, zs2, zs3⟩ := HSD.out _ HZM.out
            dsimp only at zs1 zs2 zs3
            have HZL := Lib.hid zs1.len
            have HZS := Lib.hid (show ∀ W, Below w3.heap.size w3 W → Sds W zA zn zR from fun W hW => zs1.below hW)
            have HZQ := Lib.hid zs3.1
            have HZN := Lib.hid zs3.2
            obtain ⟨W2, hW2⟩ : ∃ W, W = wr2.alloc (.cells #[.int .i64 zid, .int .i64 zt, .slice zA zn zc] 47) := ⟨_, rfl⟩
            have hb2 : Below wr2.heap.size wr2 W2 := by rw [hW2]; exact (Below.refl _ _).alloc (Nat.le_refl _) _
            have HB24 := Lib.hid hb2
            have HB4 := Lib.hid (HBw.out.trans (hb2.mono HBw.out.size))
            have KZ2 := Lib.hid (show Blk W2 wr2.heap.size 47 #[.int .i64 zid, .int .i64 zt, .slice zA zn zc] by rw [hW2]; exact Blk.new _ _ _)
            have KY2 := Lib.hid (Blk.below hb2 (Blk.below hBr2 KY.out))
            clear hb2 zs1 zs3
            go_upto_region 14 with fail
            rw [← hW2]
            clear hW2 c0 c1 c2
            have d0 : W2.cell? ⟨wr1.heap.size, 0, none⟩ = some (.int .i64 yid) := KY2.out.cell 0
            have d1 : W2.cell? ⟨wr1.heap.size, 1, none⟩ = some (.int .i64 yt) := KY2.out.cell 1
            have d2 : W2.cell? ⟨wr1.heap.size, 2, none⟩ = some (.slice yA yn yc) := KY2.out.cell 2
            have f0 : W2.cell? ⟨wr2.heap.size, 0, none⟩ = some (.int .i64 zid) := KZ2.out.cell 0
            have f1 : W2.cell? ⟨wr2.heap.size, 1, none⟩ = some (.int .i64 zt) := KZ2.out.cell 1
            have f2 : W2.cell? ⟨wr2.heap.size, 2, none⟩ = some (.slice zA zn zc) := KZ2.out.cell 2
            by_cases htt : yt = zt
            · subst htt
              by_cases hy0 : yn = 0
              · have hyi : ((yn : Int) == 0) = true := by simp [hy0]
                go_wp2
                go_roundw
                case rel => exact ⟨j + 1, by go_num, hlt2, hBr2.trans (HB24.out.mono hBr2.size)⟩
                case measure => simp [intOf]; omega
              · have hyi : ((yn : Int) == 0) = false := by simp; omega
                by_cases hz0 : zn = 0
                · have hzi : ((zn : Int) == 0) = true := by simp [hz0]
                  go_wp2
                  go_roundw
                  case rel => exact ⟨j + 1, by go_num, hlt2, hBr2.trans (HB24.out.mono hBr2.size)⟩
                  case measure => simp [intOf]; omega
                · have hzi : ((zn : Int) == 0) = false := by simp; omega
                  obtain rfl : yn = zn := (HYN.out (by omega)).symm.trans (HZN.out (by omega))
                  have hm := meet_hull (t := yt) (R := yR) (S := zR) (HYL.out.trans HZL.out.symm) (by rw [HYL.out]; exact hy0) HYQ.out HZQ.out
                  obtain ⟨T, hT⟩ : ∃ T, T = hullL yR zR := ⟨_, rfl⟩
                  rw [← hT] at hm
                  obtain ⟨zs, hzs⟩ : ∃ zs, candL L1 yt T = zs := ⟨_, rfl⟩
                  have hzw : wantL L2 yt T = zs := by rw [← hzs]; exact (HP.out.ks.cand yt T).symm
                  have HZ1 := Lib.hid (show yid ∈ zs by rw [← hzw]; exact want_mem HYM.out hm.1)
                  have HZ2 := Lib.hid (show zid ∈ zs by rw [← hzw]; exact want_mem HZM.out hm.2)
                  have HZP := Lib.hid (show zs.Pairwise (· < ·) by rw [← hzs]; exact cand_asc HP.out.ix.asc yt T)
                  have hzl : zs.length ≤ 1000 := by
                    rw [← hzs]
                    unfold candL
                    rw [List.length_map]
                    exact Nat.le_trans (List.length_filter_le _ _) (by have := HP.out.len; omega)
                  have HHU := Lib.hid (show ∀ (W : World) (D E : Option Addr) (d e : Nat), Sds W D yn yR → Sds W E yn zR → Calls Try.prog 19 #[.agg #[.int .i64 yt, .slice D yn d], .agg #[.int .i64 yt, .slice E yn e]] W fun e w' => ∃ A' c', e = .returned (.agg #[.int .i64 yt, .slice A' yn c']) ∧ Sds w' A' yn T ∧ Below W.heap.size W w' from fun W D E d e h1 h2 => Hull_both yt yt D yn d yR E e zR T hT W h1 h2 (by omega) hy0)
                  have HCX := Lib.hid (show ∀ (W : World) (_ : Below w3.heap.size w3 W) (D : Option Addr) (d : Nat), Sds W D yn T → Calls Try.prog 14 #[.pointer (some ⟨x, 0, none⟩), .agg #[.int .i64 yt, .slice D yn d]] W fun e w' => ∃ A' n' c', e = .returned (.slice A' n' c') ∧ (Nms w' A' n' zs ∧ zs.length = n') ∧ Below W.heap.size W w' from fun W hW D d hD => by
                    refine (Cand_any W _ x M L1 (HP.out.below hW).ix yt HYW.out D yn d T hD (by omega) (by have := HP.out.len; omega)).mono ?_
                    rintro e w' ⟨A1, n1, c1, rfl, ho, hb⟩
                    rw [hzs] at ho
                    refine ⟨A1, n1, c1, rfl, ⟨Nms.own ho, ?_⟩, hb⟩
                    have h5 := ho.1
                    rw [ic_len] at h5
                    omega)
                  clear hm hT hzs hzw
                  go_upto_region 16 with fail
                  have hb0 : Below W2.heap.size W2 W2.drew := below_drew (Below.refl _ _)
                  refine wp_region_mixE (fun w' => Below W2.heap.size W2 w') (by kernel_rfl) ?_
                  generalize W2.drew = v0 at hb0 ⊢
                  refine wpE_take (i := 0) (oi := ⟨some 59, _, _, _, _, _⟩) (v := ?_) rfl (by decide +kernel) (by decide +kernel) (by decide +kernel) (fun _ _ _ h => h) (Or.inl ⟨by rfl, ?_⟩) hb0 ?_
                  case refine_2 =>
                    intro w' hSw
                    go_simp
                    try (with_reducible rfl)
                  try simp only [Act.put, List.setIfInBounds_toArray, List.set_cons_zero, List.set_cons_succ]
                  refine wpE_take (i := 1) (oi := ⟨some 60, _, _, _, _, _⟩) (v := ?_) rfl (by decide +kernel) (by decide +kernel) (by decide +kernel) (fun _ _ _ h => h) (Or.inl ⟨by rfl, ?_⟩) hb0 ?_
                  case refine_2 =>
                    intro w' hSw
                    go_simp
                    try (with_reducible rfl)
                  try simp only [Act.put, List.setIfInBounds_toArray, List.set_cons_zero, List.set_cons_succ]
                  refine wpE_take (i := 2) (oi := ⟨some 61, _, _, _, _, _⟩) (v := ?_) rfl (by decide +kernel) (by decide +kernel) (by decide +kernel) (fun _ _ _ h => h) (Or.inl ⟨by rfl, ?_⟩) hb0 ?_
                  case refine_2 =>
                    intro w' hSw
                    have d1' := keepcell hSw d1
                    have d2' := keepcell hSw d2
                    go_simp
                    try (with_reducible rfl)
                  try simp only [Act.put, List.setIfInBounds_toArray, List.set_cons_zero, List.set_cons_succ]
                  refine wpE_take (i := 4) (oi := ⟨some 63, _, _, _, _, _⟩) (v := ?_) rfl (by decide +kernel) (by decide +kernel) (by decide +kernel) (fun _ _ _ h => h) (Or.inl ⟨by rfl, ?_⟩) hb0 ?_
                  case refine_2 =>
                    intro w' hSw
                    go_simp
                    try (with_reducible rfl)
                  try simp only [Act.put, List.setIfInBounds_toArray, List.set_cons_zero, List.set_cons_succ]
                  refine wpE_take (i := 5) (oi := ⟨some 64, _, _, _, _, _⟩) (v := ?_) rfl (by decide +kernel) (by decide +kernel) (by decide +kernel) (fun _ _ _ h => h) (Or.inl ⟨by rfl, ?_⟩) hb0 ?_
                  case refine_2 =>
                    intro w' hSw
                    have f1' := keepcell hSw f1
                    have f2' := keepcell hSw f2
                    go_simp
                    try (with_reducible rfl)
                  try simp only [Act.put, List.setIfInBounds_toArray, List.set_cons_zero, List.set_cons_succ]
                  refine wpE_take (i := 10) (oi := ⟨some 69, _, _, _, _, _⟩) (v := ?_) rfl (by decide +kernel) (by decide +kernel) (by decide +kernel) (fun _ _ _ h => h) (Or.inl ⟨by rfl, ?_⟩) hb0 ?_
                  case refine_2 =>
                    intro w' hSw
                    go_simp
                    try (with_reducible rfl)
                  try simp only [Act.put, List.setIfInBounds_toArray, List.set_cons_zero, List.set_cons_succ]
                  refine wpE_step (i := 3) (o := ⟨some 62, _, _, _, _, _⟩) rfl (by decide +kernel) (fun K hK => ?_)
                  go_simp
                  refine (To_any yt yA yn yc yR _ (HYS.out _ (HB4.out.trans (hb0.mono HB4.out.size))) (by omega)).mono ?_
                  rintro e y62 ⟨D1, q1, rfl, s1, h1⟩
                  have hb1 := hb0.trans (h1.mono hb0.size)
                  refine hK.out _ _ hb1 ?_
                  clear hK K
                  try simp only [Act.put, List.setIfInBounds_toArray, List.set_cons_zero, List.set_cons_succ]
                  refine wpE_step (i := 6) (o := ⟨some 65, _, _, _, _, _⟩) rfl (by decide +kernel) (fun K hK => ?_)
                  go_simp
                  refine (To_any yt zA yn zc zR _ (HZS.out _ (HB4.out.trans (hb1.mono HB4.out.size))) (by omega)).mono ?_
                  rintro e y65 ⟨D2, q2, rfl, s2, h2⟩
                  have hb2 := hb1.trans (h2.mono hb1.size)
                  refine hK.out _ _ hb2 ?_
                  clear hK K
                  try simp only [Act.put, List.setIfInBounds_toArray, List.set_cons_zero, List.set_cons_succ]
                  refine wpE_step (i := 7) (o := ⟨some 66, _, _, _, _, _⟩) rfl (by decide +kernel) (fun K hK => ?_)
                  go_simp
                  refine (HHU.out _ D1 D2 q1 q2 (s1.below h2) s2).mono ?_
                  rintro e y66 ⟨D3, q3, rfl, s3, h3⟩
                  have hb3 := hb2.trans (h3.mono hb2.size)
                  refine hK.out _ _ hb3 ?_
                  clear hK K
                  try simp only [Act.put, List.setIfInBounds_toArray, List.set_cons_zero, List.set_cons_succ]
                  refine wpE_step (i := 8) (o := ⟨some 67, _, _, _, _, _⟩) rfl (by decide +kernel) (fun K hK => ?_)
                  go_simp
                  refine (HCX.out _ (HB4.out.trans (hb3.mono HB4.out.size)) D3 q3 s3).mono ?_
                  rintro e y67 ⟨A8, n8, c8, rfl, ⟨s8, z8⟩, h4⟩
                  have hb4 := hb3.trans (h4.mono hb3.size)
                  refine hK.out _ _ hb4 ?_
                  clear hK K
                  try simp only [Act.put, List.setIfInBounds_toArray, List.set_cons_zero, List.set_cons_succ]
                  refine wpE_take (i := 9) (oi := ⟨some 68, _, _, _, _, _⟩) (v := ?_) rfl (by decide +kernel) (by decide +kernel) (by decide +kernel) (fun _ _ _ h => h) (Or.inl ⟨by rfl, ?_⟩) hb4 ?_
                  case refine_2 =>
                    intro w' hSw
                    go_simp
                    try (with_reducible rfl)
                  try simp only [Act.put, List.setIfInBounds_toArray, List.set_cons_zero, List.set_cons_succ]
                  refine wpE_done (by decide +kernel) ?_
                  have HB6 := Lib.hid (HB4.out.trans (hb4.mono HB4.out.size))
                  have HB68 := Lib.hid (HB24.out.trans (hb4.mono HB24.out.size))
                  have KY8 := Lib.hid (KY2.out.below hb4)
                  have KZ8 := Lib.hid (KZ2.out.below hb4)
                  have HN8 := Lib.hid s8
                  have HL8 := Lib.hid z8
                  have hn8 : n8 ≤ 1000 := by omega
                  clear s1 s2 s3 s8 h1 h2 h3 h4 hb0 hb1 hb2 hb3 d0 d1 d2 f0 f1 f2 HHU HCX HYS HZS HB24 KY2 KZ2 z8 hzl
                  generalize y67 = w8 at *
                  clear hb4
                  go_wp2
                  go_loopw [10, 69] (fun s10 s69 wx => ∃ (q : Nat), s69 = .int .i64 (q : Int) ∧ s10 = .int .i64 ((cnt2 yid zid (zs.take q) : Nat) : Int) ∧ q ≤ n8 ∧ Below w8.heap.size w8 wx) (fun _ s69 _ => n8 - (intOf s69).toNat)
                  case atStart => exact ⟨0, rfl, rfl, Nat.zero_le _, Below.refl _ _⟩
                  case round =>
                    obtain ⟨q, rfl, rfl, hqn, hB8⟩ := hrel
                    generalize wr = wx at *
                    have HB8 := Lib.hid (HB6.out.trans (hB8.mono HB6.out.size))
                    have d0 : wx.cell? ⟨wr1.heap.size, 0, none⟩ = some (.int .i64 yid) := (Blk.below hB8 KY8.out).cell 0
                    have f0 : wx.cell? ⟨wr2.heap.size, 0, none⟩ = some (.int .i64 zid) := (Blk.below hB8 KZ8.out).cell 0
                    by_cases hlt8 : q < n8
                    · have hki : (q : Int) < n8 := by omega
                      have hk0 : (0 : Int) ≤ (q : Int) := by omega
                      obtain ⟨b8, off8, rfl, hbl8, hc8⟩ := HN8.out.at (by omega)
                      have hi8 : q < zs.length := by rw [HL8.out]; exact hlt8
                      have c0 := hc8 wx hB8 q hi8
                      have HCT := Lib.hid (cnt2_take (a := yid) (b := zid) hi8)
                      obtain ⟨cq, hcq⟩ : ∃ cq, cnt2 yid zid (zs.take q) = cq := ⟨_, rfl⟩
                      have hcb : cq ≤ 1000 := by
                        rw [← hcq]
                        unfold cnt2
                        exact Nat.le_trans (List.length_filter_le _ _) (by rw [List.length_take]; omega)
                      rw [hcq] at HCT
                      rw [hcq]
                      have HBN := Lib.hid hB8
                      clear hcq hc8 hbl8 hB8
                      generalize zs[q] = u at *
                      by_cases hu : u = yid
                      · have hu1 : (u == yid || u == zid) = true := by simp [hu]
                        rw [if_pos hu1] at HCT
                        go_wp2
                        go_roundw
                        case rel => exact ⟨q + 1, by go_num, by rw [HCT.out]; go_num, hlt8, HBN.out⟩
                        case measure => simp [intOf]; omega
                      · by_cases hv : u = zid
                        · have hu1 : (u == yid || u == zid) = true := by simp [hv]
                          rw [if_pos hu1] at HCT
                          go_wp2
                          go_roundw
                          case rel => exact ⟨q + 1, by go_num, by rw [HCT.out]; go_num, hlt8, HBN.out⟩
                          case measure => simp [intOf]; omega
                        · have hu1 : ¬ (u == yid || u == zid) = true := by simp [hu, hv]
                          rw [if_neg hu1] at HCT
                          go_wp2
                          go_roundw
                          case rel => exact ⟨q + 1, by go_num, by rw [HCT.out]; go_num, hlt8, HBN.out⟩
                          case measure => simp [intOf]; omega
                    · obtain rfl : n8 = q := by omega
                      have hlt9 : ¬ ((n8 : Int) < (n8 : Int)) := by omega
                      have HCF := Lib.hid (show cnt2 yid zid (zs.take n8) = if yid = zid then 1 else 2 by
                        rw [List.take_of_length_le (by rw [HL8.out]; exact Nat.le_refl _)]
                        exact cnt2_of HZP.out HZ1.out HZ2.out)
                      rw [HCF.out]
                      have HBN := Lib.hid (hBr2.trans ((HB68.out.trans (hB8.mono HB68.out.size)).mono hBr2.size))
                      clear hB8
                      by_cases hab : yid = zid
                      · rw [if_pos hab]
                        go_wp2
                        go_roundw
                        case rel => exact ⟨j + 1, by go_num, hlt2, HBN.out⟩
                        case measure => simp [intOf]; omega
                      · rw [if_neg hab]
                        go_wp2
                        go_roundw
                        case rel => exact ⟨j + 1, by go_num, hlt2, HBN.out⟩
                        case measure => simp [intOf]; omega
            · have htn : (yt != zt) = true := by simpa using htt
              go_wp2
              go_roundw
              case rel => exact ⟨j + 1, by go_num, hlt2, hBr2.trans (HB24.out.mono hBr2.size)⟩
              case measure => simp [intOf]; omega
          · obtain rfl : m = j := by omega
            have hlt9 : ¬ ((m : Int) < (m : Int)) := by omega
            go_wp2
            go_roundw
            case rel => exact ⟨i + 1, by go_num, hlt, HBw.out⟩
            case measure => simp [intOf]; omega
      · obtain rfl : m = i := by omega
        have hlt2 : ¬ ((m : Int) < (m : Int)) := by omega
        go_wp2
        go_ret
        exact ⟨rfl, HB3.out.trans (hB.mono HB3.out.size)⟩

set_option maxRecDepth 100000 in
theorem boxindexHull_lifted (os : Os) (started : os.Started) (H : Type) (enc : TypeId × Value → H) :
    ReturnsInHanded {} Try.checked os 6 .any (Rows.boxindexHullSpec.pre6 enc Try.prog Try.f6 Rows.boxindexHullRow.domain false) (Rows.boxindexHullSpec.post enc Try.prog Try.f6 false true false false) := by
  refine law_lifted (C := Try.checked) (B := 4) Try.own started (by kernel_rfl) Try.func6
    (ChangeSpec.witness6 (enc := enc) (C := Try.checked) false ⟨#[], #[.slice none 0 0], []⟩ 8 (by kernel_rfl) (by kernel_rfl) (by kernel_rfl) (by kernel_rfl))
    Try.laidOut (by kernel_rfl) rfl rfl rfl Try.underlying4 (fun ds h => match ds, h with | [_], _ => rfl) ?_
  intro W base args ds ps hval hA hlt hsz
  rw [Try.params6] at hA hval hsz
  obtain ⟨v0, vs0, d0, ds0, p0, q0, hargs, rfl, rfl, h0, r0⟩ := trodAll_cons hA
  obtain ⟨rfl, rfl, rfl⟩ := trodAll_nil r0
  obtain rfl : args = #[v0] := by cases args; simp_all
  obtain ⟨A0, n0, c0, R0, rfl, k0, l0, g0⟩ := open_ops (hval 0 22 v0 rfl rfl) h0 (fun x hx => hlt x (by simp [hx]))
  exact boxindexHull_walk A0 n0 c0 R0 W k0 l0 g0

theorem boxindexHull_over : Rows.boxindexHullRow.holds Try.pinned (OpenSpec.ofChange Rows.boxindexHullSpec) :=
  OpenClaim.holds_of_wide 6 Try.f6 rfl rfl rfl rfl rfl rfl rfl ⟨rfl, rfl, rfl, rfl, rfl⟩ rfl rfl rfl rfl rfl (by kernel_rfl) Try.func6 (by kernel_rfl)
    (of_decide_eq_true (by kernel_rfl)) (by unfold Func.isWrapper; first | (rw [if_pos (by decide +kernel)]; kernel_rfl) | (rw [if_neg (by decide +kernel)]; exact ⟨rfl, rfl⟩))
    (fun os started H enc _ => boxindexHull_lifted os started H enc)

theorem boxindexHull_proved : Rows.BoxindexHullSaid := boxindexHull_over
end Go.Proofs.Ytgenpldldgplhaa
