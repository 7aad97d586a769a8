/- Writing a version, to the end. -/
import Derived.Test.YthhpilkhcomhbaaDoorSwr
namespace Go.Proofs.YthhpilkhcomhbaaDoor
open Go.ChangeShapes Go.WideShapes Go.ChangeAt Go.RowKit Go.ChangeMaps

set_option maxRecDepth 100000 in
set_option maxHeartbeats 2000000 in
theorem SWrite_ok0 (w : World) (p q : Nat) (s : St) (h : Dk w p q s) (hp : ¬ PQ p q 0) (hev : Env w) (hf : s.f = false) (hn7 : 7 ≤ s.R.length) (hsl : slotOf s = 0) (e n c : Nat) (hx : s.x + n + 2 < 1000000000) (he32 : e < 4294967296) (A : Option Addr) (d : List UInt8)
    (hd : BA (PQ p q) w A n d) (hn : n ≤ 100000000) (hnc : n ≤ c) (hcc : c ≤ 9223372036854775807) (hE0 : epochOf s < e) (hfit : n ≤ 64 * areaOf s.R.length) :
    Calls Tryd.prog 20 #[.pointer (some ⟨p, 0, none⟩), .int .u32 (e : Int), .slice A n c] w fun e' w' => e' = .returned (.int .i64 (SW s e d).2) ∧ Dk w' p q (SW s e d).1 ∧ Chg (PQ p q) w w' := by
  have hdl : d.length = n := hd.1
  obtain ⟨sw, hsw⟩ : ∃ x, SW s e d = x := ⟨_, rfl⟩
  have e0 := hsw
  rw [SW_go (o := 1) hf hn7 (by omega) (by omega) hE0 (by rw [hdl]; exact hfit)] at e0
  obtain ⟨bb, hbb⟩ : ∃ x, 3 + 1 * areaOf s.R.length = x := ⟨_, rfl⟩
  rw [hbb, hdl] at e0
  rw [hsw]
  have hn2 : s.R.length ≤ 65536 := h.2.2.2.2.2.1
  obtain ⟨a, ha⟩ : ∃ a : Int, (areaOf s.R.length : Int) = a := ⟨_, rfl⟩
  have hb16 : 1 ≤ a ∧ a ≤ 16383 := by rw [← ha]; unfold areaOf; omega
  obtain ⟨rn, hrn⟩ : ∃ n, s.R.length = n := ⟨_, rfl⟩
  have HCU := Lib.hid (cur_ok w p q s h hf hn7 (by omega))
  rw [ha, hsl, hdrVe, hrn] at HCU
  unfold layV at HCU
  obtain ⟨E, hE⟩ : ∃ x, epochOf s = x := ⟨_, rfl⟩
  obtain ⟨N, hN⟩ : ∃ x, lenOf s = x := ⟨_, rfl⟩
  obtain ⟨C, hC⟩ : ∃ x, sumOf s = x := ⟨_, rfl⟩
  rw [hE, hN, hC] at HCU
  have hbI : (bb : Int) = 3 + a := by rw [← hbb]; simp only [Nat.zero_mul, Nat.one_mul]; omega
  have hei : (E : Int) < e := by omega
  have hfi : (n : Int) ≤ a * 64 := by omega
  have hE1 : decide (e ≤ E) = false := by simp; omega
  have hE2 : decide ((e : Int) ≤ (E : Int)) = false := by simp; omega
  have hfd : decide (a * 64 < (n : Int)) = false := by simpa using hfi
  have HSW := Lib.hid e0
  have HD := Lib.hid h
  have HA0 := Lib.hid hd
  have HEV := Lib.hid hev
  have HDL := Lib.hid hdl
  clear h e0 hf hn7 hsl hE0 hE hN hC ha hrn hdl hn2 hsw hd hev hbb hfit
  go_enter Tryd.func20, Tryd.ntmps20
  go_wp2_with fail
  refine HCU.out.mono ?_
  rintro e1 w1 ⟨rfl, hb⟩
  have hfr : ¬ PQ p q w1.heap.size := (HD.out.below hb).fresh (Nat.le_refl _)
  have HNP := Lib.hid hfr
  have hb2 : Below w.heap.size w ((w1.alloc (.cells #[.int .i64 0, .int .i64 1, .int .i64 2, .int .i64 3, .int .i64 (3 + a), .int .i64 a, .int .i64 (3 + 2 * a), .int .i64 (rn - (3 + 2 * a))] 24)).alloc (.cells #[.int .u32 (E : Int), .int .u32 (N : Int), .int .u64 (C : Int)] 76)) := hb.trans (((Below.refl _ w1).alloc (Nat.le_refl _) _).alloc (by simp) _ |>.mono hb.size)
  have HL := Lib.hid (show Blk ((w1.alloc (.cells #[.int .i64 0, .int .i64 1, .int .i64 2, .int .i64 3, .int .i64 (3 + a), .int .i64 a, .int .i64 (3 + 2 * a), .int .i64 (rn - (3 + 2 * a))] 24)).alloc (.cells #[.int .u32 (E : Int), .int .u32 (N : Int), .int .u64 (C : Int)] 76)) w1.heap.size 24 #[.int .i64 0, .int .i64 1, .int .i64 2, .int .i64 3, .int .i64 (3 + a), .int .i64 a, .int .i64 (3 + 2 * a), .int .i64 (rn - (3 + 2 * a))] from (Blk.new w1 24 _).alloc _)
  replace HD := Lib.hid (HD.out.below hb2)
  have HA := Lib.hid (HA0.out.below hb2)
  replace HEV := Lib.hid (HEV.out.below hb2)
  have HCW := Lib.hid (show Chg (PQ p q) w ((w1.alloc (.cells #[.int .i64 0, .int .i64 1, .int .i64 2, .int .i64 3, .int .i64 (3 + a), .int .i64 a, .int .i64 (3 + 2 * a), .int .i64 (rn - (3 + 2 * a))] 24)).alloc (.cells #[.int .u32 (E : Int), .int .u32 (N : Int), .int .u64 (C : Int)] 76)) from Chg.of_below hb2)
  clear hb hb2 HCU HA0 hfr
  obtain ⟨W, hW⟩ : ∃ W, (w1.alloc (.cells #[.int .i64 0, .int .i64 1, .int .i64 2, .int .i64 3, .int .i64 (3 + a), .int .i64 a, .int .i64 (3 + 2 * a), .int .i64 (rn - (3 + 2 * a))] 24)).alloc (.cells #[.int .u32 (E : Int), .int .u32 (N : Int), .int .u64 (C : Int)] 76) = W := ⟨_, rfl⟩
  rw [hW] at HD HA HEV HCW HL
  have HWW := Lib.hid hW
  clear hW
  go_wp2_with fail
  rw [HWW.out]
  clear HWW
  generalize w1.heap.size = gl at *
  go_loopw [11] (fun iv wr => ∃ (i j : Nat) (sk : St), iv = .int .i64 (i : Int) ∧ i = 64 * j ∧ i < n + 64 ∧ Dk wr p q sk ∧ wall n s bb d = wall n sk (bb + j) (d.drop i) ∧ sk.x ≤ s.x + j ∧ Chg (PQ p q) W wr) (fun iv _ => n + 64 - (intOf iv).toNat)
  case atStart => exact ⟨0, 0, s, rfl, rfl, by omega, HD.out, rfl, by omega, Chg.refl _ _⟩
  case round =>
    obtain ⟨i, j, sk, rfl, hij, hin, hdk, hwa, hxk, hcg⟩ := hrel
    have HK := Lib.hid hdk
    have HWA := Lib.hid hwa
    have HCG := Lib.hid hcg
    clear hdk hwa hcg
    by_cases hlt : i < n
    · have hlti : (i : Int) < n := by omega
      obtain ⟨b, off, rfl⟩ := HA.out.at.some (by omega)
      obtain ⟨r, hr⟩ : ∃ r, sk.Wr ((bb + j : Nat) : Int) (padS ((d.drop i).take 64)) = r := ⟨_, rfl⟩
      have e1 : IntKind.i64.wrap ((i : Int) + 64) = (i : Int) + 64 := by rw [IntWalk.i64_in _ (by omega)]
      have e2 : (i : Int).tdiv 64 = (j : Int) := by rw [Int.tdiv_eq_ediv_of_nonneg (by omega)]; omega
      have e3 : IntKind.i64.wrap (3 + a + (j : Int)) = 3 + a + (j : Int) := by rw [IntWalk.i64_in _ (by omega)]
      have hic : (i : Int) ≤ c := by omega
      have hnci : (n : Int) ≤ c := by omega
      have h0i : (0 : Int) ≤ i := by omega
      have hb0 : off + i < off + n := by omega
      have HIJ := Lib.hid hij
      have hji : j ≤ i := by omega
      clear hij hb0
      obtain ⟨m, t, hm, e7, e8, e10, e12, e13⟩ : ∃ m t : Nat, (m = 64 ∨ m = n - i) ∧ (if (n : Int) < (i : Int) + 64 then (n : Int) else (i : Int) + 64) = (t : Int) ∧ i + m ≤ n ∧ (t : Int) ≤ c ∧ t - i = m ∧ i ≤ t := by
        by_cases h64 : (n : Int) < (i : Int) + 64
        · exact ⟨n - i, n, .inr rfl, by rw [if_pos h64], by omega, by omega, rfl, by omega⟩
        · exact ⟨64, i + 64, .inl rfl, by rw [if_neg h64]; omega, by omega, by omega, by omega, by omega⟩
      have e11 : ¬ c = i := by omega
      have hm64 : m ≤ 64 := by omega
      have hmN : m ≤ 64 := by omega
      have CW := Lib.hid (fun (D : World) (hD : Below wr.heap.size wr D) => show Calls Tryd.prog 37 #[.pointer (some ⟨p, 0, none⟩), .int .i64 (3 + a + (j : Int)), .slice (some ⟨b, off + i, none⟩) m (c - i)] D (fun e w' => e = .returned (.int .i64 r.2) ∧ Dk w' p q r.1 ∧ Chg (PQ p q) D w') from by
        have h1 := wfill_any D p q sk (HK.out.below hD) (by omega) (3 + a + (j : Int)) _ m (c - i) _ (bytes_part ((HA.out.chg HCG.out).at.below hD) (k := i) (m := m) (by omega)) hmN
        have e4 : (d.drop i).take m = (d.drop i).take 64 := by
          rcases hm with hm | hm
          · rw [hm]
          · exact (take_min (by rw [List.length_drop, HDL.out]; omega) hmN).symm
        rw [e4] at h1
        rw [show 3 + a + (j : Int) = ((bb + j : Nat) : Int) by have := HIJ.out; omega] at h1 ⊢
        rw [hr] at h1
        exact h1)
      have HHM := Lib.hid hm
      have HR := Lib.hid hr
      clear hm hr
      go_wp2_with fail
      refine region_tail 16 (by kernel_rfl) (by kernel_rfl) (fun D hD hs => ?_)
      simp only [List.take_succ_cons, List.take_zero, List.drop_succ_cons, List.drop_zero]
      have cl : D.cell? ⟨gl, 4, none⟩ = some (.int .i64 (3 + a)) := keepcell hD ((HL.out.chg HCG.out HNP.out).cell 4)
      have CW2 := Lib.hid (CW.out D hD)
      replace HCG := Lib.hid (HCG.out.trans (Chg.of_below hD))
      clear hD hs CW
      repeat still_step
      refine wpStill_nil ?_
      go_wp2_with fail
      refine CW2.out.mono ?_
      rintro e2 w2 ⟨rfl, hd2, hc2⟩
      have HK2 := Lib.hid hd2
      replace HCG := Lib.hid (HCG.out.trans hc2)
      clear hd2 hc2 CW2 cl
      by_cases hr0 : r.2 = 0
      · rw [hr0]
        go_wp2
        go_roundw
        case rel =>
          refine ⟨i + 64, j + 1, r.1, by go_num, by have := HIJ.out; omega, by omega, HK2.out, ?_, ?_, HCG.out⟩
          · rw [HWA.out, wall_ok (by rw [List.length_drop, HDL.out]; omega) (by intro h0; have := congrArg List.length h0; rw [List.length_drop, HDL.out] at this; simp at this; omega) (by rw [HR.out]; exact hr0), HR.out, List.drop_drop]
            rfl
          · rw [← HR.out]
            exact Nat.le_trans (St.Wr_x _ _ _) (by omega)
        case measure => simp [intOf]; omega
      · have HFI : Hid (sw = r) := Lib.hid (by
          have e5 := wall_bad (n := n) (s := sk) (i := bb + j) (d := d.drop i) (by rw [List.length_drop, HDL.out]; omega) (by intro h0; have := congrArg List.length h0; rw [List.length_drop, HDL.out] at this; simp at this; omega) (by rw [HR.out]; exact hr0)
          rw [← HSW.out, HWA.out, e5, HR.out, if_neg hr0])
        have hr1 : decide (r.2 = 0) = false := by simpa using hr0
        go_wp2
        go_ret
        rw [HFI.out]
        exact ⟨rfl, HK2.out, HCW.out.trans HCG.out⟩
    · have hge : (n : Int) ≤ i := by omega
      have hdn : d.drop i = [] := List.drop_of_length_le (by rw [HDL.out]; omega)
      have HFI : Hid (fin2 sk e n (crc 0 d) 1 = sw) := Lib.hid (by
        have e5 := HSW.out
        rw [HWA.out, hdn, wall_nil] at e5
        simpa using e5)
      have hxk2 : sk.x + 2 < 1000000000 := by omega
      have HIJ := Lib.hid hij
      have HXK := Lib.hid hxk2
      have hn32 : IntKind.u32.wrap (n : Int) = n := by rw [IntKind.wrap_u32]; omega
      clear hij hdn hxk hxk2
      obtain ⟨r, hr⟩ : ∃ r, sk.Wr ((1 + 1 : Nat) : Int) (hdr e n (crc 0 d)) = r := ⟨_, rfl⟩
      have HR := Lib.hid hr
      clear hr
      obtain ⟨cc, hcc0⟩ : ∃ x, crc 0 d = x := ⟨_, rfl⟩
      have HCC := Lib.hid hcc0
      clear hcc0
      go_wp2_with fail
      have hD : Below wr.heap.size wr wr.drew := below_drew (Below.refl _ _)
      have HAD := Lib.hid ((HA.out.chg HCG.out).below hD)
      have HKD := Lib.hid (HK.out.below hD)
      replace HCG := Lib.hid (HCG.out.trans (Chg.of_below hD))
      have cl : wr.drew.cell? ⟨gl, 2, none⟩ = some (.int .i64 2) := (HL.out.chg HCG.out HNP.out).cell 2
      clear hD
      refine wp_region_mix 13 (fun w' => w'.cell? ⟨gl, 2, none⟩ = some (.int .i64 2)) (by kernel_rfl) (by decide) ?_
      generalize wr.drew = D at *
      have CS := Lib.hid (Sum_any A n c d D HAD.out.at (by omega) (HEV.out.chg HCG.out hp))
      rw [HCC.out] at CS
      refine wpM_take (i := 0) (oi := ⟨some 62, _, _, _, _, _⟩) (v := ?_) rfl (by decide +kernel) (by decide +kernel) (by decide +kernel) (fun _ _ _ h => h) (Or.inl ⟨by rfl, ?_⟩) cl ?_
      case refine_2 => (intro w hSw; (try dsimp only at hSw); go_simp; try (with_reducible rfl))
      try simp only [Act.put, List.setIfInBounds_toArray, List.set_cons_zero, List.set_cons_succ]
      refine wpM_take (i := 1) (oi := ⟨some 63, _, _, _, _, _⟩) (v := ?_) rfl (by decide +kernel) (by decide +kernel) (by decide +kernel) (fun _ _ _ h => h) (Or.inl ⟨by rfl, ?_⟩) cl ?_
      case refine_2 => (intro w hSw; (try dsimp only at hSw); go_simp; try (with_reducible rfl))
      try simp only [Act.put, List.setIfInBounds_toArray, List.set_cons_zero, List.set_cons_succ]
      refine wpM_take (i := 2) (oi := ⟨some 64, _, _, _, _, _⟩) (v := ?_) rfl (by decide +kernel) (by decide +kernel) (by decide +kernel) (fun _ _ _ h => h) (Or.inl ⟨by rfl, ?_⟩) cl ?_
      case refine_2 => (intro w hSw; (try dsimp only at hSw); go_simp; try (with_reducible rfl))
      try simp only [Act.put, List.setIfInBounds_toArray, List.set_cons_zero, List.set_cons_succ]
      refine wpM_take (i := 3) (oi := ⟨some 65, _, _, _, _, _⟩) (v := ?_) rfl (by decide +kernel) (by decide +kernel) (by decide +kernel) (fun _ _ _ h => h) (Or.inl ⟨by rfl, ?_⟩) cl ?_
      case refine_2 => (intro w hSw; (try dsimp only at hSw); go_simp; try (with_reducible rfl))
      try simp only [Act.put, List.setIfInBounds_toArray, List.set_cons_zero, List.set_cons_succ]
      refine wpM_take (i := 4) (oi := ⟨some 66, _, _, _, _, _⟩) (v := ?_) rfl (by decide +kernel) (by decide +kernel) (by decide +kernel) (fun _ _ _ h => h) (Or.inl ⟨by rfl, ?_⟩) cl ?_
      case refine_2 => (intro w hSw; (try dsimp only at hSw); go_simp; try (with_reducible rfl))
      try simp only [Act.put, List.setIfInBounds_toArray, List.set_cons_zero, List.set_cons_succ]
      refine wpM_take (i := 5) (oi := ⟨some 67, _, _, _, _, _⟩) (v := ?_) rfl (by decide +kernel) (by decide +kernel) (by decide +kernel) (fun _ _ _ h => h) (Or.inl ⟨by rfl, ?_⟩) cl ?_
      case refine_2 => (intro w hSw; (try dsimp only at hSw); go_simp; try (with_reducible rfl))
      try simp only [Act.put, List.setIfInBounds_toArray, List.set_cons_zero, List.set_cons_succ]
      refine wpM_take (i := 6) (oi := ⟨some 68, _, _, _, _, _⟩) (v := ?_) rfl (by decide +kernel) (by decide +kernel) (by decide +kernel) (fun _ _ _ h => h) (Or.inl ⟨by rfl, ?_⟩) cl ?_
      case refine_2 => (intro w hSw; (try dsimp only at hSw); go_simp; try (with_reducible rfl))
      try simp only [Act.put, List.setIfInBounds_toArray, List.set_cons_zero, List.set_cons_succ]
      refine wpM_take (i := 7) (oi := ⟨some 69, _, _, _, _, _⟩) (v := ?_) rfl (by decide +kernel) (by decide +kernel) (by decide +kernel) (fun _ _ _ h => h) (Or.inl ⟨by rfl, ?_⟩) cl ?_
      case refine_2 => (intro w hSw; (try dsimp only at hSw); go_simp; try (with_reducible rfl))
      try simp only [Act.put, List.setIfInBounds_toArray, List.set_cons_zero, List.set_cons_succ]
      refine wpM_take (i := 8) (oi := ⟨some 70, _, _, _, _, _⟩) (v := ?_) rfl (by decide +kernel) (by decide +kernel) (by decide +kernel) (fun _ _ _ h => h) (Or.inl ⟨by rfl, ?_⟩) cl ?_
      case refine_2 => (intro w hSw; (try dsimp only at hSw); go_simp; try (with_reducible rfl))
      try simp only [Act.put, List.setIfInBounds_toArray, List.set_cons_zero, List.set_cons_succ]
      refine wpM_take (i := 9) (oi := ⟨some 71, _, _, _, _, _⟩) (v := ?_) rfl (by decide +kernel) (by decide +kernel) (by decide +kernel) (fun _ _ _ h => h) (Or.inl ⟨by rfl, ?_⟩) cl ?_
      case refine_2 => (intro w hSw; (try dsimp only at hSw); go_simp; try (with_reducible rfl))
      try simp only [Act.put, List.setIfInBounds_toArray, List.set_cons_zero, List.set_cons_succ]
      refine wpM_step (i := 10) (o := ⟨some 72, _, _, _, _, _⟩) rfl (by decide +kernel) (by decide) (fun K hK => ?_)
      go_simp
      go_at_call 38
      refine CS.out.mono ?_
      rintro e9 w9 ⟨rfl, rfl⟩
      refine hK.out _ _ cl ?_
      clear hK K
      try simp only [Act.put, List.setIfInBounds_toArray, List.set_cons_zero, List.set_cons_succ]
      refine wpM_take (i := 11) (oi := ⟨some 73, _, _, _, _, _⟩) (v := ?_) rfl (by decide +kernel) (by decide +kernel) (by decide +kernel) (fun _ _ _ h => h) (Or.inl ⟨by rfl, ?_⟩) cl ?_
      case refine_2 => (intro w hSw; (try dsimp only at hSw); go_simp; try (with_reducible rfl))
      try simp only [Act.put, List.setIfInBounds_toArray, List.set_cons_zero, List.set_cons_succ]
      refine wpM_step (i := 12) (o := ⟨some 74, _, _, _, _, _⟩) rfl (by decide +kernel) (by decide) (fun K hK => ?_)
      go_simp
      go_at_call 39
      refine (hbytes_any D e n cc he32 (by omega)).mono ?_
      rintro e9 w9 ⟨g9, rfl, hg9, hk9, hb9⟩
      have cl9 : w9.cell? ⟨gl, 2, none⟩ = some (.int .i64 2) := keepcell hb9 cl
      refine hK.out _ _ cl9 ?_
      clear hK K
      try simp only [Act.put, List.setIfInBounds_toArray, List.set_cons_zero, List.set_cons_succ]
      refine wpM_done (by decide +kernel) ?_
      simp only [List.drop_succ_cons, List.drop_zero]
      clear CS
      go_wp2_with fail
      refine (Write_any w9 p q sk (HKD.out.below hb9) (by have := HXK.out; omega) _ _ 64 64 _ (ba_of_blk (n := 64) hk9 (hdr_len e n cc) (HKD.out.fresh hg9)) (by decide)).mono ?_
      rintro e10 w10 ⟨rfl, hd10, hc10⟩
      have e11 : sk.Wr 2 (hdr e n cc) = r := by rw [← HR.out, ← HCC.out]; rfl
      rw [e11] at hd10 ⊢
      have HK10 := Lib.hid hd10
      replace HCG := Lib.hid ((HCG.out.trans (Chg.of_below hb9)).trans hc10)
      clear hd10 hc10 hb9 hk9 hg9 e11 cl cl9
      by_cases hr0 : r.2 = 0
      · rw [hr0]
        have cl0 : w10.cell? ⟨gl, 0, none⟩ = some (.int .i64 0) := (HL.out.chg HCG.out HNP.out).cell 0
        have HF2 : Hid (r.1.Wr 0 (padS [UInt8.ofNat 1]) = sw) := Lib.hid (by
          have := HFI.out
          unfold fin2 at this
          rw [HR.out, if_pos hr0] at this
          exact this)
        have hrx : r.1.x < 1000000000 := by
          have h1 := St.Wr_x sk ((1 + 1 : Nat) : Int) (hdr e n (crc 0 d))
          rw [HR.out] at h1
          have := HXK.out
          omega
        go_wp2_with fail
        have hbn : Below w10.heap.size w10 (w10.alloc (.cells #[.int .u8 1] 5)) := (Below.refl _ _).alloc (Nat.le_refl _) _
        have hkn : Blk (w10.alloc (.cells #[.int .u8 1] 5)) w10.heap.size 5 (bc [UInt8.ofNat 1]).toArray := Blk.new w10 5 _
        refine (wfill_any _ p q r.1 (HK10.out.below hbn) hrx 0 (some ⟨w10.heap.size, 0, none⟩) 1 1 [UInt8.ofNat 1] (bytes_of_blk hkn rfl) (by decide)).mono ?_
        rintro e12 w12 ⟨rfl, hd12, hc12⟩
        rw [HF2.out] at hd12 ⊢
        have HK12 := Lib.hid hd12
        replace HCG := Lib.hid ((HCG.out.trans (Chg.of_below hbn)).trans hc12)
        clear hd12 hc12 hbn hkn
        go_wp2
        go_ret
        exact ⟨rfl, HK12.out, HCW.out.trans HCG.out⟩
      · have HF2 : Hid (r = sw) := Lib.hid (by
          have := HFI.out
          unfold fin2 at this
          rw [HR.out, if_neg hr0] at this
          exact this)
        have hr1 : decide (r.2 = 0) = false := by simpa using hr0
        go_wp2
        go_ret
        rw [← HF2.out]
        exact ⟨rfl, HK10.out, HCW.out.trans HCG.out⟩
set_option maxRecDepth 100000 in
set_option maxHeartbeats 2000000 in
theorem SWrite_ok1 (w : World) (p q : Nat) (s : St) (h : Dk w p q s) (hp : ¬ PQ p q 0) (hev : Env w) (hf : s.f = false) (hn7 : 7 ≤ s.R.length) (hsl : slotOf s = 1) (e n c : Nat) (hx : s.x + n + 2 < 1000000000) (he32 : e < 4294967296) (A : Option Addr) (d : List UInt8)
    (hd : BA (PQ p q) w A n d) (hn : n ≤ 100000000) (hnc : n ≤ c) (hcc : c ≤ 9223372036854775807) (hE0 : epochOf s < e) (hfit : n ≤ 64 * areaOf s.R.length) :
    Calls Tryd.prog 20 #[.pointer (some ⟨p, 0, none⟩), .int .u32 (e : Int), .slice A n c] w fun e' w' => e' = .returned (.int .i64 (SW s e d).2) ∧ Dk w' p q (SW s e d).1 ∧ Chg (PQ p q) w w' := by
  have hdl : d.length = n := hd.1
  obtain ⟨sw, hsw⟩ : ∃ x, SW s e d = x := ⟨_, rfl⟩
  have e0 := hsw
  rw [SW_go (o := 0) hf hn7 (by omega) (by omega) hE0 (by rw [hdl]; exact hfit)] at e0
  obtain ⟨bb, hbb⟩ : ∃ x, 3 + 0 * areaOf s.R.length = x := ⟨_, rfl⟩
  rw [hbb, hdl] at e0
  rw [hsw]
  have hn2 : s.R.length ≤ 65536 := h.2.2.2.2.2.1
  obtain ⟨a, ha⟩ : ∃ a : Int, (areaOf s.R.length : Int) = a := ⟨_, rfl⟩
  have hb16 : 1 ≤ a ∧ a ≤ 16383 := by rw [← ha]; unfold areaOf; omega
  obtain ⟨rn, hrn⟩ : ∃ n, s.R.length = n := ⟨_, rfl⟩
  have HCU := Lib.hid (cur_ok w p q s h hf hn7 (by omega))
  rw [ha, hsl, hdrVe, hrn] at HCU
  unfold layV at HCU
  obtain ⟨E, hE⟩ : ∃ x, epochOf s = x := ⟨_, rfl⟩
  obtain ⟨N, hN⟩ : ∃ x, lenOf s = x := ⟨_, rfl⟩
  obtain ⟨C, hC⟩ : ∃ x, sumOf s = x := ⟨_, rfl⟩
  rw [hE, hN, hC] at HCU
  have hbI : (bb : Int) = 3 := by rw [← hbb]; simp only [Nat.zero_mul, Nat.one_mul]; omega
  have hei : (E : Int) < e := by omega
  have hfi : (n : Int) ≤ a * 64 := by omega
  have hE1 : decide (e ≤ E) = false := by simp; omega
  have hE2 : decide ((e : Int) ≤ (E : Int)) = false := by simp; omega
  have hfd : decide (a * 64 < (n : Int)) = false := by simpa using hfi
  have HSW := Lib.hid e0
  have HD := Lib.hid h
  have HA0 := Lib.hid hd
  have HEV := Lib.hid hev
  have HDL := Lib.hid hdl
  clear h e0 hf hn7 hsl hE0 hE hN hC ha hrn hdl hn2 hsw hd hev hbb hfit
  go_enter Tryd.func20, Tryd.ntmps20
  go_wp2_with fail
  refine HCU.out.mono ?_
  rintro e1 w1 ⟨rfl, hb⟩
  have hfr : ¬ PQ p q w1.heap.size := (HD.out.below hb).fresh (Nat.le_refl _)
  have HNP := Lib.hid hfr
  have hb2 : Below w.heap.size w ((w1.alloc (.cells #[.int .i64 0, .int .i64 1, .int .i64 2, .int .i64 3, .int .i64 (3 + a), .int .i64 a, .int .i64 (3 + 2 * a), .int .i64 (rn - (3 + 2 * a))] 24)).alloc (.cells #[.int .u32 (E : Int), .int .u32 (N : Int), .int .u64 (C : Int)] 76)) := hb.trans (((Below.refl _ w1).alloc (Nat.le_refl _) _).alloc (by simp) _ |>.mono hb.size)
  have HL := Lib.hid (show Blk ((w1.alloc (.cells #[.int .i64 0, .int .i64 1, .int .i64 2, .int .i64 3, .int .i64 (3 + a), .int .i64 a, .int .i64 (3 + 2 * a), .int .i64 (rn - (3 + 2 * a))] 24)).alloc (.cells #[.int .u32 (E : Int), .int .u32 (N : Int), .int .u64 (C : Int)] 76)) w1.heap.size 24 #[.int .i64 0, .int .i64 1, .int .i64 2, .int .i64 3, .int .i64 (3 + a), .int .i64 a, .int .i64 (3 + 2 * a), .int .i64 (rn - (3 + 2 * a))] from (Blk.new w1 24 _).alloc _)
  replace HD := Lib.hid (HD.out.below hb2)
  have HA := Lib.hid (HA0.out.below hb2)
  replace HEV := Lib.hid (HEV.out.below hb2)
  have HCW := Lib.hid (show Chg (PQ p q) w ((w1.alloc (.cells #[.int .i64 0, .int .i64 1, .int .i64 2, .int .i64 3, .int .i64 (3 + a), .int .i64 a, .int .i64 (3 + 2 * a), .int .i64 (rn - (3 + 2 * a))] 24)).alloc (.cells #[.int .u32 (E : Int), .int .u32 (N : Int), .int .u64 (C : Int)] 76)) from Chg.of_below hb2)
  clear hb hb2 HCU HA0 hfr
  obtain ⟨W, hW⟩ : ∃ W, (w1.alloc (.cells #[.int .i64 0, .int .i64 1, .int .i64 2, .int .i64 3, .int .i64 (3 + a), .int .i64 a, .int .i64 (3 + 2 * a), .int .i64 (rn - (3 + 2 * a))] 24)).alloc (.cells #[.int .u32 (E : Int), .int .u32 (N : Int), .int .u64 (C : Int)] 76) = W := ⟨_, rfl⟩
  rw [hW] at HD HA HEV HCW HL
  have HWW := Lib.hid hW
  clear hW
  go_wp2_with fail
  rw [HWW.out]
  clear HWW
  generalize w1.heap.size = gl at *
  go_loopw [11] (fun iv wr => ∃ (i j : Nat) (sk : St), iv = .int .i64 (i : Int) ∧ i = 64 * j ∧ i < n + 64 ∧ Dk wr p q sk ∧ wall n s bb d = wall n sk (bb + j) (d.drop i) ∧ sk.x ≤ s.x + j ∧ Chg (PQ p q) W wr) (fun iv _ => n + 64 - (intOf iv).toNat)
  case atStart => exact ⟨0, 0, s, rfl, rfl, by omega, HD.out, rfl, by omega, Chg.refl _ _⟩
  case round =>
    obtain ⟨i, j, sk, rfl, hij, hin, hdk, hwa, hxk, hcg⟩ := hrel
    have HK := Lib.hid hdk
    have HWA := Lib.hid hwa
    have HCG := Lib.hid hcg
    clear hdk hwa hcg
    by_cases hlt : i < n
    · have hlti : (i : Int) < n := by omega
      obtain ⟨b, off, rfl⟩ := HA.out.at.some (by omega)
      obtain ⟨r, hr⟩ : ∃ r, sk.Wr ((bb + j : Nat) : Int) (padS ((d.drop i).take 64)) = r := ⟨_, rfl⟩
      have e1 : IntKind.i64.wrap ((i : Int) + 64) = (i : Int) + 64 := by rw [IntWalk.i64_in _ (by omega)]
      have e2 : (i : Int).tdiv 64 = (j : Int) := by rw [Int.tdiv_eq_ediv_of_nonneg (by omega)]; omega
      have e3 : IntKind.i64.wrap (3 + (j : Int)) = 3 + (j : Int) := by rw [IntWalk.i64_in _ (by omega)]
      have hic : (i : Int) ≤ c := by omega
      have hnci : (n : Int) ≤ c := by omega
      have h0i : (0 : Int) ≤ i := by omega
      have hb0 : off + i < off + n := by omega
      have HIJ := Lib.hid hij
      have hji : j ≤ i := by omega
      clear hij hb0
      obtain ⟨m, t, hm, e7, e8, e10, e12, e13⟩ : ∃ m t : Nat, (m = 64 ∨ m = n - i) ∧ (if (n : Int) < (i : Int) + 64 then (n : Int) else (i : Int) + 64) = (t : Int) ∧ i + m ≤ n ∧ (t : Int) ≤ c ∧ t - i = m ∧ i ≤ t := by
        by_cases h64 : (n : Int) < (i : Int) + 64
        · exact ⟨n - i, n, .inr rfl, by rw [if_pos h64], by omega, by omega, rfl, by omega⟩
        · exact ⟨64, i + 64, .inl rfl, by rw [if_neg h64]; omega, by omega, by omega, by omega, by omega⟩
      have e11 : ¬ c = i := by omega
      have hm64 : m ≤ 64 := by omega
      have hmN : m ≤ 64 := by omega
      have CW := Lib.hid (fun (D : World) (hD : Below wr.heap.size wr D) => show Calls Tryd.prog 37 #[.pointer (some ⟨p, 0, none⟩), .int .i64 (3 + (j : Int)), .slice (some ⟨b, off + i, none⟩) m (c - i)] D (fun e w' => e = .returned (.int .i64 r.2) ∧ Dk w' p q r.1 ∧ Chg (PQ p q) D w') from by
        have h1 := wfill_any D p q sk (HK.out.below hD) (by omega) (3 + (j : Int)) _ m (c - i) _ (bytes_part ((HA.out.chg HCG.out).at.below hD) (k := i) (m := m) (by omega)) hmN
        have e4 : (d.drop i).take m = (d.drop i).take 64 := by
          rcases hm with hm | hm
          · rw [hm]
          · exact (take_min (by rw [List.length_drop, HDL.out]; omega) hmN).symm
        rw [e4] at h1
        rw [show 3 + (j : Int) = ((bb + j : Nat) : Int) by have := HIJ.out; omega] at h1 ⊢
        rw [hr] at h1
        exact h1)
      have HHM := Lib.hid hm
      have HR := Lib.hid hr
      clear hm hr
      go_wp2_with fail
      refine region_tail 16 (by kernel_rfl) (by kernel_rfl) (fun D hD hs => ?_)
      simp only [List.take_succ_cons, List.take_zero, List.drop_succ_cons, List.drop_zero]
      have cl : D.cell? ⟨gl, 3, none⟩ = some (.int .i64 (3)) := keepcell hD ((HL.out.chg HCG.out HNP.out).cell 3)
      have CW2 := Lib.hid (CW.out D hD)
      replace HCG := Lib.hid (HCG.out.trans (Chg.of_below hD))
      clear hD hs CW
      repeat still_step
      refine wpStill_nil ?_
      go_wp2_with fail
      refine CW2.out.mono ?_
      rintro e2 w2 ⟨rfl, hd2, hc2⟩
      have HK2 := Lib.hid hd2
      replace HCG := Lib.hid (HCG.out.trans hc2)
      clear hd2 hc2 CW2 cl
      by_cases hr0 : r.2 = 0
      · rw [hr0]
        go_wp2
        go_roundw
        case rel =>
          refine ⟨i + 64, j + 1, r.1, by go_num, by have := HIJ.out; omega, by omega, HK2.out, ?_, ?_, HCG.out⟩
          · rw [HWA.out, wall_ok (by rw [List.length_drop, HDL.out]; omega) (by intro h0; have := congrArg List.length h0; rw [List.length_drop, HDL.out] at this; simp at this; omega) (by rw [HR.out]; exact hr0), HR.out, List.drop_drop]
            rfl
          · rw [← HR.out]
            exact Nat.le_trans (St.Wr_x _ _ _) (by omega)
        case measure => simp [intOf]; omega
      · have HFI : Hid (sw = r) := Lib.hid (by
          have e5 := wall_bad (n := n) (s := sk) (i := bb + j) (d := d.drop i) (by rw [List.length_drop, HDL.out]; omega) (by intro h0; have := congrArg List.length h0; rw [List.length_drop, HDL.out] at this; simp at this; omega) (by rw [HR.out]; exact hr0)
          rw [← HSW.out, HWA.out, e5, HR.out, if_neg hr0])
        have hr1 : decide (r.2 = 0) = false := by simpa using hr0
        go_wp2
        go_ret
        rw [HFI.out]
        exact ⟨rfl, HK2.out, HCW.out.trans HCG.out⟩
    · have hge : (n : Int) ≤ i := by omega
      have hdn : d.drop i = [] := List.drop_of_length_le (by rw [HDL.out]; omega)
      have HFI : Hid (fin2 sk e n (crc 0 d) 0 = sw) := Lib.hid (by
        have e5 := HSW.out
        rw [HWA.out, hdn, wall_nil] at e5
        simpa using e5)
      have hxk2 : sk.x + 2 < 1000000000 := by omega
      have HIJ := Lib.hid hij
      have HXK := Lib.hid hxk2
      have hn32 : IntKind.u32.wrap (n : Int) = n := by rw [IntKind.wrap_u32]; omega
      clear hij hdn hxk hxk2
      obtain ⟨r, hr⟩ : ∃ r, sk.Wr ((1 + 0 : Nat) : Int) (hdr e n (crc 0 d)) = r := ⟨_, rfl⟩
      have HR := Lib.hid hr
      clear hr
      obtain ⟨cc, hcc0⟩ : ∃ x, crc 0 d = x := ⟨_, rfl⟩
      have HCC := Lib.hid hcc0
      clear hcc0
      go_wp2_with fail
      have hD : Below wr.heap.size wr wr.drew := below_drew (Below.refl _ _)
      have HAD := Lib.hid ((HA.out.chg HCG.out).below hD)
      have HKD := Lib.hid (HK.out.below hD)
      replace HCG := Lib.hid (HCG.out.trans (Chg.of_below hD))
      have cl : wr.drew.cell? ⟨gl, 1, none⟩ = some (.int .i64 1) := (HL.out.chg HCG.out HNP.out).cell 1
      clear hD
      refine wp_region_mix 13 (fun w' => w'.cell? ⟨gl, 1, none⟩ = some (.int .i64 1)) (by kernel_rfl) (by decide) ?_
      generalize wr.drew = D at *
      have CS := Lib.hid (Sum_any A n c d D HAD.out.at (by omega) (HEV.out.chg HCG.out hp))
      rw [HCC.out] at CS
      refine wpM_take (i := 0) (oi := ⟨some 62, _, _, _, _, _⟩) (v := ?_) rfl (by decide +kernel) (by decide +kernel) (by decide +kernel) (fun _ _ _ h => h) (Or.inl ⟨by rfl, ?_⟩) cl ?_
      case refine_2 => (intro w hSw; (try dsimp only at hSw); go_simp; try (with_reducible rfl))
      try simp only [Act.put, List.setIfInBounds_toArray, List.set_cons_zero, List.set_cons_succ]
      refine wpM_take (i := 1) (oi := ⟨some 63, _, _, _, _, _⟩) (v := ?_) rfl (by decide +kernel) (by decide +kernel) (by decide +kernel) (fun _ _ _ h => h) (Or.inl ⟨by rfl, ?_⟩) cl ?_
      case refine_2 => (intro w hSw; (try dsimp only at hSw); go_simp; try (with_reducible rfl))
      try simp only [Act.put, List.setIfInBounds_toArray, List.set_cons_zero, List.set_cons_succ]
      refine wpM_take (i := 2) (oi := ⟨some 64, _, _, _, _, _⟩) (v := ?_) rfl (by decide +kernel) (by decide +kernel) (by decide +kernel) (fun _ _ _ h => h) (Or.inl ⟨by rfl, ?_⟩) cl ?_
      case refine_2 => (intro w hSw; (try dsimp only at hSw); go_simp; try (with_reducible rfl))
      try simp only [Act.put, List.setIfInBounds_toArray, List.set_cons_zero, List.set_cons_succ]
      refine wpM_take (i := 3) (oi := ⟨some 65, _, _, _, _, _⟩) (v := ?_) rfl (by decide +kernel) (by decide +kernel) (by decide +kernel) (fun _ _ _ h => h) (Or.inl ⟨by rfl, ?_⟩) cl ?_
      case refine_2 => (intro w hSw; (try dsimp only at hSw); go_simp; try (with_reducible rfl))
      try simp only [Act.put, List.setIfInBounds_toArray, List.set_cons_zero, List.set_cons_succ]
      refine wpM_take (i := 4) (oi := ⟨some 66, _, _, _, _, _⟩) (v := ?_) rfl (by decide +kernel) (by decide +kernel) (by decide +kernel) (fun _ _ _ h => h) (Or.inl ⟨by rfl, ?_⟩) cl ?_
      case refine_2 => (intro w hSw; (try dsimp only at hSw); go_simp; try (with_reducible rfl))
      try simp only [Act.put, List.setIfInBounds_toArray, List.set_cons_zero, List.set_cons_succ]
      refine wpM_take (i := 5) (oi := ⟨some 67, _, _, _, _, _⟩) (v := ?_) rfl (by decide +kernel) (by decide +kernel) (by decide +kernel) (fun _ _ _ h => h) (Or.inl ⟨by rfl, ?_⟩) cl ?_
      case refine_2 => (intro w hSw; (try dsimp only at hSw); go_simp; try (with_reducible rfl))
      try simp only [Act.put, List.setIfInBounds_toArray, List.set_cons_zero, List.set_cons_succ]
      refine wpM_take (i := 6) (oi := ⟨some 68, _, _, _, _, _⟩) (v := ?_) rfl (by decide +kernel) (by decide +kernel) (by decide +kernel) (fun _ _ _ h => h) (Or.inl ⟨by rfl, ?_⟩) cl ?_
      case refine_2 => (intro w hSw; (try dsimp only at hSw); go_simp; try (with_reducible rfl))
      try simp only [Act.put, List.setIfInBounds_toArray, List.set_cons_zero, List.set_cons_succ]
      refine wpM_take (i := 7) (oi := ⟨some 69, _, _, _, _, _⟩) (v := ?_) rfl (by decide +kernel) (by decide +kernel) (by decide +kernel) (fun _ _ _ h => h) (Or.inl ⟨by rfl, ?_⟩) cl ?_
      case refine_2 => (intro w hSw; (try dsimp only at hSw); go_simp; try (with_reducible rfl))
      try simp only [Act.put, List.setIfInBounds_toArray, List.set_cons_zero, List.set_cons_succ]
      refine wpM_take (i := 8) (oi := ⟨some 70, _, _, _, _, _⟩) (v := ?_) rfl (by decide +kernel) (by decide +kernel) (by decide +kernel) (fun _ _ _ h => h) (Or.inl ⟨by rfl, ?_⟩) cl ?_
      case refine_2 => (intro w hSw; (try dsimp only at hSw); go_simp; try (with_reducible rfl))
      try simp only [Act.put, List.setIfInBounds_toArray, List.set_cons_zero, List.set_cons_succ]
      refine wpM_take (i := 9) (oi := ⟨some 71, _, _, _, _, _⟩) (v := ?_) rfl (by decide +kernel) (by decide +kernel) (by decide +kernel) (fun _ _ _ h => h) (Or.inl ⟨by rfl, ?_⟩) cl ?_
      case refine_2 => (intro w hSw; (try dsimp only at hSw); go_simp; try (with_reducible rfl))
      try simp only [Act.put, List.setIfInBounds_toArray, List.set_cons_zero, List.set_cons_succ]
      refine wpM_step (i := 10) (o := ⟨some 72, _, _, _, _, _⟩) rfl (by decide +kernel) (by decide) (fun K hK => ?_)
      go_simp
      go_at_call 38
      refine CS.out.mono ?_
      rintro e9 w9 ⟨rfl, rfl⟩
      refine hK.out _ _ cl ?_
      clear hK K
      try simp only [Act.put, List.setIfInBounds_toArray, List.set_cons_zero, List.set_cons_succ]
      refine wpM_take (i := 11) (oi := ⟨some 73, _, _, _, _, _⟩) (v := ?_) rfl (by decide +kernel) (by decide +kernel) (by decide +kernel) (fun _ _ _ h => h) (Or.inl ⟨by rfl, ?_⟩) cl ?_
      case refine_2 => (intro w hSw; (try dsimp only at hSw); go_simp; try (with_reducible rfl))
      try simp only [Act.put, List.setIfInBounds_toArray, List.set_cons_zero, List.set_cons_succ]
      refine wpM_step (i := 12) (o := ⟨some 74, _, _, _, _, _⟩) rfl (by decide +kernel) (by decide) (fun K hK => ?_)
      go_simp
      go_at_call 39
      refine (hbytes_any D e n cc he32 (by omega)).mono ?_
      rintro e9 w9 ⟨g9, rfl, hg9, hk9, hb9⟩
      have cl9 : w9.cell? ⟨gl, 1, none⟩ = some (.int .i64 1) := keepcell hb9 cl
      refine hK.out _ _ cl9 ?_
      clear hK K
      try simp only [Act.put, List.setIfInBounds_toArray, List.set_cons_zero, List.set_cons_succ]
      refine wpM_done (by decide +kernel) ?_
      simp only [List.drop_succ_cons, List.drop_zero]
      clear CS
      go_wp2_with fail
      refine (Write_any w9 p q sk (HKD.out.below hb9) (by have := HXK.out; omega) _ _ 64 64 _ (ba_of_blk (n := 64) hk9 (hdr_len e n cc) (HKD.out.fresh hg9)) (by decide)).mono ?_
      rintro e10 w10 ⟨rfl, hd10, hc10⟩
      have e11 : sk.Wr 1 (hdr e n cc) = r := by rw [← HR.out, ← HCC.out]; rfl
      rw [e11] at hd10 ⊢
      have HK10 := Lib.hid hd10
      replace HCG := Lib.hid ((HCG.out.trans (Chg.of_below hb9)).trans hc10)
      clear hd10 hc10 hb9 hk9 hg9 e11 cl cl9
      by_cases hr0 : r.2 = 0
      · rw [hr0]
        have cl0 : w10.cell? ⟨gl, 0, none⟩ = some (.int .i64 0) := (HL.out.chg HCG.out HNP.out).cell 0
        have HF2 : Hid (r.1.Wr 0 (padS [UInt8.ofNat 0]) = sw) := Lib.hid (by
          have := HFI.out
          unfold fin2 at this
          rw [HR.out, if_pos hr0] at this
          exact this)
        have hrx : r.1.x < 1000000000 := by
          have h1 := St.Wr_x sk ((1 + 0 : Nat) : Int) (hdr e n (crc 0 d))
          rw [HR.out] at h1
          have := HXK.out
          omega
        go_wp2_with fail
        have hbn : Below w10.heap.size w10 (w10.alloc (.cells #[.int .u8 0] 5)) := (Below.refl _ _).alloc (Nat.le_refl _) _
        have hkn : Blk (w10.alloc (.cells #[.int .u8 0] 5)) w10.heap.size 5 (bc [UInt8.ofNat 0]).toArray := Blk.new w10 5 _
        refine (wfill_any _ p q r.1 (HK10.out.below hbn) hrx 0 (some ⟨w10.heap.size, 0, none⟩) 1 1 [UInt8.ofNat 0] (bytes_of_blk hkn rfl) (by decide)).mono ?_
        rintro e12 w12 ⟨rfl, hd12, hc12⟩
        rw [HF2.out] at hd12 ⊢
        have HK12 := Lib.hid hd12
        replace HCG := Lib.hid ((HCG.out.trans (Chg.of_below hbn)).trans hc12)
        clear hd12 hc12 hbn hkn
        go_wp2
        go_ret
        exact ⟨rfl, HK12.out, HCW.out.trans HCG.out⟩
      · have HF2 : Hid (r = sw) := Lib.hid (by
          have := HFI.out
          unfold fin2 at this
          rw [HR.out, if_neg hr0] at this
          exact this)
        have hr1 : decide (r.2 = 0) = false := by simpa using hr0
        go_wp2
        go_ret
        rw [← HF2.out]
        exact ⟨rfl, HK10.out, HCW.out.trans HCG.out⟩
/-- Writing a version. -/
theorem SWrite_any (w : World) (p q : Nat) (s : St) (h : Dk w p q s) (hp : ¬ PQ p q 0) (hev : Env w) (e n c : Nat) (hx : s.x + n + 2 < 1000000000) (he32 : e < 4294967296) (A : Option Addr) (d : List UInt8)
    (hd : BA (PQ p q) w A n d) (hn : n ≤ 100000000) (hnc : n ≤ c) (hcc : c ≤ 9223372036854775807) :
    Calls Tryd.prog 20 #[.pointer (some ⟨p, 0, none⟩), .int .u32 (e : Int), .slice A n c] w fun e' w' => e' = .returned (.int .i64 (SW s e d).2) ∧ Dk w' p q (SW s e d).1 ∧ Chg (PQ p q) w w' := by
  by_cases hf : s.f = true
  · exact SWrite_fail w p q s h hf e A n c d
  · have hf : s.f = false := by simpa using hf
    by_cases hn7 : s.R.length < 7
    · exact SWrite_small w p q s h hf hn7 e A n c d
    · have hn7 : 7 ≤ s.R.length := by omega
      rcases (show slotOf s = 0 ∨ slotOf s = 1 ∨ 1 < slotOf s by omega) with hs | hs | hs
      · by_cases he : e ≤ epochOf s
        · exact SWrite_old0 w p q s h hf hn7 hs e A n c d hd.1 he
        · by_cases hfit : 64 * areaOf s.R.length < n
          · exact SWrite_full0 w p q s h hf hn7 hs e A n c d hd.1 (by omega) hfit
          · exact SWrite_ok0 w p q s h hp hev hf hn7 hs e n c hx he32 A d hd hn hnc hcc (by omega) (by omega)
      · by_cases he : e ≤ epochOf s
        · exact SWrite_old1 w p q s h hf hn7 hs e A n c d hd.1 he
        · by_cases hfit : 64 * areaOf s.R.length < n
          · exact SWrite_full1 w p q s h hf hn7 hs e A n c d hd.1 (by omega) hfit
          · exact SWrite_ok1 w p q s h hp hev hf hn7 hs e n c hx he32 A d hd hn hnc hcc (by omega) (by omega)
      · exact SWrite_slot w p q s h hf hn7 hs e A n c d
end Go.Proofs.YthhpilkhcomhbaaDoor
