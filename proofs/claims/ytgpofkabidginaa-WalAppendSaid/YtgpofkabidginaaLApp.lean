/- Law WalAppend: for every input the call returns true, and its arguments read afterwards as before. -/
import Derived.Test.YtgpofkabidginaaWpx
namespace Go.Proofs.Ytgpofkabidginaa
open Go.ChangeShapes Go.WideShapes Go.ChangeAt Go.RowKit Go.ChangeMaps

theorem own_ty {w : World} {B : Nat} {e : TypeId} {size n : Nat} {v : Value} {xs : List Value} {j : Nat} (h : w.ownsRow B e size v n xs) (hj : v.ownBlock = some j) : ∃ cur, w.heap[j]? = some (.cells cur e (0, 0)) := by
  rcases h.2 with ⟨rfl, _⟩ | ⟨g, cap, cur, rfl, hg, hh, _⟩
  · simp [Value.ownBlock] at hj
  · simp [Value.ownBlock] at hj
    subst hj
    exact ⟨cur, hh⟩
set_option maxRecDepth 100000 in
set_option maxHeartbeats 4000000 in
theorem walAppend_walk (x : Cs) (w : World) (h : CsAt w x) : Calls Try.prog 3 #[x.v] w fun e w' => e = .returned (.bool true) ∧ Below w.heap.size w w' := by
  have HC := Lib.hid h
  have hE := h.e
  obtain ⟨hf1, hf2⟩ := h.f
  obtain ⟨hc1, hc2⟩ := h.c
  obtain ⟨sb, hsb⟩ : ∃ b, decide (smallP x) = b := ⟨_, rfl⟩
  have HSM := Lib.hid (fun W (hW : Below w.heap.size w W) => small_any W x (h.below hW) sb hsb)
  have HSB := Lib.hid hsb
  have HDI := Lib.hid (fun W (hW : Below w.heap.size w W) => disks_any W x (h.below hW))
  clear h hsb
  obtain ⟨S, F, C, E, OA, on, oc, OL, RA', rn, rc, RL⟩ := x
  simp only [Cs.v] at *
  have HB := Lib.hid (show Below w.heap.size w (w.alloc (.cells #[.int .i64 S, .slice OA on oc, .int .i64 F, .int .i64 C, .int .u32 (E : Int), .slice RA' rn rc] 25)) from (Below.refl _ w).alloc (Nat.le_refl _) _)
  have HK := Lib.hid (show Blk (w.alloc (.cells #[.int .i64 S, .slice OA on oc, .int .i64 F, .int .i64 C, .int .u32 (E : Int), .slice RA' rn rc] 25)) w.heap.size 25 #[.int .i64 S, .slice OA on oc, .int .i64 F, .int .i64 C, .int .u32 (E : Int), .slice RA' rn rc] from Blk.new _ _ _)
  go_enter Try.func3, Try.ntmps3
  go_wp2_with fail
  refine (awake_any _).mono ?_
  rintro e w1 ⟨rfl, hb⟩
  replace HB := Lib.hid (HB.out.trans (hb.mono HB.out.size))
  replace HK := Lib.hid (HK.out.below hb)
  clear hb
  have k0 : w1.cell? ⟨w.heap.size, 0, none⟩ = some (.int .i64 S) := HK.out.cell 0
  have k1 : w1.cell? ⟨w.heap.size, 1, none⟩ = some (.slice OA on oc) := HK.out.cell 1
  have k2 : w1.cell? ⟨w.heap.size, 2, none⟩ = some (.int .i64 F) := HK.out.cell 2
  have k3 : w1.cell? ⟨w.heap.size, 3, none⟩ = some (.int .i64 C) := HK.out.cell 3
  have k4 : w1.cell? ⟨w.heap.size, 4, none⟩ = some (.int .u32 (E : Int)) := HK.out.cell 4
  have k5 : w1.cell? ⟨w.heap.size, 5, none⟩ = some (.slice RA' rn rc) := HK.out.cell 5
  go_wp2_with fail
  refine (HSM.out _ HB.out).mono ?_
  rintro e w2 ⟨rfl, hb⟩
  replace HB := Lib.hid (HB.out.trans (hb.mono HB.out.size))
  replace HK := Lib.hid (HK.out.below hb)
  clear hb
  clear k0 k1 k2 k3 k4 k5
  cases sb
  · go_wp2_with fail
    refine (awake_any _).mono ?_
    rintro e w3 ⟨rfl, hb⟩
    replace HB := Lib.hid (HB.out.trans (hb.mono HB.out.size))
    clear hb
    go_wp2
    go_ret
    exact ⟨rfl, HB.out⟩
  have hsm : smallP _ := of_decide_eq_true HSB.out
  obtain ⟨s1, s2, s3, s4, s5⟩ := hsm
  simp only at s1 s2 s3 s4 s5
  obtain ⟨N, rfl⟩ : ∃ N : Nat, S = (N : Int) := ⟨S.toNat, by omega⟩
  have hN1 : 1 ≤ N := by omega
  have hN : N ≤ 12 := by omega
  have hon : on ≤ N := by omega
  have HRL := Lib.hid s5
  clear s5 HSB s1 s2 s3
  have k0 : w2.cell? ⟨w.heap.size, 0, none⟩ = some (.int .i64 (N : Int)) := HK.out.cell 0
  have k1 : w2.cell? ⟨w.heap.size, 1, none⟩ = some (.slice OA on oc) := HK.out.cell 1
  have k2 : w2.cell? ⟨w.heap.size, 2, none⟩ = some (.int .i64 F) := HK.out.cell 2
  have k3 : w2.cell? ⟨w.heap.size, 3, none⟩ = some (.int .i64 C) := HK.out.cell 3
  have k4 : w2.cell? ⟨w.heap.size, 4, none⟩ = some (.int .u32 (E : Int)) := HK.out.cell 4
  have k5 : w2.cell? ⟨w.heap.size, 5, none⟩ = some (.slice RA' rn rc) := HK.out.cell 5
  have hwl : w.heap.size < w2.heap.size := HK.out.lt
  have HDI := Lib.hid (HDI.out w2 HB.out N rfl hN1 hN hon)
  go_wp2_with fail
  refine HDI.out.mono ?_
  rintro e w3 ⟨p, q, r, t, s, rfl, hM, hRN, hsf, hsa, hsx, hFF, hb⟩
  have HM := Lib.hid hM
  have HF := Lib.hid (show ∀ k, F4 p q r t k → w.heap.size < k from fun k hk => Nat.lt_of_lt_of_le hwl (hFF k hk))
  replace HB := Lib.hid (HB.out.trans (hb.mono HB.out.size))
  replace HK := Lib.hid (HK.out.below hb)
  have HRN := Lib.hid hRN
  have hwl3 : w.heap.size < w3.heap.size := HK.out.lt
  clear hb hM hFF HDI hwl hRN
  clear k0 k1 k2 k3 k4 k5
  have k0 : w3.cell? ⟨w.heap.size, 0, none⟩ = some (.int .i64 (N : Int)) := HK.out.cell 0
  have k1 : w3.cell? ⟨w.heap.size, 1, none⟩ = some (.slice OA on oc) := HK.out.cell 1
  have k2 : w3.cell? ⟨w.heap.size, 2, none⟩ = some (.int .i64 F) := HK.out.cell 2
  have k3 : w3.cell? ⟨w.heap.size, 3, none⟩ = some (.int .i64 C) := HK.out.cell 3
  have k4 : w3.cell? ⟨w.heap.size, 4, none⟩ = some (.int .u32 (E : Int)) := HK.out.cell 4
  have k5 : w3.cell? ⟨w.heap.size, 5, none⟩ = some (.slice RA' rn rc) := HK.out.cell 5
  have hlt3 := DM.lt HM.out.d HM.out.rk
  go_wp2_with fail
  refine (free14_any _ w3 _ (HC.out.below HB.out) r t s HM.out.rk (by rw [HRN.out]) (by rw [HRN.out]; exact hN)).mono ?_
  rintro e w4 ⟨fb, rfl, hfp, -, hb⟩
  have HM4 := Lib.hid (HM.out.below hb)
  replace HB := Lib.hid (HB.out.trans (hb.mono HB.out.size))
  replace HK := Lib.hid (HK.out.below hb)
  have hs34 := hb.size
  clear hb HM
  cases fb
  · go_wp2
    go_ret
    exact ⟨rfl, HB.out⟩
  have hfp := hfp rfl
  obtain ⟨hmb, hfe⟩ := hfp
  simp only at hmb hfe
  have hv := mayB_of hmb
  rw [HRN.out] at hv
  obtain ⟨v1, v2, v3, v4, v5⟩ := hv
  obtain ⟨f, rfl⟩ : ∃ f : Nat, F = (f : Int) := ⟨F.toNat, by omega⟩
  obtain ⟨c, rfl⟩ : ∃ c : Nat, C = (c : Int) := ⟨C.toNat, by omega⟩
  have HMB := Lib.hid hmb
  have HFE := Lib.hid hfe
  clear hmb hfe
  clear k0 k1 k2 k3 k4 k5
  have k0 : w4.cell? ⟨w.heap.size, 0, none⟩ = some (.int .i64 (N : Int)) := HK.out.cell 0
  have k1 : w4.cell? ⟨w.heap.size, 1, none⟩ = some (.slice OA on oc) := HK.out.cell 1
  have k2 : w4.cell? ⟨w.heap.size, 2, none⟩ = some (.int .i64 (f : Int)) := HK.out.cell 2
  have k3 : w4.cell? ⟨w.heap.size, 3, none⟩ = some (.int .i64 (c : Int)) := HK.out.cell 3
  have k4 : w4.cell? ⟨w.heap.size, 4, none⟩ = some (.int .u32 (E : Int)) := HK.out.cell 4
  have k5 : w4.cell? ⟨w.heap.size, 5, none⟩ = some (.slice RA' rn rc) := HK.out.cell 5
  go_wp2_with fail
  refine (NewL_ok w4 p q s HM4.out.d f c E HMB.out).mono ?_
  rintro e w5 ⟨rfl, hl, hb⟩
  have HLF := Lib.hid hl
  have HM5 := Lib.hid (HM4.out.below hb)
  replace HB := Lib.hid (HB.out.trans (hb.mono HB.out.size))
  replace HK := Lib.hid (HK.out.below hb)
  have hlt := DM.lt HM4.out.d HM4.out.rk
  have hgl : w4.heap.size < w5.heap.size := by obtain ⟨A, cap, hk, -⟩ := hl (fun _ => False); exact hk.lt
  have hg4 : ¬ F4 p q r t w4.heap.size := fun h => by have := hlt _ h; omega
  have hg0 : w.heap.size < w4.heap.size := by omega
  have HB45 := Lib.hid hb
  clear hl hb hlt
  clear k0 k1 k2 k3 k4 k5
  have k0 : w5.cell? ⟨w.heap.size, 0, none⟩ = some (.int .i64 (N : Int)) := HK.out.cell 0
  have k1 : w5.cell? ⟨w.heap.size, 1, none⟩ = some (.slice OA on oc) := HK.out.cell 1
  have k2 : w5.cell? ⟨w.heap.size, 2, none⟩ = some (.int .i64 (f : Int)) := HK.out.cell 2
  have k3 : w5.cell? ⟨w.heap.size, 3, none⟩ = some (.int .i64 (c : Int)) := HK.out.cell 3
  have k4 : w5.cell? ⟨w.heap.size, 4, none⟩ = some (.int .u32 (E : Int)) := HK.out.cell 4
  have k5 : w5.cell? ⟨w.heap.size, 5, none⟩ = some (.slice RA' rn rc) := HK.out.cell 5
  go_wp2_with fail
  refine (NewR_any w5 r f c E).mono ?_
  rintro e w6 ⟨rfl, hrg, hb⟩
  have HM6 := Lib.hid (HM5.out.below hb)
  have hl6 := fun F' => (HLF.out F').below hb
  replace HB := Lib.hid (HB.out.trans (hb.mono HB.out.size))
  replace HK := Lib.hid (HK.out.below hb)
  have hlt := DM.lt HM5.out.d HM5.out.rk
  have hml : w5.heap.size < w6.heap.size := (hrg 0).1.lt
  have hm4 : ¬ F4 p q r t w5.heap.size := fun h => by have := hlt _ h; omega
  have hgm : w4.heap.size ≠ w5.heap.size := by omega
  have HRK6 := Lib.hid (show Rk (FO (F6 p q r t w4.heap.size w5.heap.size) (.slice none 0 0)) w6 r t s from HM4.out.rk.re (G := fun _ => False) (Chg.of_below (HB45.out.trans (hb.mono HB45.out.size))) (fun _ e => e.elim) (fun e => e) (fun e => e) (fun k hk hf hf2 => by
    have h45 := HB45.out.size
    rcases hf2 with (h | h | h) | h
    · exact hf h
    · omega
    · omega
    · simp [Value.ownBlock] at h))
  have hb56 := hb.size
  obtain ⟨B, hBB⟩ : ∃ x, w6.heap.size = x := ⟨_, rfl⟩
  have HRG := Lib.hid (hrg B)
  clear hrg hb
  have hm0 : w.heap.size < w5.heap.size := by omega
  have hmB : w5.heap.size < B := by omega
  have hgB : w4.heap.size < B := by omega
  have hFB : ∀ k, F4 p q r t k → k < B := fun k hk => by have := hlt k hk; omega
  clear hlt
  clear HB45 HM4
  generalize w4.heap.size = g at *
  generalize w5.heap.size = m at *
  have HFB6 := Lib.hid (show ∀ k, F6 p q r t g m k → k < B from fun k hk => by
    rcases hk with h | h | h
    · exact hFB k h
    · omega
    · omega)
  have HF0 := Lib.hid (show ∀ k, FS p q r t g m B k → w.heap.size < k from fun k hk => by
    rcases hk with (h | h | h) | h
    · exact HF.out k h
    · omega
    · omega
    · omega)
  have HPM := Lib.hid (show PM w6 B p q r t g m f c E 0 [] (.slice none 0 0) s s from ⟨HM6.out.d, HRK6.out, hl6 _, HFB6.out, by rw [hBB]; exact Nat.le_refl _, fun j hj => by simp [Value.ownBlock] at hj, HM6.out.ne, ⟨hg4, hgm⟩, hm4⟩)
  clear hl6
  have HRW := Lib.hid (show RA (fun k => w.heap.size ≤ k) w RA' rn RL from HC.out.rl.weak (fun k hk _ => by omega))
  have HRNS := Lib.hid HRN.out
  have HPM8 := HPM
  have HG8 := HRG
  obtain ⟨ii1, hi, hz0, hz1, hz2⟩ := info_parts Try.info38
  clear HPM HRG
  have HNE := Lib.hid HPM8.out.ne
  have HMB2 := Lib.hid (show mayB (N : Int) (f : Int) (c : Int) (E : Int) = true from by have := HMB.out; rw [HRNS.out] at this; exact this)
  clear k0 k1 k2 k3 k4 k5
  have k0 : w6.cell? ⟨w.heap.size, 0, none⟩ = some (.int .i64 (N : Int)) := HK.out.cell 0
  have k1 : w6.cell? ⟨w.heap.size, 1, none⟩ = some (.slice OA on oc) := HK.out.cell 1
  have k2 : w6.cell? ⟨w.heap.size, 2, none⟩ = some (.int .i64 (f : Int)) := HK.out.cell 2
  have k3 : w6.cell? ⟨w.heap.size, 3, none⟩ = some (.int .i64 (c : Int)) := HK.out.cell 3
  have k4 : w6.cell? ⟨w.heap.size, 4, none⟩ = some (.int .u32 (E : Int)) := HK.out.cell 4
  have k5 : w6.cell? ⟨w.heap.size, 5, none⟩ = some (.slice RA' rn rc) := HK.out.cell 5
  have hsA : (s.R.length : Nat) = N := HRNS.out
  have HGD0 := Lib.hid (show Good E (seg s f c) [] from free_good (by omega) HFE.out)
  go_wp2_with fail
  go_loopw [8, 60] (fun dv iv wr => ∃ (i k : Nat) (S : List UInt8) (v : Value) (s1 : St) (D : List Rw), iv = .int .i64 (i : Int) ∧ i ≤ rn ∧ PX (fun k => Value.ownBlock dv = some k) wr B p q r t g m f c E k S v s1 s1 ∧ Rg B wr m r f c E k S v ∧ k ≤ i ∧ S.length ≤ 59 * c ∧ s1.f = false ∧ s1.a = 0 ∧ s1.R.length = N ∧ s1.x ≤ 12 + 500 * i ∧ Below w.heap.size w wr ∧ Blk wr w.heap.size 25 #[.int .i64 (N : Int), .slice OA on oc, .int .i64 (f : Int), .int .i64 (c : Int), .int .u32 (E : Int), .slice RA' rn rc] ∧ Good E (seg s1 f c) S ∧ S = (D.map Rw.l).flatMap frame ∧ OR (fun k => w.heap.size ≤ k) B wr dv D ∧ D.length ≤ i ∧ ∀ x ∈ D, x.l.length ≤ 400) (fun _ iv _ => rn - (intOf iv).toNat)
  case atStart => exact ⟨0, 0, [], .slice none 0 0, s, [], rfl, Nat.zero_le _, (PX.of HPM8.out).turn (Chg.refl _ _) (fun _ _ e => e) (fun k hk => by simp [Value.ownBlock] at hk), HG8.out, Nat.le_refl _, by simp, hsf, hsa, hsA, by omega, HB.out, HK.out, HGD0.out, rfl, OR.nil _ _ _, Nat.le_refl _, fun _ h => by cases h⟩
  case round =>
    clear HPM8 HG8 HB HK HGD0
    clear k0 k1 k2 k3 k4 k5
    obtain ⟨i, k, S, v, s1, D, rfl, hir, hpm, hrg, hki, hS, h1f, h1a, h1R, h1x, hB, hK, hgd, hSD, hod, hdl, hd4⟩ := hrel
    have HP := Lib.hid hpm
    have HG := Lib.hid hrg
    have HB := Lib.hid hB
    have HK := Lib.hid hK
    have HGD := Lib.hid hgd
    have HSD := Lib.hid hSD
    have HOD := Lib.hid hod
    have HD4 := Lib.hid hd4
    clear hpm hrg hB hK hgd hSD hod hd4
    by_cases hlt : i < rn
    · have hil : (i : Int) < (rn : Int) := by omega
      obtain ⟨ob, off, rfl, hbl, -, hcc⟩ := HRW.out.2.1 (by omega)
      have hk2 : i < RL.length := by rw [HRW.out.1]; exact hlt
      obtain ⟨y, hy⟩ : ∃ y, RL[i] = y := ⟨_, rfl⟩
      have q1 := hcc i hk2
      rw [hy] at q1
      have q1 : wr.cell? ⟨ob, off + i, none⟩ = some (.slice y.A y.n y.c) := keepcell HB.out q1
      have hyk := HRW.out.2.2 y (hy ▸ List.getElem_mem _)
      have hy4 : y.n ≤ 400 := HRL.out y (hy ▸ List.getElem_mem _)
      obtain ⟨hyb, hyc, hyc2⟩ := hyk
      clear hcc hy
      obtain ⟨yA, yn, yc, yl⟩ := y
      simp only at q1 hyb hyc hyc2 hy4
      have HYB := Lib.hid hyb
      have hyl : yl.length = yn := hyb.1
      have HYL := Lib.hid hyl
      clear hyb hyl
      have hfr : f + c ≤ s1.R.length := by omega
      have HAF := Lib.hid (app_facts (f := f) (c := c) (e := E) (k := k) (S := S) (s := s1) (b := yl) hfr hS h1f)
      have HAG := Lib.hid (app_good (f := f) (c := c) (e := E) (k := k) (S := S) (s := s1) (b := yl) hE hfr HP.out.d.2.2.2.1 HP.out.d.2.2.2.2.1 h1f HGD.out)
      have HRS := Lib.hid (ref_step3 (fun k => Value.ownBlock u8 = some k) wr B p q r t g m f c E k S v s1 HP.out HG.out hE (by omega) (by omega) hS (by omega) (by omega) hfr yA yn yc yl ((HYB.out.below HB.out).mono (fun k hk => by omega)) hy4 hyc hyc2)
      have HPS := Lib.hid (fun W v' (hh : PX (fun k => Value.ownBlock u8 = some k) W B p q r t g m f c E k S v' s1 ((lgOf f c E k S).app s1 yl).2.1) (hW : Below w.heap.size w W) => prog_step3 (fun k => Value.ownBlock u8 = some k) W B p q r t g m f c E k S v' s1 h1f yl hh hE (by omega) (by omega) hS (by omega) (by omega) hfr yA yn yc ((HYB.out.below hW).mono (fun k hk => by omega)) ((HYB.out.below hW).mono (fun k hk => by
        rcases hk with (hk | hk) | hk
        · exact Nat.le_of_lt (HF0.out k (.inl hk))
        · have := (HOD.out.1.lt k hk).1; omega
        · have := (hh.vb k hk).1; omega)) hy4 hyc hyc2)
      obtain ⟨r1, hr1⟩ : ∃ x, (lgOf f c E k S).app s1 yl = x := ⟨_, rfl⟩
      rw [hr1] at HAF HRS HPS HAG
      obtain ⟨l2, s2, cd⟩ := r1
      simp only at HAF HRS HPS HAG
      clear hr1
      go_wp2_with fail
      refine HRS.out.mono ?_
      rintro e wa ⟨v', rfl, hpa, hga, hga6, hca, hcf⟩
      have hba := hca.below HB.out (fun k hk => Nat.le_of_lt (HF0.out k hk)) HB.out.size
      have HBa := Lib.hid hba
      have HKa := Lib.hid (HK.out.chg hca (fun e => by have := HF0.out _ e; omega))
      have HPA := Lib.hid hpa
      have HODa := Lib.hid (HOD.out.chg hcf (fun k hk => by
        rcases hk with (h | h) | h
        · exact Nat.le_of_lt (HF0.out k (.inl (.inl (F4_rt h))))
        · exact Nat.le_of_lt (HF0.out k (.inl (.inr (.inr h))))
        · have := (HP.out.vb k h).1; omega) (fun j hj hk => by
        have hjB := (HOD.out.1.lt j hj).1
        rcases hk with (h | h) | h
        · have := HFB6.out j (.inl (F4_rt h)); omega
        · have := HFB6.out j (.inr (.inr h)); omega
        · obtain ⟨cu1, e1⟩ := own_ty HOD.out.1 hj
          obtain ⟨cu2, e2⟩ := own_ty HG.out.2 h
          rw [e1] at e2
          simp at e2))
      have HP1 := HPS
      have HG36 := Lib.hid (show ∀ k, G3 p q g k → F6 p q r t g m k from fun k hk => by
        rcases hk with h | h | h
        · exact .inl (.inl h)
        · exact .inl (.inr (.inl h))
        · exact .inr (.inl h))
      have hmg : ¬ G3 p q g m := fun h => by
        rcases h with h | h | h
        · exact hm4 (by rw [h]; exact .inl rfl)
        · exact hm4 (by rw [h]; exact .inr (.inl rfl))
        · exact hgm h.symm
      have hvg : ∀ j, v'.ownBlock = some j → ¬ G3 p q g j := fun j hj h => hpa.own j hj (by
        rcases h with h | h | h
        · exact .inl (.inl h)
        · exact .inl (.inr (.inl h))
        · exact .inr (.inl h))
      obtain ⟨h2R, h2x, hcases⟩ := HAF.out
      rcases HAG.out with ⟨rfl, hgg, hga0, h264, h2b⟩ | ⟨h16, h2e⟩ | ⟨-, hna, -⟩
      · have HGA := Lib.hid (hga rfl)
        have c5x : wa.drew.cell? ⟨m, 5, none⟩ = some (.int .i64 ((k + 1 : Nat) : Int)) := HGA.out.1.cell 5
        have hS1 : (S ++ nb4 yl.length ++ yl).length ≤ 59 * c := by
          rcases hcases with ⟨-, h2f, h2S, -⟩ | ⟨h16, -⟩ | h15
          · rw [List.length_append, List.length_append, nb4_len]; omega
          · simp at h16
          · simp at h15
        have h2f : s2.f = false := by
          rcases hcases with ⟨-, h2f, h2S, -⟩ | ⟨h16, -⟩ | h15
          · exact h2f
          · simp at h16
          · simp at h15
        have HGG := Lib.hid hgg
        have h2a := hga0 h1a
        clear hga hga6 hca hcf hba HAF HAG hcases hgg hga0 h264 h2b HP HG HB HK hpa
        obtain ⟨fr, hfr⟩ : ∃ x, freeM (59 * (c : Int) - (((S ++ nb4 yl.length ++ yl).length : Nat) : Int)) = x := ⟨_, rfl⟩
        have HFRL := Lib.hid (fun W (hW : Lk (FO (FX p q r t g m (fun k => Value.ownBlock u8 = some k)) v') W g p (lgOf f c E (k + 1) (S ++ nb4 yl.length ++ yl))) => show Calls Try.prog 19 #[.pointer (some ⟨g, 0, none⟩)] W fun e w' => e = .returned (.int .i64 fr) ∧ ∃ k, w' = W.drewN k from by
          have h1 := FreeL_any _ W g p _ hW (show (lgOf f c E (k + 1) (S ++ nb4 yl.length ++ yl)).c ≤ 65536 by simp only [lgOf]; omega) (show (lgOf f c E (k + 1) (S ++ nb4 yl.length ++ yl)).n ≤ 100000000 by simp only [lgOf]; omega)
          rw [show freeM (59 * ((lgOf f c E (k + 1) (S ++ nb4 yl.length ++ yl)).c : Int) - ((lgOf f c E (k + 1) (S ++ nb4 yl.length ++ yl)).n : Int)) = fr from hfr] at h1
          exact h1)
        have HFRR := Lib.hid (fun W (hW : Rg B W m r f c E (k + 1) (S ++ nb4 yl.length ++ yl) v') => show Calls Try.prog 20 #[.pointer (some ⟨m, 0, none⟩)] W fun e w' => e = .returned (.int .i64 fr) ∧ ∃ k, w' = W.drewN k from by
          have h1 := FreeR_any B W m r f c E (k + 1) (S ++ nb4 yl.length ++ yl) v' hW (by omega) (by omega)
          rw [hfr] at h1
          exact h1)
        have HRCL := Lib.hid (fun W (hW : Lk (FO (FX p q r t g m (fun k => Value.ownBlock u8 = some k)) v') W g p (lgOf f c E (k + 1) (S ++ nb4 yl.length ++ yl))) => show Calls Try.prog 21 #[.pointer (some ⟨g, 0, none⟩)] W fun e w' => e = .returned (.int .i64 (((k + 1) : Nat) : Int)) ∧ W = w' from RecL_any _ W g p _ hW)
        clear hfr
        go_wp2_with fail
        refine wp_region_mix 20 (fun w' => w'.cell? ⟨m, 5, none⟩ = some (.int .i64 (((k + 1) : Nat) : Int))) (by kernel_rfl) (by decide) ?_
        refine wpM_take (i := 0) (oi := ⟨some 67, _, _, _, _, _⟩) (v := ?_) rfl (by decide +kernel) (by decide +kernel) (by decide +kernel) (fun _ _ _ h => h) (Or.inl ⟨by rfl, ?_⟩) c5x ?_
        case refine_2 => (intro w hSw; (try dsimp only at hSw); go_simp; try (with_reducible rfl))
        try simp only [Act.put, List.setIfInBounds_toArray, List.set_cons_zero, List.set_cons_succ]
        refine wpM_take (i := 1) (oi := ⟨some 68, _, _, _, _, _⟩) (v := ?_) rfl (by decide +kernel) (by decide +kernel) (by decide +kernel) (fun _ _ _ h => h) (Or.inl ⟨by rfl, ?_⟩) c5x ?_
        case refine_2 => (intro w hSw; (try dsimp only at hSw); go_simp; try (with_reducible rfl))
        try simp only [Act.put, List.setIfInBounds_toArray, List.set_cons_zero, List.set_cons_succ]
        refine wpM_take (i := 3) (oi := ⟨some 70, _, _, _, _, _⟩) (v := ?_) rfl (by decide +kernel) (by decide +kernel) (by decide +kernel) (fun _ _ _ h => h) (Or.inl ⟨by rfl, ?_⟩) c5x ?_
        case refine_2 => (intro w hSw; (try dsimp only at hSw); go_simp; try (with_reducible rfl))
        try simp only [Act.put, List.setIfInBounds_toArray, List.set_cons_zero, List.set_cons_succ]
        refine wpM_step (i := 2) (o := ⟨some 69, _, _, _, _, _⟩) rfl (by decide +kernel) (by decide) (fun K hK => ?_)
        go_simp
        go_at_call 18
        refine (HP1.out _ v' (HPA.out.below (below_drew (Below.refl _ wa))) (below_drew HBa.out)).mono ?_
        rintro e wb ⟨rfl, hdb, hrb, hp0, hp16, hcb⟩
        have HPM := Lib.hid (hp0 (by first | rfl | trivial))
        have HG := Lib.hid ((show Rg B wa.drew m r f c E (k + 1) (S ++ nb4 yl.length ++ yl) v' from HGA.out).chg hcb hvg hmg)
        have c5y : wb.cell? ⟨m, 5, none⟩ = some (.int .i64 (((k + 1) : Nat) : Int)) := HG.out.1.cell 5
        have HB := Lib.hid ((show Chg (FS p q r t g m B) wa.drew wb from hcb.mono (fun k hk => .inl (HG36.out k hk))).below (below_drew HBa.out) (fun k hk => Nat.le_of_lt (HF0.out k hk)) HBa.out.size)
        have HK := Lib.hid ((show Blk wa.drew w.heap.size 25 _ from HKa.out).chg hcb (fun e => absurd (HF0.out _ (.inl (HG36.out _ e))) (Nat.lt_irrefl _)))
        have HOD := Lib.hid (HODa.out.chg (show Chg (G3 p q g) wa wb from (Chg.of_below (below_drew (Below.refl _ wa))).trans hcb) (fun k hk => Nat.le_of_lt (HF0.out k (.inl (HG36.out k hk)))) (fun j hj hk => by have h1 := (HODa.out.1.lt j hj).1; have h2 := HFB6.out j (HG36.out j hk); omega))
        clear hp0 hp16 hcb hdb hrb
        refine hK.out _ _ c5y ?_
        clear hK K
        try simp only [Act.put, List.setIfInBounds_toArray, List.set_cons_zero, List.set_cons_succ]
        refine wpM_take (i := 4) (oi := ⟨some 71, _, _, _, _, _⟩) (v := ?_) rfl (by decide +kernel) (by decide +kernel) (by decide +kernel) (fun _ _ _ h => h) (Or.inl ⟨by rfl, ?_⟩) c5y ?_
        case refine_2 => (intro w hSw; (try dsimp only at hSw); go_simp; try (with_reducible rfl))
        try simp only [Act.put, List.setIfInBounds_toArray, List.set_cons_zero, List.set_cons_succ]
        refine wpM_take (i := 5) (oi := ⟨some 72, _, _, _, _, _⟩) (v := ?_) rfl (by decide +kernel) (by decide +kernel) (by decide +kernel) (fun _ _ _ h => h) (Or.inl ⟨by rfl, ?_⟩) c5y ?_
        case refine_2 => (intro w hSw; (try dsimp only at hSw); go_simp; try (with_reducible rfl))
        try simp only [Act.put, List.setIfInBounds_toArray, List.set_cons_zero, List.set_cons_succ]
        refine wpM_take (i := 6) (oi := ⟨some 73, _, _, _, _, _⟩) (v := ?_) rfl (by decide +kernel) (by decide +kernel) (by decide +kernel) (fun _ _ _ h => h) (Or.inl ⟨by rfl, ?_⟩) c5y ?_
        case refine_2 => (intro w hSw; (try dsimp only at hSw); go_simp; try (with_reducible rfl))
        try simp only [Act.put, List.setIfInBounds_toArray, List.set_cons_zero, List.set_cons_succ]
        refine wpM_take (i := 8) (oi := ⟨some 75, _, _, _, _, _⟩) (v := ?_) rfl (by decide +kernel) (by decide +kernel) (by decide +kernel) (fun _ _ _ h => h) (Or.inl ⟨by rfl, ?_⟩) c5y ?_
        case refine_2 => (intro w hSw; (try dsimp only at hSw); go_simp; try (with_reducible rfl))
        try simp only [Act.put, List.setIfInBounds_toArray, List.set_cons_zero, List.set_cons_succ]
        refine wpM_step (i := 7) (o := ⟨some 74, _, _, _, _, _⟩) rfl (by decide +kernel) (by decide) (fun K hK => ?_)
        go_simp
        go_at_call 19
        refine (HFRL.out wb HPM.out.l).mono ?_
        rintro e wc ⟨rfl, kc, rfl⟩
        refine hK.out _ _ (show (wb.drewN kc).cell? ⟨m, 5, none⟩ = _ from c5y) ?_
        clear hK K
        try simp only [Act.put, List.setIfInBounds_toArray, List.set_cons_zero, List.set_cons_succ]
        refine wpM_step (i := 9) (o := ⟨some 76, _, _, _, _, _⟩) rfl (by decide +kernel) (by decide) (fun K hK => ?_)
        go_simp
        go_at_call 20
        refine (HFRR.out (wb.drewN kc) (HG.out.below (below_drewN (Below.refl _ _)))).mono ?_
        rintro e wc ⟨rfl, kd, rfl⟩
        refine hK.out _ _ (show ((wb.drewN kc).drewN kd).cell? ⟨m, 5, none⟩ = _ from c5y) ?_
        clear hK K
        try simp only [Act.put, List.setIfInBounds_toArray, List.set_cons_zero, List.set_cons_succ]
        refine wpM_take (i := 10) (oi := ⟨some 77, _, _, _, _, _⟩) (v := ?_) rfl (by decide +kernel) (by decide +kernel) (by decide +kernel) (fun _ _ _ h => h) (Or.inl ⟨by rfl, ?_⟩) c5y ?_
        case refine_2 => (intro w hSw; (try dsimp only at hSw); go_simp; try (with_reducible rfl))
        try simp only [Act.put, List.setIfInBounds_toArray, List.set_cons_zero, List.set_cons_succ]
        refine wpM_take (i := 11) (oi := ⟨some 78, _, _, _, _, _⟩) (v := ?_) rfl (by decide +kernel) (by decide +kernel) (by decide +kernel) (fun _ _ _ h => h) (Or.inl ⟨by rfl, ?_⟩) c5y ?_
        case refine_2 => (intro w hSw; (try dsimp only at hSw); go_simp; try (with_reducible rfl))
        try simp only [Act.put, List.setIfInBounds_toArray, List.set_cons_zero, List.set_cons_succ]
        refine wpM_take (i := 12) (oi := ⟨some 79, _, _, _, _, _⟩) (v := ?_) rfl (by decide +kernel) (by decide +kernel) (by decide +kernel) (fun _ _ _ h => h) (Or.inl ⟨by rfl, ?_⟩) c5y ?_
        case refine_2 => (intro w hSw; (try dsimp only at hSw); go_simp; try (with_reducible rfl))
        try simp only [Act.put, List.setIfInBounds_toArray, List.set_cons_zero, List.set_cons_succ]
        refine wpM_take (i := 13) (oi := ⟨some 80, _, _, _, _, _⟩) (v := ?_) rfl (by decide +kernel) (by decide +kernel) (by decide +kernel) (fun _ _ _ h => h) (Or.inl ⟨by rfl, ?_⟩) c5y ?_
        case refine_2 => (intro w hSw; (try dsimp only at hSw); go_simp; try (with_reducible rfl))
        try simp only [Act.put, List.setIfInBounds_toArray, List.set_cons_zero, List.set_cons_succ]
        refine wpM_take (i := 15) (oi := ⟨some 82, _, _, _, _, _⟩) (v := ?_) rfl (by decide +kernel) (by decide +kernel) (by decide +kernel) (fun _ _ _ h => h) (Or.inl ⟨by rfl, ?_⟩) c5y ?_
        case refine_2 => (intro w hSw; (try dsimp only at hSw); go_simp; try (with_reducible rfl))
        try simp only [Act.put, List.setIfInBounds_toArray, List.set_cons_zero, List.set_cons_succ]
        refine wpM_take (i := 16) (oi := ⟨some 83, _, _, _, _, _⟩) (v := ?_) rfl (by decide +kernel) (by decide +kernel) (by decide +kernel) (fun _ _ _ h => h) (Or.inl ⟨by rfl, ?_⟩) c5y ?_
        case refine_2 => (intro w hSw; (try dsimp only at hSw); go_simp; try (with_reducible rfl))
        try simp only [Act.put, List.setIfInBounds_toArray, List.set_cons_zero, List.set_cons_succ]
        refine wpM_take (i := 17) (oi := ⟨some 84, _, _, _, _, _⟩) (v := ?_) rfl (by decide +kernel) (by decide +kernel) (by decide +kernel) (fun _ _ _ h => h) (Or.inl ⟨by rfl, ?_⟩) c5y ?_
        case refine_2 => (intro w hSw; (try dsimp only at hSw); go_simp; try (with_reducible rfl))
        try simp only [Act.put, List.setIfInBounds_toArray, List.set_cons_zero, List.set_cons_succ]
        refine wpM_take (i := 18) (oi := ⟨some 85, _, _, _, _, _⟩) (v := ?_) rfl (by decide +kernel) (by decide +kernel) (by decide +kernel) (fun _ _ _ h => h) (Or.inl ⟨by rfl, ?_⟩) c5y ?_
        case refine_2 => (intro w hSw; (try dsimp only at hSw); go_simp; try (with_reducible rfl))
        try simp only [Act.put, List.setIfInBounds_toArray, List.set_cons_zero, List.set_cons_succ]
        refine wpM_step (i := 14) (o := ⟨some 81, _, _, _, _, _⟩) rfl (by decide +kernel) (by decide) (fun K hK => ?_)
        go_simp
        go_at_call 21
        refine (HRCL.out _ (HPM.out.l.below (by first | exact below_drewN (below_drewN (Below.refl _ _)) | exact below_drewN (Below.refl _ _)))).mono ?_
        rintro e we ⟨rfl, rfl⟩
        refine hK.out _ _ (show ((wb.drewN kc).drewN kd).cell? ⟨m, 5, none⟩ = _ from c5y) ?_
        clear hK K
        try simp only [Act.put, List.setIfInBounds_toArray, List.set_cons_zero, List.set_cons_succ]
        refine wpM_take (i := 19) (oi := ⟨some 86, _, _, _, _, _⟩) (v := ?_) rfl (by decide +kernel) (by decide +kernel) (by decide +kernel) (fun _ _ _ h => h) (Or.inl ⟨by rfl, ?_⟩) c5y ?_
        case refine_2 => (intro w hSw; (try dsimp only at hSw); go_simp; try (with_reducible rfl))
        try simp only [Act.put, List.setIfInBounds_toArray, List.set_cons_zero, List.set_cons_succ]
        refine wpM_done (by decide +kernel) ?_
        simp only [List.drop_succ_cons, List.drop_zero]
        obtain ⟨wz, hwz⟩ : ∃ x, wb.drewN (kc + kd) = x := ⟨_, rfl⟩
        have hbz : Below wb.heap.size wb wz := by rw [← hwz]; exact below_drewN (Below.refl _ _)
        rw [hwz]
        have HPMz := Lib.hid (HPM.out.below hbz)
        have HGz := Lib.hid (HG.out.below hbz)
        replace HOD := Lib.hid (HOD.out.below hbz)
        replace HK := Lib.hid (HK.out.below hbz)
        replace HB := Lib.hid (HB.out.trans (hbz.mono HB.out.size))
        have hBw : B ≤ wz.heap.size := HPMz.out.b
        clear hwz hbz HPM HG c5y HFRL HFRR HRCL
        have hb5 : Below wz.heap.size wz (wz.alloc (.cells #[.slice yA yn yc] 38)) := (Below.refl _ _).alloc (Nat.le_refl _) _
        have HOD5 := Lib.hid (HOD.out.below hb5)
        have hB5 : B ≤ (wz.alloc (.cells #[.slice yA yn yc] 38)).heap.size := Nat.le_trans hBw hb5.size
        have HSR := Lib.hid (src_one (x := ⟨yA, yn, yc, yl⟩) (show Blk (wz.alloc (.cells #[.slice yA yn yc] 38)) wz.heap.size 38 #[.slice yA yn yc] from Blk.new _ _ _))
        have hbw5 : Below w.heap.size w (wz.alloc (.cells #[.slice yA yn yc] 38)) := HB.out.trans (hb5.mono HB.out.size)
        have HXW := Lib.hid (show Rw.ok (FO (fun k => w.heap.size ≤ k) u8) (wz.alloc (.cells #[.slice yA yn yc] 38)) ⟨yA, yn, yc, yl⟩ from ⟨(HYB.out.below hbw5).mono (fun k hk => by
          rcases hk with h | h
          · exact h
          · have := (HOD5.out.1.lt k h).1; omega), hyc, hyc2⟩)
        go_wp2_with (at_builtin; refine wpList_append_src _ rfl (.tmp 90) (.tmp 92) 22 22 rfl B 38 ii1 (.slice none 0 0) 1 24 Try.underlying22 hi hz0 hz1 hz2 rfl u8 D.length (D.map Rw.v) rfl HOD5.out.1 _ 1 _ rfl HSR.out (by unfold maxLen; omega) (by omega) hB5 ?_; intro v8 w8 own8 hg8 hm8)
        have HOD8 := Lib.hid (HOD5.out.push HXW.out own8 hg8 hm8)
        have hown5 : ∀ j, u8.ownBlock = some j → B ≤ j := fun j hj => (HOD5.out.1.lt j hj).1
        have hc8 := Chg.of_own2 hg8
        have HPX8 := Lib.hid ((HPMz.out.below hb5).turn (X' := fun k => Value.ownBlock v8 = some k) hc8 (fun k hk h => by have h1 := hown5 _ h; have h2 := HFB6.out k hk; omega) (fun k hk => ⟨(own8.lt k hk).2, by
          rcases hm8 with e | ⟨g9, e, hg9⟩
          · exact .inl (e ▸ hk)
          · rw [e] at hk; cases hk; exact .inr hg9⟩))
        have HG8 := Lib.hid ((HGz.out.below hb5).chg hc8 (fun j hj h => HPMz.out.vx j hj h) (fun h => by have h1 := hown5 _ h; have h2 := HFB6.out m (.inr (.inr rfl)); omega))
        have HK8 := Lib.hid ((HK.out.below hb5).chg hc8 (fun h => by have h1 := hown5 _ h; omega))
        have HB8 := Lib.hid (hbw5.grown hg8 hbw5.size (fun j hj => by have := hown5 j hj; omega))
        clear own8 hg8 hm8 hc8 hb5 hbw5 HOD5 HXW HSR HPMz HGz HB HOD HK
        go_roundw
        case rel => exact ⟨i + 1, k + 1, S ++ nb4 yl.length ++ yl, v', s2, D ++ [⟨yA, yn, yc, yl⟩], by go_num, by omega, HPX8.out, HG8.out, by omega, hS1, h2f, h2a, by omega, by have := HYL.out; omega, HB8.out, HK8.out, HGG.out, by rw [HSD.out, List.map_append, List.map_cons, List.map_nil, flat_snoc], HOD8.out, by rw [List.length_append]; simp; omega, fun x hx => by
          rcases List.mem_append.1 hx with h | h
          · exact HD4.out x h
          · rw [List.mem_singleton] at h; rw [h]; have := HYL.out; simp only; omega⟩
        case measure => simp [intOf]; omega
      · simp only [Prod.mk.injEq] at h2e
        obtain ⟨-, rfl, rfl⟩ := h2e
        have HGA := Lib.hid (hga6 rfl)
        have c5x : wa.drew.cell? ⟨m, 5, none⟩ = some (.int .i64 ((k : Nat) : Int)) := HGA.out.1.cell 5
        clear hga hga6 hca hcf hba HAF HAG hcases HP HG HB HK hpa
        obtain ⟨fr, hfr⟩ : ∃ x, freeM (59 * (c : Int) - ((S.length : Nat) : Int)) = x := ⟨_, rfl⟩
        have HFRL := Lib.hid (fun W (hW : Lk (FO (FX p q r t g m (fun k => Value.ownBlock u8 = some k)) v') W g p (lgOf f c E k S)) => show Calls Try.prog 19 #[.pointer (some ⟨g, 0, none⟩)] W fun e w' => e = .returned (.int .i64 fr) ∧ ∃ k, w' = W.drewN k from by
          have h1 := FreeL_any _ W g p _ hW (show (lgOf f c E k S).c ≤ 65536 by simp only [lgOf]; omega) (show (lgOf f c E k S).n ≤ 100000000 by simp only [lgOf]; omega)
          rw [show freeM (59 * ((lgOf f c E k S).c : Int) - ((lgOf f c E k S).n : Int)) = fr from hfr] at h1
          exact h1)
        have HFRR := Lib.hid (fun W (hW : Rg B W m r f c E k S v') => show Calls Try.prog 20 #[.pointer (some ⟨m, 0, none⟩)] W fun e w' => e = .returned (.int .i64 fr) ∧ ∃ k, w' = W.drewN k from by
          have h1 := FreeR_any B W m r f c E k S v' hW (by omega) (by omega)
          rw [hfr] at h1
          exact h1)
        have HRCL := Lib.hid (fun W (hW : Lk (FO (FX p q r t g m (fun k => Value.ownBlock u8 = some k)) v') W g p (lgOf f c E k S)) => show Calls Try.prog 21 #[.pointer (some ⟨g, 0, none⟩)] W fun e w' => e = .returned (.int .i64 ((k : Nat) : Int)) ∧ W = w' from RecL_any _ W g p _ hW)
        clear hfr
        go_wp2_with fail
        refine wp_region_mix 20 (fun w' => w'.cell? ⟨m, 5, none⟩ = some (.int .i64 ((k : Nat) : Int))) (by kernel_rfl) (by decide) ?_
        refine wpM_take (i := 0) (oi := ⟨some 67, _, _, _, _, _⟩) (v := ?_) rfl (by decide +kernel) (by decide +kernel) (by decide +kernel) (fun _ _ _ h => h) (Or.inl ⟨by rfl, ?_⟩) c5x ?_
        case refine_2 => (intro w hSw; (try dsimp only at hSw); go_simp; try (with_reducible rfl))
        try simp only [Act.put, List.setIfInBounds_toArray, List.set_cons_zero, List.set_cons_succ]
        refine wpM_take (i := 1) (oi := ⟨some 68, _, _, _, _, _⟩) (v := ?_) rfl (by decide +kernel) (by decide +kernel) (by decide +kernel) (fun _ _ _ h => h) (Or.inl ⟨by rfl, ?_⟩) c5x ?_
        case refine_2 => (intro w hSw; (try dsimp only at hSw); go_simp; try (with_reducible rfl))
        try simp only [Act.put, List.setIfInBounds_toArray, List.set_cons_zero, List.set_cons_succ]
        refine wpM_take (i := 3) (oi := ⟨some 70, _, _, _, _, _⟩) (v := ?_) rfl (by decide +kernel) (by decide +kernel) (by decide +kernel) (fun _ _ _ h => h) (Or.inl ⟨by rfl, ?_⟩) c5x ?_
        case refine_2 => (intro w hSw; (try dsimp only at hSw); go_simp; try (with_reducible rfl))
        try simp only [Act.put, List.setIfInBounds_toArray, List.set_cons_zero, List.set_cons_succ]
        refine wpM_step (i := 2) (o := ⟨some 69, _, _, _, _, _⟩) rfl (by decide +kernel) (by decide) (fun K hK => ?_)
        go_simp
        go_at_call 18
        refine (HP1.out _ v' (HPA.out.below (below_drew (Below.refl _ wa))) (below_drew HBa.out)).mono ?_
        rintro e wb ⟨rfl, hdb, hrb, hp0, hp16, hcb⟩
        have HPM := Lib.hid (hp16 (by first | rfl | trivial))
        have HG := Lib.hid ((show Rg B wa.drew m r f c E k S v' from HGA.out).chg hcb hvg hmg)
        have c5y : wb.cell? ⟨m, 5, none⟩ = some (.int .i64 ((k : Nat) : Int)) := HG.out.1.cell 5
        have HB := Lib.hid ((show Chg (FS p q r t g m B) wa.drew wb from hcb.mono (fun k hk => .inl (HG36.out k hk))).below (below_drew HBa.out) (fun k hk => Nat.le_of_lt (HF0.out k hk)) HBa.out.size)
        have HK := Lib.hid ((show Blk wa.drew w.heap.size 25 _ from HKa.out).chg hcb (fun e => absurd (HF0.out _ (.inl (HG36.out _ e))) (Nat.lt_irrefl _)))
        have HOD := Lib.hid (HODa.out.chg (show Chg (G3 p q g) wa wb from (Chg.of_below (below_drew (Below.refl _ wa))).trans hcb) (fun k hk => Nat.le_of_lt (HF0.out k (.inl (HG36.out k hk)))) (fun j hj hk => by have h1 := (HODa.out.1.lt j hj).1; have h2 := HFB6.out j (HG36.out j hk); omega))
        clear hp0 hp16 hcb hdb hrb
        refine hK.out _ _ c5y ?_
        clear hK K
        try simp only [Act.put, List.setIfInBounds_toArray, List.set_cons_zero, List.set_cons_succ]
        refine wpM_take (i := 4) (oi := ⟨some 71, _, _, _, _, _⟩) (v := ?_) rfl (by decide +kernel) (by decide +kernel) (by decide +kernel) (fun _ _ _ h => h) (Or.inl ⟨by rfl, ?_⟩) c5y ?_
        case refine_2 => (intro w hSw; (try dsimp only at hSw); go_simp; try (with_reducible rfl))
        try simp only [Act.put, List.setIfInBounds_toArray, List.set_cons_zero, List.set_cons_succ]
        refine wpM_take (i := 5) (oi := ⟨some 72, _, _, _, _, _⟩) (v := ?_) rfl (by decide +kernel) (by decide +kernel) (by decide +kernel) (fun _ _ _ h => h) (Or.inl ⟨by rfl, ?_⟩) c5y ?_
        case refine_2 => (intro w hSw; (try dsimp only at hSw); go_simp; try (with_reducible rfl))
        try simp only [Act.put, List.setIfInBounds_toArray, List.set_cons_zero, List.set_cons_succ]
        refine wpM_take (i := 6) (oi := ⟨some 73, _, _, _, _, _⟩) (v := ?_) rfl (by decide +kernel) (by decide +kernel) (by decide +kernel) (fun _ _ _ h => h) (Or.inl ⟨by rfl, ?_⟩) c5y ?_
        case refine_2 => (intro w hSw; (try dsimp only at hSw); go_simp; try (with_reducible rfl))
        try simp only [Act.put, List.setIfInBounds_toArray, List.set_cons_zero, List.set_cons_succ]
        refine wpM_take (i := 8) (oi := ⟨some 75, _, _, _, _, _⟩) (v := ?_) rfl (by decide +kernel) (by decide +kernel) (by decide +kernel) (fun _ _ _ h => h) (Or.inl ⟨by rfl, ?_⟩) c5y ?_
        case refine_2 => (intro w hSw; (try dsimp only at hSw); go_simp; try (with_reducible rfl))
        try simp only [Act.put, List.setIfInBounds_toArray, List.set_cons_zero, List.set_cons_succ]
        refine wpM_step (i := 7) (o := ⟨some 74, _, _, _, _, _⟩) rfl (by decide +kernel) (by decide) (fun K hK => ?_)
        go_simp
        go_at_call 19
        refine (HFRL.out wb HPM.out.l).mono ?_
        rintro e wc ⟨rfl, kc, rfl⟩
        refine hK.out _ _ (show (wb.drewN kc).cell? ⟨m, 5, none⟩ = _ from c5y) ?_
        clear hK K
        try simp only [Act.put, List.setIfInBounds_toArray, List.set_cons_zero, List.set_cons_succ]
        refine wpM_step (i := 9) (o := ⟨some 76, _, _, _, _, _⟩) rfl (by decide +kernel) (by decide) (fun K hK => ?_)
        go_simp
        go_at_call 20
        refine (HFRR.out (wb.drewN kc) (HG.out.below (below_drewN (Below.refl _ _)))).mono ?_
        rintro e wc ⟨rfl, kd, rfl⟩
        refine hK.out _ _ (show ((wb.drewN kc).drewN kd).cell? ⟨m, 5, none⟩ = _ from c5y) ?_
        clear hK K
        try simp only [Act.put, List.setIfInBounds_toArray, List.set_cons_zero, List.set_cons_succ]
        refine wpM_take (i := 10) (oi := ⟨some 77, _, _, _, _, _⟩) (v := ?_) rfl (by decide +kernel) (by decide +kernel) (by decide +kernel) (fun _ _ _ h => h) (Or.inl ⟨by rfl, ?_⟩) c5y ?_
        case refine_2 => (intro w hSw; (try dsimp only at hSw); go_simp; try (with_reducible rfl))
        try simp only [Act.put, List.setIfInBounds_toArray, List.set_cons_zero, List.set_cons_succ]
        refine wpM_take (i := 11) (oi := ⟨some 78, _, _, _, _, _⟩) (v := ?_) rfl (by decide +kernel) (by decide +kernel) (by decide +kernel) (fun _ _ _ h => h) (Or.inl ⟨by rfl, ?_⟩) c5y ?_
        case refine_2 => (intro w hSw; (try dsimp only at hSw); go_simp; try (with_reducible rfl))
        try simp only [Act.put, List.setIfInBounds_toArray, List.set_cons_zero, List.set_cons_succ]
        refine wpM_take (i := 12) (oi := ⟨some 79, _, _, _, _, _⟩) (v := ?_) rfl (by decide +kernel) (by decide +kernel) (by decide +kernel) (fun _ _ _ h => h) (Or.inl ⟨by rfl, ?_⟩) c5y ?_
        case refine_2 => (intro w hSw; (try dsimp only at hSw); go_simp; try (with_reducible rfl))
        try simp only [Act.put, List.setIfInBounds_toArray, List.set_cons_zero, List.set_cons_succ]
        refine wpM_take (i := 13) (oi := ⟨some 80, _, _, _, _, _⟩) (v := ?_) rfl (by decide +kernel) (by decide +kernel) (by decide +kernel) (fun _ _ _ h => h) (Or.inl ⟨by rfl, ?_⟩) c5y ?_
        case refine_2 => (intro w hSw; (try dsimp only at hSw); go_simp; try (with_reducible rfl))
        try simp only [Act.put, List.setIfInBounds_toArray, List.set_cons_zero, List.set_cons_succ]
        refine wpM_take (i := 15) (oi := ⟨some 82, _, _, _, _, _⟩) (v := ?_) rfl (by decide +kernel) (by decide +kernel) (by decide +kernel) (fun _ _ _ h => h) (Or.inl ⟨by rfl, ?_⟩) c5y ?_
        case refine_2 => (intro w hSw; (try dsimp only at hSw); go_simp; try (with_reducible rfl))
        try simp only [Act.put, List.setIfInBounds_toArray, List.set_cons_zero, List.set_cons_succ]
        refine wpM_take (i := 16) (oi := ⟨some 83, _, _, _, _, _⟩) (v := ?_) rfl (by decide +kernel) (by decide +kernel) (by decide +kernel) (fun _ _ _ h => h) (Or.inl ⟨by rfl, ?_⟩) c5y ?_
        case refine_2 => (intro w hSw; (try dsimp only at hSw); go_simp; try (with_reducible rfl))
        try simp only [Act.put, List.setIfInBounds_toArray, List.set_cons_zero, List.set_cons_succ]
        refine wpM_take (i := 17) (oi := ⟨some 84, _, _, _, _, _⟩) (v := ?_) rfl (by decide +kernel) (by decide +kernel) (by decide +kernel) (fun _ _ _ h => h) (Or.inl ⟨by rfl, ?_⟩) c5y ?_
        case refine_2 => (intro w hSw; (try dsimp only at hSw); go_simp; try (with_reducible rfl))
        try simp only [Act.put, List.setIfInBounds_toArray, List.set_cons_zero, List.set_cons_succ]
        refine wpM_take (i := 18) (oi := ⟨some 85, _, _, _, _, _⟩) (v := ?_) rfl (by decide +kernel) (by decide +kernel) (by decide +kernel) (fun _ _ _ h => h) (Or.inl ⟨by rfl, ?_⟩) c5y ?_
        case refine_2 => (intro w hSw; (try dsimp only at hSw); go_simp; try (with_reducible rfl))
        try simp only [Act.put, List.setIfInBounds_toArray, List.set_cons_zero, List.set_cons_succ]
        refine wpM_step (i := 14) (o := ⟨some 81, _, _, _, _, _⟩) rfl (by decide +kernel) (by decide) (fun K hK => ?_)
        go_simp
        go_at_call 21
        refine (HRCL.out _ (HPM.out.l.below (by first | exact below_drewN (below_drewN (Below.refl _ _)) | exact below_drewN (Below.refl _ _)))).mono ?_
        rintro e we ⟨rfl, rfl⟩
        refine hK.out _ _ (show ((wb.drewN kc).drewN kd).cell? ⟨m, 5, none⟩ = _ from c5y) ?_
        clear hK K
        try simp only [Act.put, List.setIfInBounds_toArray, List.set_cons_zero, List.set_cons_succ]
        refine wpM_take (i := 19) (oi := ⟨some 86, _, _, _, _, _⟩) (v := ?_) rfl (by decide +kernel) (by decide +kernel) (by decide +kernel) (fun _ _ _ h => h) (Or.inl ⟨by rfl, ?_⟩) c5y ?_
        case refine_2 => (intro w hSw; (try dsimp only at hSw); go_simp; try (with_reducible rfl))
        try simp only [Act.put, List.setIfInBounds_toArray, List.set_cons_zero, List.set_cons_succ]
        refine wpM_done (by decide +kernel) ?_
        simp only [List.drop_succ_cons, List.drop_zero]
        go_wp2
        go_roundw
        case rel => exact ⟨i + 1, k, S, v', _, D, by go_num, by omega, HPM.out.below (below_drewN (Below.refl _ _)), HG.out.below (below_drewN (Below.refl _ _)), by omega, hS, h1f, h1a, h1R, by omega, HB.out.trans ((below_drewN (Below.refl _ _)).mono HB.out.size), HK.out.below (below_drewN (Below.refl _ _)), HGD.out, HSD.out, HOD.out.below (below_drewN (Below.refl _ _)), by omega, HD4.out⟩
        case measure => simp [intOf]; omega
      · exact absurd h1a hna
    · obtain rfl : i = rn := by omega
      have HST : Hid (streamM E ((s1.R.drop f).take c) = S) := Lib.hid (stream_good hE HGD.out)
      have k2 : wr.cell? ⟨w.heap.size, 2, none⟩ = some (.int .i64 (f : Int)) := HK.out.cell 2
      have k3 : wr.cell? ⟨w.heap.size, 3, none⟩ = some (.int .i64 (c : Int)) := HK.out.cell 3
      have k4 : wr.cell? ⟨w.heap.size, 4, none⟩ = some (.int .u32 (E : Int)) := HK.out.cell 4
      go_wp2_with fail
      refine (Scan_ok (fun _ => False) wr (fun _ e => e.elim) p q s1 HP.out.d h1f f c E (by rw [h1R]; exact HMB2.out) hE).mono ?_
      rintro e x3 ⟨v9, L9, rfl, hL, hl, hb⟩
      have HP3 := Lib.hid (HP.out.below hb)
      replace HOD := Lib.hid (HOD.out.below hb)
      replace HB := Lib.hid (HB.out.trans (hb.mono HB.out.size))
      obtain ⟨A1, c1, rfl, hra⟩ := hL.ra
      have HA := Lib.hid hra
      have hn1 : L9.length ≤ 100000000 := recs_len hl (by
        refine Nat.le_trans (stream_len _ _) ?_
        rw [List.length_take, List.length_drop]
        omega)
      rw [HST.out] at hl
      have HEQ := Lib.hid (show L9.map Rw.l = D.map Rw.l from by
        rw [hl, HSD.out]
        exact splitA_frames _ (fun r hr => by
          obtain ⟨x, hx, rfl⟩ := List.mem_map.1 hr
          have := HD4.out x hx
          omega))
      obtain ⟨A2, c2, hdv, hrd⟩ := HOD.out.ra
      have HDR := Lib.hid hrd
      subst hdv
      clear hL hl hb hra hrd
      go_wp2_with fail
      refine (equal_any x3 _ _ _ _ _ _ L9 D HA.out HDR.out hn1 (by omega) true (by rw [HEQ.out]; simp)).mono ?_
      rintro e x6 ⟨rfl, hb⟩
      replace HB := Lib.hid (HB.out.trans (hb.mono HB.out.size))
      have HP6 := Lib.hid (HP3.out.below hb)
      clear hb
      go_wp2_with fail
      refine (same_any x6 p q r t s1 _ HP6.out.d HP6.out.rk h1f).mono ?_
      rintro e x7 ⟨rfl, hb⟩
      replace HB := Lib.hid (HB.out.trans (hb.mono HB.out.size))
      clear hb
      go_wp2
      go_ret
      exact ⟨rfl, HB.out⟩

set_option maxRecDepth 100000 in
theorem walAppend_lifted (os : Os) (started : os.Started) (H : Type) (enc : TypeId × Value → H) :
    ReturnsInHanded {} Try.checked os 3 .any (Rows.walAppendSpec.pre6 enc Try.prog Try.f3 Rows.walAppendRow.domain false) (Rows.walAppendSpec.post enc Try.prog Try.f3 false true false false) := by
  refine law_lifted (C := Try.checked) (B := 4) Try.own started (by kernel_rfl) Try.func3
    (ChangeSpec.witness6 (enc := enc) (C := Try.checked) false ⟨#[], #[.agg #[.int .i64 0, .slice none 0 0, .int .i64 0, .int .i64 0, .int .u32 0, .slice none 0 0]], []⟩ 8 (by kernel_rfl) (by kernel_rfl) (by kernel_rfl) (by kernel_rfl))
    Try.laidOut (by kernel_rfl) rfl rfl rfl Try.underlying4 (fun ds h => match ds, h with | [_], _ => rfl) ?_
  intro W base args ds ps hval hA hlt hsz
  rw [Try.params3] at hA hval hsz
  obtain ⟨v0, vs0, d0, ds0, p0, q0, hargs, rfl, rfl, h0, r0⟩ := trodAll_cons hA
  obtain ⟨rfl, rfl, rfl⟩ := trodAll_nil r0
  obtain rfl : args = #[v0] := by cases args; simp_all
  obtain ⟨X0, rfl, k0⟩ := open_Case (hval 0 25 v0 rfl rfl) h0 (fun x hx => hlt x (by simp [hx]))
  exact walAppend_walk X0 W k0

theorem walAppend_over : Rows.walAppendRow.holds Try.pinned (OpenSpec.ofChange Rows.walAppendSpec) :=
  OpenClaim.holds_of_wide 3 Try.f3 rfl rfl rfl rfl rfl rfl rfl ⟨rfl, rfl, rfl, rfl, rfl⟩ rfl rfl rfl rfl rfl (by kernel_rfl) Try.func3 (by kernel_rfl)
    (of_decide_eq_true (by kernel_rfl)) (by unfold Func.isWrapper; first | (rw [if_pos (by decide +kernel)]; kernel_rfl) | (rw [if_neg (by decide +kernel)]; exact ⟨rfl, rfl⟩))
    (fun os started H enc _ => walAppend_lifted os started H enc)

theorem walAppend_proved : Rows.WalAppendSaid := walAppend_over
end Go.Proofs.Ytgpofkabidginaa
