/- Law WalTorn: for every input the call returns true, and its arguments read afterwards as before. -/
import Derived.Test.YtgpofkabidginaaWcd
import Derived.Test.YtgpofkabidginaaWrl
namespace Go.Proofs.Ytgpofkabidginaa
open Go.ChangeShapes Go.WideShapes Go.ChangeAt Go.RowKit Go.ChangeMaps

set_option maxRecDepth 100000 in
set_option maxHeartbeats 4000000 in
theorem walTorn_walk (x : Cs) (wr0 by0 : Int) (w : World) (h : CsAt w x) (y0 : 0 ≤ wr0) (y1 : wr0 ≤ 255) (z0 : 0 ≤ by0) (z1 : by0 ≤ 255) : Calls Try.prog 6 #[x.v, .int .u8 wr0, .int .u8 by0] w fun e w' => e = .returned (.bool true) ∧ Below w.heap.size w w' := by
  have HC := Lib.hid h
  have hE := h.e
  obtain ⟨hf1, hf2⟩ := h.f
  obtain ⟨hc1, hc2⟩ := h.c
  obtain ⟨sb, hsb⟩ : ∃ b, decide (smallP x) = b := ⟨_, rfl⟩
  have HSM := Lib.hid (fun W (hW : Below w.heap.size w W) => small_any W x (h.below hW) sb hsb)
  have HSB := Lib.hid hsb
  have HDI := Lib.hid (fun W (hW : Below w.heap.size w W) => disks_any W x (h.below hW))
  clear h hsb
  obtain ⟨S, F, C, E, OA, on, oc, OL, RA', rn, rc, RL⟩ := x
  simp only [Cs.v] at *
  have HB := Lib.hid (show Below w.heap.size w (w.alloc (.cells #[.int .i64 S, .slice OA on oc, .int .i64 F, .int .i64 C, .int .u32 (E : Int), .slice RA' rn rc] 25)) from (Below.refl _ w).alloc (Nat.le_refl _) _)
  have HK := Lib.hid (show Blk (w.alloc (.cells #[.int .i64 S, .slice OA on oc, .int .i64 F, .int .i64 C, .int .u32 (E : Int), .slice RA' rn rc] 25)) w.heap.size 25 #[.int .i64 S, .slice OA on oc, .int .i64 F, .int .i64 C, .int .u32 (E : Int), .slice RA' rn rc] from Blk.new _ _ _)
  go_enter Try.func6, Try.ntmps6
  go_wp2_with fail
  refine (awake_any _).mono ?_
  rintro e w1 ⟨rfl, hb⟩
  replace HB := Lib.hid (HB.out.trans (hb.mono HB.out.size))
  replace HK := Lib.hid (HK.out.below hb)
  clear hb
  have k0 : w1.cell? ⟨w.heap.size, 0, none⟩ = some (.int .i64 S) := HK.out.cell 0
  have k1 : w1.cell? ⟨w.heap.size, 1, none⟩ = some (.slice OA on oc) := HK.out.cell 1
  have k2 : w1.cell? ⟨w.heap.size, 2, none⟩ = some (.int .i64 F) := HK.out.cell 2
  have k3 : w1.cell? ⟨w.heap.size, 3, none⟩ = some (.int .i64 C) := HK.out.cell 3
  have k4 : w1.cell? ⟨w.heap.size, 4, none⟩ = some (.int .u32 (E : Int)) := HK.out.cell 4
  have k5 : w1.cell? ⟨w.heap.size, 5, none⟩ = some (.slice RA' rn rc) := HK.out.cell 5
  go_wp2_with fail
  refine (HSM.out _ HB.out).mono ?_
  rintro e w2 ⟨rfl, hb⟩
  replace HB := Lib.hid (HB.out.trans (hb.mono HB.out.size))
  replace HK := Lib.hid (HK.out.below hb)
  clear hb
  clear k0 k1 k2 k3 k4 k5
  cases sb
  · go_wp2_with fail
    refine (awake_any _).mono ?_
    rintro e w3 ⟨rfl, hb⟩
    replace HB := Lib.hid (HB.out.trans (hb.mono HB.out.size))
    clear hb
    go_wp2
    go_ret
    exact ⟨rfl, HB.out⟩
  have hsm : smallP _ := of_decide_eq_true HSB.out
  obtain ⟨s1, s2, s3, s4, s5⟩ := hsm
  simp only at s1 s2 s3 s4 s5
  obtain ⟨N, rfl⟩ : ∃ N : Nat, S = (N : Int) := ⟨S.toNat, by omega⟩
  have hN1 : 1 ≤ N := by omega
  have hN : N ≤ 12 := by omega
  have hon : on ≤ N := by omega
  have HRL := Lib.hid s5
  clear s5 HSB s1 s2 s3
  have k0 : w2.cell? ⟨w.heap.size, 0, none⟩ = some (.int .i64 (N : Int)) := HK.out.cell 0
  have k1 : w2.cell? ⟨w.heap.size, 1, none⟩ = some (.slice OA on oc) := HK.out.cell 1
  have k2 : w2.cell? ⟨w.heap.size, 2, none⟩ = some (.int .i64 F) := HK.out.cell 2
  have k3 : w2.cell? ⟨w.heap.size, 3, none⟩ = some (.int .i64 C) := HK.out.cell 3
  have k4 : w2.cell? ⟨w.heap.size, 4, none⟩ = some (.int .u32 (E : Int)) := HK.out.cell 4
  have k5 : w2.cell? ⟨w.heap.size, 5, none⟩ = some (.slice RA' rn rc) := HK.out.cell 5
  have hwl : w.heap.size < w2.heap.size := HK.out.lt
  have HDI := Lib.hid (HDI.out w2 HB.out N rfl hN1 hN hon)
  go_wp2_with fail
  refine HDI.out.mono ?_
  rintro e w3 ⟨p, q, r, t, s, rfl, hM, hRN, hsf, hsa, hsx, hFF, hb⟩
  have HM := Lib.hid hM
  have HF := Lib.hid (show ∀ k, F4 p q r t k → w.heap.size < k from fun k hk => Nat.lt_of_lt_of_le hwl (hFF k hk))
  replace HB := Lib.hid (HB.out.trans (hb.mono HB.out.size))
  replace HK := Lib.hid (HK.out.below hb)
  have HRN := Lib.hid hRN
  have hwl3 : w.heap.size < w3.heap.size := HK.out.lt
  clear hb hM hFF HDI hwl hRN
  clear k0 k1 k2 k3 k4 k5
  have k0 : w3.cell? ⟨w.heap.size, 0, none⟩ = some (.int .i64 (N : Int)) := HK.out.cell 0
  have k1 : w3.cell? ⟨w.heap.size, 1, none⟩ = some (.slice OA on oc) := HK.out.cell 1
  have k2 : w3.cell? ⟨w.heap.size, 2, none⟩ = some (.int .i64 F) := HK.out.cell 2
  have k3 : w3.cell? ⟨w.heap.size, 3, none⟩ = some (.int .i64 C) := HK.out.cell 3
  have k4 : w3.cell? ⟨w.heap.size, 4, none⟩ = some (.int .u32 (E : Int)) := HK.out.cell 4
  have k5 : w3.cell? ⟨w.heap.size, 5, none⟩ = some (.slice RA' rn rc) := HK.out.cell 5
  have hlt3 := DM.lt HM.out.d HM.out.rk
  go_wp2_with fail
  refine (free14_any _ w3 _ (HC.out.below HB.out) r t s HM.out.rk (by rw [HRN.out]) (by rw [HRN.out]; exact hN)).mono ?_
  rintro e w4 ⟨fb, rfl, hfp, -, hb⟩
  have HM4 := Lib.hid (HM.out.below hb)
  replace HB := Lib.hid (HB.out.trans (hb.mono HB.out.size))
  replace HK := Lib.hid (HK.out.below hb)
  have hs34 := hb.size
  clear hb HM
  cases fb
  · go_wp2
    go_ret
    exact ⟨rfl, HB.out⟩
  have hfp := hfp rfl
  obtain ⟨hmb, hfe⟩ := hfp
  simp only at hmb hfe
  have hv := mayB_of hmb
  rw [HRN.out] at hv
  obtain ⟨v1, v2, v3, v4, v5⟩ := hv
  obtain ⟨f, rfl⟩ : ∃ f : Nat, F = (f : Int) := ⟨F.toNat, by omega⟩
  obtain ⟨c, rfl⟩ : ∃ c : Nat, C = (c : Int) := ⟨C.toNat, by omega⟩
  have HMB := Lib.hid hmb
  have HFE := Lib.hid hfe
  clear hmb hfe
  clear k0 k1 k2 k3 k4 k5
  have k0 : w4.cell? ⟨w.heap.size, 0, none⟩ = some (.int .i64 (N : Int)) := HK.out.cell 0
  have k1 : w4.cell? ⟨w.heap.size, 1, none⟩ = some (.slice OA on oc) := HK.out.cell 1
  have k2 : w4.cell? ⟨w.heap.size, 2, none⟩ = some (.int .i64 (f : Int)) := HK.out.cell 2
  have k3 : w4.cell? ⟨w.heap.size, 3, none⟩ = some (.int .i64 (c : Int)) := HK.out.cell 3
  have k4 : w4.cell? ⟨w.heap.size, 4, none⟩ = some (.int .u32 (E : Int)) := HK.out.cell 4
  have k5 : w4.cell? ⟨w.heap.size, 5, none⟩ = some (.slice RA' rn rc) := HK.out.cell 5
  go_wp2_with fail
  refine (NewL_ok w4 p q s HM4.out.d f c E HMB.out).mono ?_
  rintro e w5 ⟨rfl, hl, hb⟩
  have HLF := Lib.hid hl
  have HM5 := Lib.hid (HM4.out.below hb)
  replace HB := Lib.hid (HB.out.trans (hb.mono HB.out.size))
  replace HK := Lib.hid (HK.out.below hb)
  have hlt := DM.lt HM4.out.d HM4.out.rk
  have hgl : w4.heap.size < w5.heap.size := by obtain ⟨A, cap, hk, -⟩ := hl (fun _ => False); exact hk.lt
  have hg4 : ¬ F4 p q r t w4.heap.size := fun h => by have := hlt _ h; omega
  have hg0 : w.heap.size < w4.heap.size := by omega
  have HB45 := Lib.hid hb
  clear hl hb hlt
  clear k0 k1 k2 k3 k4 k5
  have k0 : w5.cell? ⟨w.heap.size, 0, none⟩ = some (.int .i64 (N : Int)) := HK.out.cell 0
  have k1 : w5.cell? ⟨w.heap.size, 1, none⟩ = some (.slice OA on oc) := HK.out.cell 1
  have k2 : w5.cell? ⟨w.heap.size, 2, none⟩ = some (.int .i64 (f : Int)) := HK.out.cell 2
  have k3 : w5.cell? ⟨w.heap.size, 3, none⟩ = some (.int .i64 (c : Int)) := HK.out.cell 3
  have k4 : w5.cell? ⟨w.heap.size, 4, none⟩ = some (.int .u32 (E : Int)) := HK.out.cell 4
  have k5 : w5.cell? ⟨w.heap.size, 5, none⟩ = some (.slice RA' rn rc) := HK.out.cell 5
  go_wp2_with fail
  refine (NewR_any w5 r f c E).mono ?_
  rintro e w6 ⟨rfl, hrg, hb⟩
  have HM6 := Lib.hid (HM5.out.below hb)
  have hl6 := fun F' => (HLF.out F').below hb
  replace HB := Lib.hid (HB.out.trans (hb.mono HB.out.size))
  replace HK := Lib.hid (HK.out.below hb)
  have hlt := DM.lt HM5.out.d HM5.out.rk
  have hml : w5.heap.size < w6.heap.size := (hrg 0).1.lt
  have hm4 : ¬ F4 p q r t w5.heap.size := fun h => by have := hlt _ h; omega
  have hgm : w4.heap.size ≠ w5.heap.size := by omega
  have HRK6 := Lib.hid (show Rk (FO (F6 p q r t w4.heap.size w5.heap.size) (.slice none 0 0)) w6 r t s from HM4.out.rk.re (G := fun _ => False) (Chg.of_below (HB45.out.trans (hb.mono HB45.out.size))) (fun _ e => e.elim) (fun e => e) (fun e => e) (fun k hk hf hf2 => by
    have h45 := HB45.out.size
    rcases hf2 with (h | h | h) | h
    · exact hf h
    · omega
    · omega
    · simp [Value.ownBlock] at h))
  have hb56 := hb.size
  obtain ⟨B, hBB⟩ : ∃ x, w6.heap.size = x := ⟨_, rfl⟩
  have HRG := Lib.hid (hrg B)
  clear hrg hb
  have hm0 : w.heap.size < w5.heap.size := by omega
  have hmB : w5.heap.size < B := by omega
  have hgB : w4.heap.size < B := by omega
  have hFB : ∀ k, F4 p q r t k → k < B := fun k hk => by have := hlt k hk; omega
  clear hlt
  clear HB45 HM4
  generalize w4.heap.size = g at *
  generalize w5.heap.size = m at *
  have HFB6 := Lib.hid (show ∀ k, F6 p q r t g m k → k < B from fun k hk => by
    rcases hk with h | h | h
    · exact hFB k h
    · omega
    · omega)
  have HF0 := Lib.hid (show ∀ k, FS p q r t g m B k → w.heap.size < k from fun k hk => by
    rcases hk with (h | h | h) | h
    · exact HF.out k h
    · omega
    · omega
    · omega)
  have HPM := Lib.hid (show PM w6 B p q r t g m f c E 0 [] (.slice none 0 0) s s from ⟨HM6.out.d, HRK6.out, hl6 _, HFB6.out, by rw [hBB]; exact Nat.le_refl _, fun j hj => by simp [Value.ownBlock] at hj, HM6.out.ne, ⟨hg4, hgm⟩, hm4⟩)
  clear hl6
  have HRW := Lib.hid (show RA (fun k => w.heap.size ≤ k) w RA' rn RL from HC.out.rl.weak (fun k hk _ => by omega))
  obtain ⟨av, hav⟩ : ∃ x : Nat, wr0 % 24 + 1 = (x : Int) := ⟨(wr0 % 24 + 1).toNat, by omega⟩
  obtain ⟨bv, hbv⟩ : ∃ x : Nat, by0 % 65 = (x : Int) := ⟨(by0 % 65).toNat, by omega⟩
  have hav1 : 1 ≤ av ∧ av ≤ 24 := by omega
  have hbv1 : bv ≤ 64 := by omega
  have HRNS := Lib.hid HRN.out
  have HAV := Lib.hid hav
  have HBV := Lib.hid hbv
  have hAr : s.Ar (wr0 % 24 + 1) (by0 % 65) = { s with a := av, b := bv } := by
    unfold St.Ar
    rw [if_neg (by rw [hsf]; decide), hav, hbv]
    simp only [Int.toNat_natCast]
    rw [Nat.min_eq_left hbv1]
  clear hav hbv
  go_wp2_with fail
  refine (Arm_any w6 p q s HPM.out.d (wr0 % 24 + 1) (by0 % 65) (by omega)).mono ?_
  rintro e w7 ⟨rfl, hd7, hc7⟩
  rw [hAr] at hd7
  have HD7 := Lib.hid hd7
  have hc7' : Chg (F4 p q r t) w6 w7 := hc7.mono (fun _ => F4_pq)
  have HR7 := Lib.hid (HPM.out.rk.chg hc7 (fun k hk => .inl (.inl (F4_pq hk))) (fun e => by rcases e with e | e; (· exact HM6.out.ne.1 e); exact HM6.out.ne.2.1 e) (fun e => by rcases e with e | e; (· exact HM6.out.ne.2.2.1 e); exact HM6.out.ne.2.2.2 e))
  have HL7 := Lib.hid (HPM.out.l.chg hc7 (fun k hk => .inl (.inl (F4_pq hk))) (fun e => hg4 (F4_pq e)))
  have HG7 := Lib.hid (HRG.out.chg hc7 (fun j hj => by simp [Value.ownBlock] at hj) (fun e => hm4 (F4_pq e)))
  replace HB := Lib.hid (hc7'.below HB.out (fun k hk => Nat.le_of_lt (HF.out k hk)) HB.out.size)
  replace HK := Lib.hid (HK.out.chg hc7' (fun e => by have := HF.out _ e; omega))
  have hs67 := hc7.size
  clear hd7 hc7 hc7'
  go_wp2_with fail
  refine (RArm_any _ w7 r t s HR7.out (.inl (.inl (.inr (.inr (.inl rfl))))) (wr0 % 24 + 1) (by0 % 65) (by omega)).mono ?_
  rintro e w8 ⟨rfl, hr8, hc8⟩
  rw [hAr] at hr8
  have hc8' : Chg (F4 p q r t) w7 w8 := hc8.mono (fun _ => F4_rt)
  replace HB := Lib.hid (hc8'.below HB.out (fun k hk => Nat.le_of_lt (HF.out k hk)) HB.out.size)
  replace HK := Lib.hid (HK.out.chg hc8' (fun e => by have := HF.out _ e; omega))
  have HG8 := Lib.hid (HG7.out.chg hc8 (fun j hj => by simp [Value.ownBlock] at hj) (fun e => hm4 (F4_rt e)))
  obtain ⟨s0, hs0⟩ : ∃ x : St, ({ s with a := av, b := bv } : St) = x := ⟨_, rfl⟩
  have HPM8 := Lib.hid (show PM w8 B p q r t g m f c E 0 [] (.slice none 0 0) s0 s0 from ⟨by rw [← hs0]; exact HD7.out.rt HM6.out.ne hc8, by rw [← hs0]; exact hr8, HL7.out.chg hc8 (fun k hk => .inl (.inl (F4_rt hk))) (fun e => hg4 (F4_rt e)), HFB6.out, by have := hc8.size; omega, fun j hj => by simp [Value.ownBlock] at hj, HM6.out.ne, ⟨hg4, hgm⟩, hm4⟩)
  have hs0f : s0.f = false := by rw [← hs0]; exact hsf
  have hs0R : s0.R.length = N := by rw [← hs0]; exact HRN.out
  have hs0x : s0.x ≤ 12 := by rw [← hs0]; exact hsx
  clear hr8 hc8 hc8' HG7 HL7 HR7 HD7 HPM HRG HM6 hAr hs0 hsf hsa hsx HRN
  have HNE := Lib.hid HPM8.out.ne
  have HMB2 := Lib.hid (show mayB (N : Int) (f : Int) (c : Int) (E : Int) = true from by have := HMB.out; rw [HRNS.out] at this; exact this)
  clear k0 k1 k2 k3 k4 k5
  have k0 : w8.cell? ⟨w.heap.size, 0, none⟩ = some (.int .i64 (N : Int)) := HK.out.cell 0
  have k1 : w8.cell? ⟨w.heap.size, 1, none⟩ = some (.slice OA on oc) := HK.out.cell 1
  have k2 : w8.cell? ⟨w.heap.size, 2, none⟩ = some (.int .i64 (f : Int)) := HK.out.cell 2
  have k3 : w8.cell? ⟨w.heap.size, 3, none⟩ = some (.int .i64 (c : Int)) := HK.out.cell 3
  have k4 : w8.cell? ⟨w.heap.size, 4, none⟩ = some (.int .u32 (E : Int)) := HK.out.cell 4
  have k5 : w8.cell? ⟨w.heap.size, 5, none⟩ = some (.slice RA' rn rc) := HK.out.cell 5
  go_wp2_with fail
  go_loopw [81] (fun iv wr => ∃ (i k : Nat) (S : List UInt8) (v : Value) (s1 : St), iv = .int .i64 (i : Int) ∧ i ≤ rn ∧ PM wr B p q r t g m f c E k S v s1 s1 ∧ Rg B wr m r f c E k S v ∧ k ≤ i ∧ S.length ≤ 59 * c ∧ s1.f = false ∧ s1.R.length = N ∧ s1.x ≤ 12 + 500 * i ∧ Below w.heap.size w wr ∧ Blk wr w.heap.size 25 #[.int .i64 (N : Int), .slice OA on oc, .int .i64 (f : Int), .int .i64 (c : Int), .int .u32 (E : Int), .slice RA' rn rc]) (fun iv _ => rn - (intOf iv).toNat)
  case atStart => exact ⟨0, 0, [], .slice none 0 0, s0, rfl, Nat.zero_le _, HPM8.out, HG8.out, Nat.le_refl _, by simp, hs0f, hs0R, by omega, HB.out, HK.out⟩
  case round =>
    clear HPM8 HG8 HB HK
    clear k0 k1 k2 k3 k4 k5
    obtain ⟨i, k, S, v, s1, rfl, hir, hpm, hrg, hki, hS, h1f, h1R, h1x, hB, hK⟩ := hrel
    have HP := Lib.hid hpm
    have HG := Lib.hid hrg
    have HB := Lib.hid hB
    have HK := Lib.hid hK
    clear hpm hrg hB hK
    by_cases hlt : i < rn
    · have hil : (i : Int) < (rn : Int) := by omega
      obtain ⟨ob, off, rfl, hbl, -, hcc⟩ := HRW.out.2.1 (by omega)
      have hk2 : i < RL.length := by rw [HRW.out.1]; exact hlt
      obtain ⟨y, hy⟩ : ∃ y, RL[i] = y := ⟨_, rfl⟩
      have q1 := hcc i hk2
      rw [hy] at q1
      have q1 : wr.cell? ⟨ob, off + i, none⟩ = some (.slice y.A y.n y.c) := keepcell HB.out q1
      have hyk := HRW.out.2.2 y (hy ▸ List.getElem_mem _)
      have hy4 : y.n ≤ 400 := HRL.out y (hy ▸ List.getElem_mem _)
      obtain ⟨hyb, hyc, hyc2⟩ := hyk
      clear hcc hy
      obtain ⟨yA, yn, yc, yl⟩ := y
      simp only at q1 hyb hyc hyc2 hy4
      have HYB := Lib.hid hyb
      have hyl : yl.length = yn := hyb.1
      have HYL := Lib.hid hyl
      clear hyb hyl
      have hfr : f + c ≤ s1.R.length := by omega
      have HAF := Lib.hid (app_facts (f := f) (c := c) (e := E) (k := k) (S := S) (s := s1) (b := yl) hfr hS h1f)
      have HRS := Lib.hid (ref_step wr B p q r t g m f c E k S v s1 HP.out HG.out hE (by omega) (by omega) hS (by omega) (by omega) hfr yA yn yc yl ((HYB.out.below HB.out).mono (fun k hk => by omega)) hy4 hyc hyc2)
      have HPS := Lib.hid (fun W v' (hh : PM W B p q r t g m f c E k S v' s1 ((lgOf f c E k S).app s1 yl).2.1) (hW : Below w.heap.size w W) => prog_step W B p q r t g m f c E k S v' s1 h1f yl hh hE (by omega) (by omega) hS (by omega) (by omega) hfr yA yn yc ((HYB.out.below hW).mono (fun k hk => by omega)) ((HYB.out.below hW).mono (fun k hk => by
        rcases hk with hk | hk
        · exact Nat.le_of_lt (HF0.out k (.inl hk))
        · have := (hh.v k hk).1; omega)) hy4 hyc hyc2)
      obtain ⟨r1, hr1⟩ : ∃ x, (lgOf f c E k S).app s1 yl = x := ⟨_, rfl⟩
      rw [hr1] at HAF HRS HPS
      obtain ⟨l2, s2, cd⟩ := r1
      simp only at HAF HRS HPS
      clear hr1
      go_wp2_with fail
      refine HRS.out.mono ?_
      rintro e wa ⟨v', rfl, hpa, hga, hga6, hca⟩
      have hba := hca.below HB.out (fun k hk => Nat.le_of_lt (HF0.out k hk)) HB.out.size
      have HBa := Lib.hid hba
      have HKa := Lib.hid (HK.out.chg hca (fun e => by have := HF0.out _ e; omega))
      have HPA := Lib.hid hpa
      have HGA := Lib.hid hga
      have HGA6 := Lib.hid hga6
      have HP1 := Lib.hid (HPS.out wa v' hpa hba)
      clear hpa hga hga6 hca hba HRS HPS HP HG HB HK
      go_wp2_with fail
      refine HP1.out.mono ?_
      rintro e wb ⟨rfl, hdb, hrb, hp0, hp16, hcb⟩
      have HDX := Lib.hid hdb
      have HRX := Lib.hid hrb
      have hcb' : Chg (FS p q r t g m B) wa wb := hcb.mono (fun k hk => by
        rcases hk with h | h | h
        · exact .inl (.inl (.inl h))
        · exact .inl (.inl (.inr (.inl h)))
        · exact .inl (.inr (.inl h)))
      have HB := Lib.hid (hcb'.below HBa.out (fun k hk => Nat.le_of_lt (HF0.out k hk)) HBa.out.size)
      have HK := Lib.hid (HKa.out.chg hcb' (fun e => by have := HF0.out _ e; omega))
      have hmg : ¬ G3 p q g m := fun h => by
        rcases h with h | h | h
        · exact hm4 (by rw [h]; exact .inl rfl)
        · exact hm4 (by rw [h]; exact .inr (.inl rfl))
        · exact hgm h.symm
      have hvg : ∀ j, v'.ownBlock = some j → ¬ G3 p q g j := fun j hj h => HPA.out.own j hj (by
        rcases h with h | h | h
        · exact .inl (.inl h)
        · exact .inl (.inr (.inl h))
        · exact .inr (.inl h))
      obtain ⟨h2R, h2x, hcases⟩ := HAF.out
      rcases hcases with ⟨rfl, h2f, h2S, -⟩ | ⟨h16, h2e⟩ | rfl
      · have HPM := Lib.hid (hp0 rfl)
        have HG := Lib.hid ((HGA.out rfl).chg hcb hvg hmg)
        clear hp0 hp16 hcb hcb' hdb hrb HAF HPA HGA HGA6 HP1 HBa HKa
        go_wp2
        go_roundw
        case rel => exact ⟨i + 1, k + 1, S ++ nb4 yl.length ++ yl, v', s2, by go_num, by omega, HPM.out, HG.out, by omega, by rw [List.length_append, List.length_append, nb4_len]; omega, h2f, by omega, by have := HYL.out; omega, HB.out, HK.out⟩
        case measure => simp [intOf]; omega
      · subst h16
        have HPM := Lib.hid (hp16 rfl)
        have HG := Lib.hid ((HGA6.out rfl).chg hcb hvg hmg)
        clear hp0 hp16 hcb hcb' hdb hrb HAF HPA HGA HGA6 HP1 HBa HKa
        go_wp2
        go_roundw
        case rel => exact ⟨i + 1, k, S, v', s1, by go_num, by omega, HPM.out, HG.out, by omega, hS, h1f, h1R, by omega, HB.out, HK.out⟩
        case measure => simp [intOf]; omega
      · have HRX2 := Lib.hid (show s2.R.length = N by omega)
        clear hp0 hp16 hcb hcb' hdb hrb HAF HPA HGA HGA6 HP1 HBa HKa
        go_wp2_with fail
        refine (Restart_any wb p q s2 HDX.out).mono ?_
        rintro e x1 ⟨rfl, hd, hcg⟩
        have hcg' : Chg (F4 p q r t) wb x1 := hcg.mono (fun _ => F4_pq)
        replace HDX := Lib.hid hd
        replace HRX := Lib.hid (HRX.out.chg hcg (fun k hk => .inl (.inl (F4_pq hk))) (fun e => by rcases e with e | e; (· exact HNE.out.1 e); exact HNE.out.2.1 e) (fun e => by rcases e with e | e; (· exact HNE.out.2.2.1 e); exact HNE.out.2.2.2 e))
        replace HB := Lib.hid (hcg'.below HB.out (fun k hk => Nat.le_of_lt (HF.out k hk)) HB.out.size)
        replace HK := Lib.hid (HK.out.chg hcg' (fun e => by have := HF.out _ e; omega))
        clear hd hcg hcg'
        go_wp2_with fail
        refine (RRestart_any _ x1 r t s2 HRX.out (.inl (.inl (.inr (.inr (.inl rfl)))))).mono ?_
        rintro e x2 ⟨rfl, hr, hcg⟩
        have hcg' : Chg (F4 p q r t) x1 x2 := hcg.mono (fun _ => F4_rt)
        replace HDX := Lib.hid (HDX.out.rt HNE.out hcg)
        replace HRX := Lib.hid hr
        replace HB := Lib.hid (hcg'.below HB.out (fun k hk => Nat.le_of_lt (HF.out k hk)) HB.out.size)
        replace HK := Lib.hid (HK.out.chg hcg' (fun e => by have := HF.out _ e; omega))
        clear hr hcg hcg'
        have k2 : x2.cell? ⟨w.heap.size, 2, none⟩ = some (.int .i64 (f : Int)) := HK.out.cell 2
        have k3 : x2.cell? ⟨w.heap.size, 3, none⟩ = some (.int .i64 (c : Int)) := HK.out.cell 3
        have k4 : x2.cell? ⟨w.heap.size, 4, none⟩ = some (.int .u32 (E : Int)) := HK.out.cell 4
        have hRe : s2.Re.R.length = N := HRX2.out
        go_wp2_with fail
        refine (Scan_ok (fun _ => False) x2 (fun _ e => e.elim) p q s2.Re HDX.out rfl f c E (by rw [hRe]; exact HMB2.out) hE).mono ?_
        rintro e x3 ⟨v9, L9, rfl, hL, hl, hb⟩
        replace HDX := Lib.hid (HDX.out.below hb)
        replace HRX := Lib.hid (HRX.out.below hb)
        replace HB := Lib.hid (HB.out.trans (hb.mono HB.out.size))
        replace HK := Lib.hid (HK.out.below hb)
        obtain ⟨A1, c1, rfl, hra⟩ := hL.ra
        have HA := Lib.hid hra
        have HL1 := Lib.hid hl
        clear hL hl hb hra
        clear k2 k3 k4
        go_wp2_with fail
        refine (same_any x3 p q r t s2.Re _ HDX.out HRX.out rfl).mono ?_
        rintro e x4 ⟨rfl, hb⟩
        replace HRX := Lib.hid (HRX.out.below hb)
        replace HB := Lib.hid (HB.out.trans (hb.mono HB.out.size))
        replace HK := Lib.hid (HK.out.below hb)
        replace HA := Lib.hid (HA.out.below hb)
        clear hb
        have k2 : x4.cell? ⟨w.heap.size, 2, none⟩ = some (.int .i64 (f : Int)) := HK.out.cell 2
        have k3 : x4.cell? ⟨w.heap.size, 3, none⟩ = some (.int .i64 (c : Int)) := HK.out.cell 3
        have k4 : x4.cell? ⟨w.heap.size, 4, none⟩ = some (.int .u32 (E : Int)) := HK.out.cell 4
        have HRS := Lib.hid (RScan_any (fun _ => False) x4 (fun _ e => e.elim) r t s2.Re (HRX.out.re (G := fun _ => False) (Chg.refl _ _) (fun _ e => e.elim) (fun e => e) (fun e => e) (fun _ _ _ e => e)) f c E (by rw [hRe]; omega) hE (by
          refine Nat.le_trans (stream_len _ _) ?_
          rw [List.length_take, List.length_drop]
          omega))
        go_wp2_with fail
        refine HRS.out.mono ?_
        rintro e x5 ⟨v9, L2, rfl, hL, hl, hb⟩
        replace HB := Lib.hid (HB.out.trans (hb.mono HB.out.size))
        replace HA := Lib.hid (HA.out.below hb)
        obtain ⟨A2, c2, rfl, hra⟩ := hL.ra
        have HA2 := Lib.hid hra
        have HL2 := Lib.hid hl
        have hn1 : L9.length ≤ 100000000 := recs_len HL1.out (by
          refine Nat.le_trans (stream_len _ _) ?_
          rw [List.length_take, List.length_drop]
          omega)
        have hn2 : L2.length ≤ 100000000 := recs_len HL2.out (by
          refine Nat.le_trans (stream_len _ _) ?_
          rw [List.length_take, List.length_drop]
          omega)
        clear hL hl hb hra HRS
        go_wp2_with fail
        refine (equal_any x5 _ _ _ _ _ _ L9 L2 HA.out HA2.out hn1 hn2 true (by rw [HL1.out, HL2.out]; simp)).mono ?_
        rintro e x6 ⟨rfl, hb⟩
        replace HB := Lib.hid (HB.out.trans (hb.mono HB.out.size))
        clear hb
        go_wp2
        go_ret
        exact ⟨rfl, HB.out⟩
    · obtain rfl : i = rn := by omega
      have HDX := Lib.hid HP.out.d
      have HRX := Lib.hid HP.out.rk
      have HRX2 := Lib.hid h1R
      clear HP HG
      go_wp2_with fail
      refine (Restart_any wr p q s1 HDX.out).mono ?_
      rintro e x1 ⟨rfl, hd, hcg⟩
      have hcg' : Chg (F4 p q r t) wr x1 := hcg.mono (fun _ => F4_pq)
      replace HDX := Lib.hid hd
      replace HRX := Lib.hid (HRX.out.chg hcg (fun k hk => .inl (.inl (F4_pq hk))) (fun e => by rcases e with e | e; (· exact HNE.out.1 e); exact HNE.out.2.1 e) (fun e => by rcases e with e | e; (· exact HNE.out.2.2.1 e); exact HNE.out.2.2.2 e))
      replace HB := Lib.hid (hcg'.below HB.out (fun k hk => Nat.le_of_lt (HF.out k hk)) HB.out.size)
      replace HK := Lib.hid (HK.out.chg hcg' (fun e => by have := HF.out _ e; omega))
      clear hd hcg hcg'
      go_wp2_with fail
      refine (RRestart_any _ x1 r t s1 HRX.out (.inl (.inl (.inr (.inr (.inl rfl)))))).mono ?_
      rintro e x2 ⟨rfl, hr, hcg⟩
      have hcg' : Chg (F4 p q r t) x1 x2 := hcg.mono (fun _ => F4_rt)
      replace HDX := Lib.hid (HDX.out.rt HNE.out hcg)
      replace HRX := Lib.hid hr
      replace HB := Lib.hid (hcg'.below HB.out (fun k hk => Nat.le_of_lt (HF.out k hk)) HB.out.size)
      replace HK := Lib.hid (HK.out.chg hcg' (fun e => by have := HF.out _ e; omega))
      clear hr hcg hcg'
      have k2 : x2.cell? ⟨w.heap.size, 2, none⟩ = some (.int .i64 (f : Int)) := HK.out.cell 2
      have k3 : x2.cell? ⟨w.heap.size, 3, none⟩ = some (.int .i64 (c : Int)) := HK.out.cell 3
      have k4 : x2.cell? ⟨w.heap.size, 4, none⟩ = some (.int .u32 (E : Int)) := HK.out.cell 4
      have hRe : s1.Re.R.length = N := HRX2.out
      go_wp2_with fail
      refine (Scan_ok (fun _ => False) x2 (fun _ e => e.elim) p q s1.Re HDX.out rfl f c E (by rw [hRe]; exact HMB2.out) hE).mono ?_
      rintro e x3 ⟨v9, L9, rfl, hL, hl, hb⟩
      replace HDX := Lib.hid (HDX.out.below hb)
      replace HRX := Lib.hid (HRX.out.below hb)
      replace HB := Lib.hid (HB.out.trans (hb.mono HB.out.size))
      replace HK := Lib.hid (HK.out.below hb)
      obtain ⟨A1, c1, rfl, hra⟩ := hL.ra
      have HA := Lib.hid hra
      have HL1 := Lib.hid hl
      clear hL hl hb hra
      clear k2 k3 k4
      go_wp2_with fail
      refine (same_any x3 p q r t s1.Re _ HDX.out HRX.out rfl).mono ?_
      rintro e x4 ⟨rfl, hb⟩
      replace HRX := Lib.hid (HRX.out.below hb)
      replace HB := Lib.hid (HB.out.trans (hb.mono HB.out.size))
      replace HK := Lib.hid (HK.out.below hb)
      replace HA := Lib.hid (HA.out.below hb)
      clear hb
      have k2 : x4.cell? ⟨w.heap.size, 2, none⟩ = some (.int .i64 (f : Int)) := HK.out.cell 2
      have k3 : x4.cell? ⟨w.heap.size, 3, none⟩ = some (.int .i64 (c : Int)) := HK.out.cell 3
      have k4 : x4.cell? ⟨w.heap.size, 4, none⟩ = some (.int .u32 (E : Int)) := HK.out.cell 4
      have HRS := Lib.hid (RScan_any (fun _ => False) x4 (fun _ e => e.elim) r t s1.Re (HRX.out.re (G := fun _ => False) (Chg.refl _ _) (fun _ e => e.elim) (fun e => e) (fun e => e) (fun _ _ _ e => e)) f c E (by rw [hRe]; omega) hE (by
        refine Nat.le_trans (stream_len _ _) ?_
        rw [List.length_take, List.length_drop]
        omega))
      go_wp2_with fail
      refine HRS.out.mono ?_
      rintro e x5 ⟨v9, L2, rfl, hL, hl, hb⟩
      replace HB := Lib.hid (HB.out.trans (hb.mono HB.out.size))
      replace HA := Lib.hid (HA.out.below hb)
      obtain ⟨A2, c2, rfl, hra⟩ := hL.ra
      have HA2 := Lib.hid hra
      have HL2 := Lib.hid hl
      have hn1 : L9.length ≤ 100000000 := recs_len HL1.out (by
        refine Nat.le_trans (stream_len _ _) ?_
        rw [List.length_take, List.length_drop]
        omega)
      have hn2 : L2.length ≤ 100000000 := recs_len HL2.out (by
        refine Nat.le_trans (stream_len _ _) ?_
        rw [List.length_take, List.length_drop]
        omega)
      clear hL hl hb hra HRS
      go_wp2_with fail
      refine (equal_any x5 _ _ _ _ _ _ L9 L2 HA.out HA2.out hn1 hn2 true (by rw [HL1.out, HL2.out]; simp)).mono ?_
      rintro e x6 ⟨rfl, hb⟩
      replace HB := Lib.hid (HB.out.trans (hb.mono HB.out.size))
      clear hb
      go_wp2
      go_ret
      exact ⟨rfl, HB.out⟩

set_option maxRecDepth 100000 in
theorem walTorn_lifted (os : Os) (started : os.Started) (H : Type) (enc : TypeId × Value → H) :
    ReturnsInHanded {} Try.checked os 6 .any (Rows.walTornSpec.pre6 enc Try.prog Try.f6 Rows.walTornRow.domain false) (Rows.walTornSpec.post enc Try.prog Try.f6 false true false false) := by
  refine law_lifted (C := Try.checked) (B := 4) Try.own started (by kernel_rfl) Try.func6
    (ChangeSpec.witness6 (enc := enc) (C := Try.checked) false ⟨#[], #[.agg #[.int .i64 0, .slice none 0 0, .int .i64 0, .int .i64 0, .int .u32 0, .slice none 0 0], .int .u8 0, .int .u8 0], []⟩ 8 (by kernel_rfl) (by kernel_rfl) (by kernel_rfl) (by kernel_rfl))
    Try.laidOut (by kernel_rfl) rfl rfl rfl Try.underlying4 (fun ds h => match ds, h with | [_, _, _], _ => rfl) ?_
  intro W base args ds ps hval hA hlt hsz
  rw [Try.params6] at hA hval hsz
  obtain ⟨v0, vs0, d0, ds0, p0, q0, hargs, rfl, rfl, h0, r0⟩ := trodAll_cons hA
  obtain ⟨v1, vs1, d1, ds1, p1, q1, rfl, rfl, rfl, h1, r1⟩ := trodAll_cons r0
  obtain ⟨v2, vs2, d2, ds2, p2, q2, rfl, rfl, rfl, h2, r2⟩ := trodAll_cons r1
  obtain ⟨rfl, rfl, rfl⟩ := trodAll_nil r2
  obtain rfl : args = #[v0, v1, v2] := by cases args; simp_all
  obtain ⟨X0, rfl, k0⟩ := open_Case (hval 0 25 v0 rfl rfl) h0 (fun x hx => hlt x (by simp [hx]))
  obtain ⟨a1, rfl, rfl, rfl, w1⟩ := open_int Try.underlying5 (hval 1 5 v1 rfl rfl) h1
  obtain ⟨l1, g1⟩ := u8_bd w1
  obtain ⟨a2, rfl, rfl, rfl, w2⟩ := open_int Try.underlying5 (hval 2 5 v2 rfl rfl) h2
  obtain ⟨l2, g2⟩ := u8_bd w2
  exact walTorn_walk X0 a1 a2 W k0 l1 g1 l2 g2

theorem walTorn_over : Rows.walTornRow.holds Try.pinned (OpenSpec.ofChange Rows.walTornSpec) :=
  OpenClaim.holds_of_wide 6 Try.f6 rfl rfl rfl rfl rfl rfl rfl ⟨rfl, rfl, rfl, rfl, rfl⟩ rfl rfl rfl rfl rfl (by kernel_rfl) Try.func6 (by kernel_rfl)
    (of_decide_eq_true (by kernel_rfl)) (by unfold Func.isWrapper; first | (rw [if_pos (by decide +kernel)]; kernel_rfl) | (rw [if_neg (by decide +kernel)]; exact ⟨rfl, rfl⟩))
    (fun os started H enc _ => walTorn_lifted os started H enc)

theorem walTorn_proved : Rows.WalTornSaid := walTorn_over
end Go.Proofs.Ytgpofkabidginaa
