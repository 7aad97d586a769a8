/- Law WalFresh: for every input the call returns true, and its arguments read afterwards as before. -/
import Derived.Test.YtgpofkabidginaaWrf
import Derived.Test.YtgpofkabidginaaWco
namespace Go.Proofs.Ytgpofkabidginaa
open Go.ChangeShapes Go.WideShapes Go.ChangeAt Go.RowKit Go.ChangeMaps

set_option maxRecDepth 100000 in
set_option maxHeartbeats 4000000 in
theorem walFresh_walk (x : Cs) (w : World) (h : CsAt w x) : Calls Try.prog 8 #[x.v] w fun e w' => e = .returned (.bool true) ∧ Below w.heap.size w w' := by
  have HC := Lib.hid h
  have hE := h.e
  obtain ⟨hf1, hf2⟩ := h.f
  obtain ⟨hc1, hc2⟩ := h.c
  obtain ⟨sb, hsb⟩ : ∃ b, decide (smallP x) = b := ⟨_, rfl⟩
  have HSM := Lib.hid (fun W (hW : Below w.heap.size w W) => small_any W x (h.below hW) sb hsb)
  have HSB := Lib.hid hsb
  have HDI := Lib.hid (fun W (hW : Below w.heap.size w W) => disks_any W x (h.below hW))
  clear h hsb
  obtain ⟨S, F, C, E, OA, on, oc, OL, RA', rn, rc, RL⟩ := x
  simp only [Cs.v] at *
  have HB := Lib.hid (show Below w.heap.size w (w.alloc (.cells #[.int .i64 S, .slice OA on oc, .int .i64 F, .int .i64 C, .int .u32 (E : Int), .slice RA' rn rc] 25)) from (Below.refl _ w).alloc (Nat.le_refl _) _)
  have HK := Lib.hid (show Blk (w.alloc (.cells #[.int .i64 S, .slice OA on oc, .int .i64 F, .int .i64 C, .int .u32 (E : Int), .slice RA' rn rc] 25)) w.heap.size 25 #[.int .i64 S, .slice OA on oc, .int .i64 F, .int .i64 C, .int .u32 (E : Int), .slice RA' rn rc] from Blk.new _ _ _)
  go_enter Try.func8, Try.ntmps8
  go_wp2_with fail
  refine (awake_any _).mono ?_
  rintro e w1 ⟨rfl, hb⟩
  replace HB := Lib.hid (HB.out.trans (hb.mono HB.out.size))
  replace HK := Lib.hid (HK.out.below hb)
  clear hb
  have k0 : w1.cell? ⟨w.heap.size, 0, none⟩ = some (.int .i64 S) := HK.out.cell 0
  have k1 : w1.cell? ⟨w.heap.size, 1, none⟩ = some (.slice OA on oc) := HK.out.cell 1
  have k2 : w1.cell? ⟨w.heap.size, 2, none⟩ = some (.int .i64 F) := HK.out.cell 2
  have k3 : w1.cell? ⟨w.heap.size, 3, none⟩ = some (.int .i64 C) := HK.out.cell 3
  have k4 : w1.cell? ⟨w.heap.size, 4, none⟩ = some (.int .u32 (E : Int)) := HK.out.cell 4
  have k5 : w1.cell? ⟨w.heap.size, 5, none⟩ = some (.slice RA' rn rc) := HK.out.cell 5
  go_wp2_with fail
  refine (HSM.out _ HB.out).mono ?_
  rintro e w2 ⟨rfl, hb⟩
  replace HB := Lib.hid (HB.out.trans (hb.mono HB.out.size))
  replace HK := Lib.hid (HK.out.below hb)
  clear hb
  clear k0 k1 k2 k3 k4 k5
  cases sb
  · go_wp2_with fail
    refine (awake_any _).mono ?_
    rintro e w3 ⟨rfl, hb⟩
    replace HB := Lib.hid (HB.out.trans (hb.mono HB.out.size))
    clear hb
    go_wp2
    go_ret
    exact ⟨rfl, HB.out⟩
  have hsm : smallP _ := of_decide_eq_true HSB.out
  obtain ⟨s1, s2, s3, s4, s5⟩ := hsm
  simp only at s1 s2 s3 s4 s5
  obtain ⟨N, rfl⟩ : ∃ N : Nat, S = (N : Int) := ⟨S.toNat, by omega⟩
  have hN1 : 1 ≤ N := by omega
  have hN : N ≤ 12 := by omega
  have hon : on ≤ N := by omega
  have HRL := Lib.hid s5
  clear s5 HSB s1 s2 s3
  have k0 : w2.cell? ⟨w.heap.size, 0, none⟩ = some (.int .i64 (N : Int)) := HK.out.cell 0
  have k1 : w2.cell? ⟨w.heap.size, 1, none⟩ = some (.slice OA on oc) := HK.out.cell 1
  have k2 : w2.cell? ⟨w.heap.size, 2, none⟩ = some (.int .i64 F) := HK.out.cell 2
  have k3 : w2.cell? ⟨w.heap.size, 3, none⟩ = some (.int .i64 C) := HK.out.cell 3
  have k4 : w2.cell? ⟨w.heap.size, 4, none⟩ = some (.int .u32 (E : Int)) := HK.out.cell 4
  have k5 : w2.cell? ⟨w.heap.size, 5, none⟩ = some (.slice RA' rn rc) := HK.out.cell 5
  have hwl : w.heap.size < w2.heap.size := HK.out.lt
  have HDI := Lib.hid (HDI.out w2 HB.out N rfl hN1 hN hon)
  go_wp2_with fail
  refine HDI.out.mono ?_
  rintro e w3 ⟨p, q, r, t, s, rfl, hM, hRN, hsf, hsa, hsx, hFF, hb⟩
  have HM := Lib.hid hM
  have HF := Lib.hid (show ∀ k, F4 p q r t k → w.heap.size < k from fun k hk => Nat.lt_of_lt_of_le hwl (hFF k hk))
  replace HB := Lib.hid (HB.out.trans (hb.mono HB.out.size))
  replace HK := Lib.hid (HK.out.below hb)
  have HRN := Lib.hid hRN
  have hwl3 : w.heap.size < w3.heap.size := HK.out.lt
  clear hb hM hFF HDI hwl hRN
  clear k0 k1 k2 k3 k4 k5
  have k0 : w3.cell? ⟨w.heap.size, 0, none⟩ = some (.int .i64 (N : Int)) := HK.out.cell 0
  have k1 : w3.cell? ⟨w.heap.size, 1, none⟩ = some (.slice OA on oc) := HK.out.cell 1
  have k2 : w3.cell? ⟨w.heap.size, 2, none⟩ = some (.int .i64 F) := HK.out.cell 2
  have k3 : w3.cell? ⟨w.heap.size, 3, none⟩ = some (.int .i64 C) := HK.out.cell 3
  have k4 : w3.cell? ⟨w.heap.size, 4, none⟩ = some (.int .u32 (E : Int)) := HK.out.cell 4
  have k5 : w3.cell? ⟨w.heap.size, 5, none⟩ = some (.slice RA' rn rc) := HK.out.cell 5
  obtain ⟨mb, hmb⟩ : ∃ b, mayB (s.R.length : Nat) F C (E : Int) = b := ⟨_, rfl⟩
  cases mb
  · go_wp2_with fail
    refine (Fresh_bad w3 p q s HM.out.d F C E hmb).mono ?_
    rintro e w4 ⟨rfl, rfl⟩
    have HMY := Lib.hid (fun W => May_any W (N : Int) F C (E : Int) (by omega) (by omega) false (by rw [← HRN.out]; exact hmb))
    clear hmb
    go_wp2_with (go_at_call 25; refine (HMY.out _).mono ?_; rintro e w4 ⟨rfl, rfl⟩)
    go_ret
    exact ⟨rfl, HB.out⟩
  · have hv := mayB_of hmb
    rw [HRN.out] at hv
    obtain ⟨v1, v2, v3, v4, v5⟩ := hv
    obtain ⟨f, rfl⟩ : ∃ f : Nat, F = (f : Int) := ⟨F.toNat, by omega⟩
    obtain ⟨c, rfl⟩ : ∃ c : Nat, C = (c : Int) := ⟨C.toNat, by omega⟩
    have HMY := Lib.hid (fun W => May_any W (N : Int) f c (E : Int) (by omega) (by omega) true (by rw [← HRN.out]; exact hmb))
    have HMB := Lib.hid hmb
    have hlt := DM.lt HM.out.d HM.out.rk
    have hfc : f + c ≤ s.R.length := by rw [HRN.out]; omega
    clear hmb
    obtain ⟨x, hx⟩ : ∃ x, freshM (((s.R.drop f).take c).map ends) E = x := ⟨_, rfl⟩
    have HFR := Lib.hid (Fresh_ok w3 p q s HM.out.d hsf f c E HMB.out hE)
    have HRF := Lib.hid (fun W (hW : Below w3.heap.size w3 W) => RFresh_any _ W r t s (HM.out.rk.below hW) f c E hfc (by omega) hE (by rw [HRN.out]; omega))
    rw [hx] at HFR HRF
    clear hx
    go_wp2_with fail
    refine HFR.out.mono ?_
    rintro e w4 ⟨hfr, hb⟩
    unfold FreshR at hfr
    subst hfr
    have HRF2 := Lib.hid (HRF.out w4 hb)
    replace HB := Lib.hid (HB.out.trans (hb.mono HB.out.size))
    replace HK := Lib.hid (HK.out.below hb)
    clear hb HFR HRF
    clear k0 k1 k2 k3 k4 k5
    have k0 : w4.cell? ⟨w.heap.size, 0, none⟩ = some (.int .i64 (N : Int)) := HK.out.cell 0
    have k1 : w4.cell? ⟨w.heap.size, 1, none⟩ = some (.slice OA on oc) := HK.out.cell 1
    have k2 : w4.cell? ⟨w.heap.size, 2, none⟩ = some (.int .i64 (f : Int)) := HK.out.cell 2
    have k3 : w4.cell? ⟨w.heap.size, 3, none⟩ = some (.int .i64 (c : Int)) := HK.out.cell 3
    have k4 : w4.cell? ⟨w.heap.size, 4, none⟩ = some (.int .u32 (E : Int)) := HK.out.cell 4
    have k5 : w4.cell? ⟨w.heap.size, 5, none⟩ = some (.slice RA' rn rc) := HK.out.cell 5
    have hx0 : (0 : Int) ≤ (x : Int) := by omega
    by_cases hx : x = 0
    · subst hx
      rw [if_pos rfl]
      go_wp2_with (go_at_call 25; refine (HMY.out _).mono ?_; rintro e w4 ⟨rfl, rfl⟩)
      refine HRF2.out.mono ?_
      rintro e w5 ⟨rfl, hb⟩
      replace HB := Lib.hid (HB.out.trans (hb.mono HB.out.size))
      clear hb
      go_wp2
      go_ret
      exact ⟨rfl, HB.out⟩
    · rw [if_neg hx]
      have hpos : (0 : Int) < (x : Int) := by omega
      clear hx
      go_wp2_with (go_at_call 25; refine (HMY.out _).mono ?_; rintro e w4 ⟨rfl, rfl⟩)
      refine HRF2.out.mono ?_
      rintro e w5 ⟨rfl, hb⟩
      replace HB := Lib.hid (HB.out.trans (hb.mono HB.out.size))
      clear hb
      go_wp2
      go_ret
      exact ⟨rfl, HB.out⟩

set_option maxRecDepth 100000 in
theorem walFresh_lifted (os : Os) (started : os.Started) (H : Type) (enc : TypeId × Value → H) :
    ReturnsInHanded {} Try.checked os 8 .any (Rows.walFreshSpec.pre6 enc Try.prog Try.f8 Rows.walFreshRow.domain false) (Rows.walFreshSpec.post enc Try.prog Try.f8 false true false false) := by
  refine law_lifted (C := Try.checked) (B := 4) Try.own started (by kernel_rfl) Try.func8
    (ChangeSpec.witness6 (enc := enc) (C := Try.checked) false ⟨#[], #[.agg #[.int .i64 0, .slice none 0 0, .int .i64 0, .int .i64 0, .int .u32 0, .slice none 0 0]], []⟩ 8 (by kernel_rfl) (by kernel_rfl) (by kernel_rfl) (by kernel_rfl))
    Try.laidOut (by kernel_rfl) rfl rfl rfl Try.underlying4 (fun ds h => match ds, h with | [_], _ => rfl) ?_
  intro W base args ds ps hval hA hlt hsz
  rw [Try.params8] at hA hval hsz
  obtain ⟨v0, vs0, d0, ds0, p0, q0, hargs, rfl, rfl, h0, r0⟩ := trodAll_cons hA
  obtain ⟨rfl, rfl, rfl⟩ := trodAll_nil r0
  obtain rfl : args = #[v0] := by cases args; simp_all
  obtain ⟨X0, rfl, k0⟩ := open_Case (hval 0 25 v0 rfl rfl) h0 (fun x hx => hlt x (by simp [hx]))
  exact walFresh_walk X0 W k0

theorem walFresh_over : Rows.walFreshRow.holds Try.pinned (OpenSpec.ofChange Rows.walFreshSpec) :=
  OpenClaim.holds_of_wide 8 Try.f8 rfl rfl rfl rfl rfl rfl rfl ⟨rfl, rfl, rfl, rfl, rfl⟩ rfl rfl rfl rfl rfl (by kernel_rfl) Try.func8 (by kernel_rfl)
    (of_decide_eq_true (by kernel_rfl)) (by unfold Func.isWrapper; first | (rw [if_pos (by decide +kernel)]; kernel_rfl) | (rw [if_neg (by decide +kernel)]; exact ⟨rfl, rfl⟩))
    (fun os started H enc _ => walFresh_lifted os started H enc)

theorem walFresh_proved : Rows.WalFreshSaid := walFresh_over
end Go.Proofs.Ytgpofkabidginaa
