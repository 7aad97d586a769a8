/- Law WalEpochs: for every input the call returns true, and its arguments read afterwards as before. -/
import Derived.Test.YtgpofkabidginaaWge
import Derived.Test.YtgpofkabidginaaWfr
import Derived.Test.YtgpofkabidginaaWco
namespace Go.Proofs.Ytgpofkabidginaa
open Go.ChangeShapes Go.WideShapes Go.ChangeAt Go.RowKit Go.ChangeMaps

theorem open_Rows {H : Type} {enc : TypeId × Value → H} {W : World} {v : Value} {d : DataW H} {p : List MemPlace} {r : Reach} {b0 : Nat} (hv : Value.okWide Try.prog W r b0 22 v) (h : DataW.Trod enc Try.prog W 0 (fun _ => true) true 22 v d p) (hlt : ∀ x ∈ p, x.block < W.heap.size) :
    ∃ (A : Option Addr) (n c : Nat) (L : List Rw), v = .slice A n c ∧ RA (fun _ => False) W A n L ∧ n ≤ c ∧ c ≤ 9223372036854775807 := by
  obtain ⟨a0, len, cap, rfl⟩ := okWide_slice Try.underlying22 hv
  obtain ⟨fuel, hf⟩ := h
  exact rows_trod (y := (d, p)) hf hlt
theorem fresh_ok : ∀ (n : Nat) (l : List Nat) (e : Nat), (l.filter (fun x => decide (e ≤ x))).length ≤ n → e + n < 4294967295 → e ≤ freshM l e ∧ freshM l e ≤ e + n ∧ freshM l e ∉ l
  | n, l, e, hl, hn => by
    by_cases h : e ∈ l
    · have hlt : (l.filter (fun x => decide (e + 1 ≤ x))).length < (l.filter (fun x => decide (e ≤ x))).length := by
        have e1 : l.filter (fun x => decide (e + 1 ≤ x)) = (l.filter (fun x => decide (e ≤ x))).filter (fun x => decide (e + 1 ≤ x)) := by
          rw [List.filter_filter]
          apply List.filter_congr
          intro x _
          rw [Bool.eq_iff_iff]
          simp
          omega
        rw [e1]
        apply List.length_filter_lt_length_iff_exists.2
        exact ⟨e, List.mem_filter.2 ⟨h, by simp⟩, by simp⟩
      cases n with
      | zero => omega
      | succ n =>
        have ih := fresh_ok n l (e + 1) (by omega) (by omega)
        rw [fresh_go h (by omega)]
        exact ⟨by omega, by omega, ih.2.2⟩
    · rw [fresh_no h]
      exact ⟨Nat.le_refl _, by omega, h⟩
theorem ends_free {R : List (List UInt8)} {f c e : Nat} (hr : f + c ≤ R.length) (h : e ∉ ((R.drop f).take c).map ends) (i : Nat) (h1 : (f : Int) ≤ (i : Int)) (h2 : (i : Int) < (f : Int) + (c : Int)) : ends (R.getD i []) ≠ e := by
  intro he
  apply h
  refine List.mem_map.2 ⟨R.getD i [], ?_, he⟩
  rw [List.mem_iff_getElem?]
  refine ⟨i - f, ?_⟩
  rw [List.getElem?_take, if_pos (by omega), List.getElem?_drop, show f + (i - f) = i by omega, List.getD_eq_getElem?_getD, List.getElem?_eq_getElem (by omega)]
  rfl
theorem ReAr (s : St) : s.Re.Ar 0 0 = { R := s.R, f := false, a := 0, b := 0, x := s.x } := by
  unfold St.Ar
  rw [if_neg (by simp [St.Re])]
  rfl
set_option maxRecDepth 100000 in
set_option maxHeartbeats 4000000 in
theorem walEpochs_walk (x : Cs) (A2 : Option Addr) (n2 c2 : Nat) (L2 : List Rw) (wr0 : Int) (w : World) (h : CsAt w x) (h2 : RA (fun _ => False) w A2 n2 L2) (h3 : n2 ≤ c2 ∧ c2 ≤ 9223372036854775807) (y0 : 0 ≤ wr0) (y1 : wr0 ≤ 255) : Calls Try.prog 7 #[x.v, .slice A2 n2 c2, .int .u8 wr0] w fun e w' => e = .returned (.bool true) ∧ Below w.heap.size w w' := by
  have HC := Lib.hid h
  have hE := h.e
  obtain ⟨hf1, hf2⟩ := h.f
  obtain ⟨hc1, hc2⟩ := h.c
  obtain ⟨sb, hsb⟩ : ∃ b, decide (smallP x) = b := ⟨_, rfl⟩
  have HSM := Lib.hid (fun W (hW : Below w.heap.size w W) => small_any W x (h.below hW) sb hsb)
  have HSB := Lib.hid hsb
  have HDI := Lib.hid (fun W (hW : Below w.heap.size w W) => disks_any W x (h.below hW))
  clear h hsb
  obtain ⟨S, F, C, E, OA, on, oc, OL, RA', rn, rc, RL⟩ := x
  simp only [Cs.v] at *
  obtain ⟨sn, hsn⟩ : ∃ b, decide (smallP ⟨S, 0, 0, 0, none, 0, 0, [], A2, n2, c2, L2⟩) = b := ⟨_, rfl⟩
  have HSN := Lib.hid (fun W (hW : Below w.heap.size w W) => small_any W ⟨S, 0, 0, 0, none, 0, 0, [], A2, n2, c2, L2⟩ (⟨⟨rfl, fun h => absurd h (by simp), fun _ h => by cases h⟩, h2.below hW, ⟨by simp, by simp⟩, h3, HC.out.s, ⟨by simp, by simp⟩, ⟨by simp, by simp⟩, by simp⟩) sn hsn)
  have HSB2 := Lib.hid hsn
  have HR2 := Lib.hid (show RA (fun k => w.heap.size ≤ k) w A2 n2 L2 from h2.weak (fun k hk _ => by omega))
  obtain ⟨h31, h32⟩ := h3
  clear hsn h2
  simp only [Cs.v] at *
  have HB := Lib.hid (show Below w.heap.size w ((w.alloc (.cells #[.int .i64 S, .slice OA on oc, .int .i64 F, .int .i64 C, .int .u32 (E : Int), .slice RA' rn rc] 25)).alloc (.cells #[.int .i64 S, .slice none 0 0, .int .i64 0, .int .i64 0, .int .u32 0, .slice A2 n2 c2] 25)) from ((Below.refl _ w).alloc (Nat.le_refl _) _).alloc (by simp) _)
  have HK := Lib.hid (show Blk ((w.alloc (.cells #[.int .i64 S, .slice OA on oc, .int .i64 F, .int .i64 C, .int .u32 (E : Int), .slice RA' rn rc] 25)).alloc (.cells #[.int .i64 S, .slice none 0 0, .int .i64 0, .int .i64 0, .int .u32 0, .slice A2 n2 c2] 25)) w.heap.size 25 #[.int .i64 S, .slice OA on oc, .int .i64 F, .int .i64 C, .int .u32 (E : Int), .slice RA' rn rc] from (Blk.new _ _ _).below ((Below.refl _ _).alloc (Nat.le_refl _) _))
  have HN := Lib.hid (show Blk ((w.alloc (.cells #[.int .i64 S, .slice OA on oc, .int .i64 F, .int .i64 C, .int .u32 (E : Int), .slice RA' rn rc] 25)).alloc (.cells #[.int .i64 S, .slice none 0 0, .int .i64 0, .int .i64 0, .int .u32 0, .slice A2 n2 c2] 25)) (w.heap.size + 1) 25 #[.int .i64 S, .slice none 0 0, .int .i64 0, .int .i64 0, .int .u32 0, .slice A2 n2 c2] from by have := Blk.new (w.alloc (.cells #[.int .i64 S, .slice OA on oc, .int .i64 F, .int .i64 C, .int .u32 (E : Int), .slice RA' rn rc] 25)) 25 #[.int .i64 S, .slice none 0 0, .int .i64 0, .int .i64 0, .int .u32 0, .slice A2 n2 c2]; simpa using this)
  go_enter Try.func7, Try.ntmps7
  go_wp2_with fail
  refine (awake_any _).mono ?_
  rintro e w1 ⟨rfl, hb⟩
  replace HB := Lib.hid (HB.out.trans (hb.mono HB.out.size))
  replace HK := Lib.hid (HK.out.below hb)
  replace HN := Lib.hid (HN.out.below hb)
  clear hb
  have k0 : w1.cell? ⟨w.heap.size, 0, none⟩ = some (.int .i64 S) := HK.out.cell 0
  have k1 : w1.cell? ⟨w.heap.size, 1, none⟩ = some (.slice OA on oc) := HK.out.cell 1
  have k2 : w1.cell? ⟨w.heap.size, 2, none⟩ = some (.int .i64 F) := HK.out.cell 2
  have k3 : w1.cell? ⟨w.heap.size, 3, none⟩ = some (.int .i64 C) := HK.out.cell 3
  have k4 : w1.cell? ⟨w.heap.size, 4, none⟩ = some (.int .u32 (E : Int)) := HK.out.cell 4
  have k5 : w1.cell? ⟨w.heap.size, 5, none⟩ = some (.slice RA' rn rc) := HK.out.cell 5
  go_wp2_with fail
  refine (HSM.out _ HB.out).mono ?_
  rintro e w2 ⟨rfl, hb⟩
  replace HB := Lib.hid (HB.out.trans (hb.mono HB.out.size))
  replace HK := Lib.hid (HK.out.below hb)
  replace HN := Lib.hid (HN.out.below hb)
  clear hb
  clear k0 k1 k2 k3 k4 k5
  cases sb
  · go_wp2_with fail
    refine (awake_any _).mono ?_
    rintro e w9 ⟨rfl, hb⟩
    replace HB := Lib.hid (HB.out.trans (hb.mono HB.out.size))
    clear hb
    go_wp2
    go_ret
    exact ⟨rfl, HB.out⟩
  have n0x : w2.cell? ⟨w.heap.size + 1, 0, none⟩ = some (.int .i64 S) := HN.out.cell 0
  have n1x : w2.cell? ⟨w.heap.size + 1, 1, none⟩ = some (.slice none 0 0) := HN.out.cell 1
  have n2x : w2.cell? ⟨w.heap.size + 1, 2, none⟩ = some (.int .i64 0) := HN.out.cell 2
  have n3x : w2.cell? ⟨w.heap.size + 1, 3, none⟩ = some (.int .i64 0) := HN.out.cell 3
  have n4x : w2.cell? ⟨w.heap.size + 1, 4, none⟩ = some (.int .u32 0) := HN.out.cell 4
  have n5x : w2.cell? ⟨w.heap.size + 1, 5, none⟩ = some (.slice A2 n2 c2) := HN.out.cell 5
  go_wp2_with fail
  refine (HSN.out _ HB.out).mono ?_
  rintro e w2 ⟨rfl, hb⟩
  replace HB := Lib.hid (HB.out.trans (hb.mono HB.out.size))
  replace HK := Lib.hid (HK.out.below hb)
  clear hb HN
  clear n0x n1x n2x n3x n4x n5x
  cases sn
  · go_wp2_with fail
    refine (awake_any _).mono ?_
    rintro e w9 ⟨rfl, hb⟩
    replace HB := Lib.hid (HB.out.trans (hb.mono HB.out.size))
    clear hb
    go_wp2
    go_ret
    exact ⟨rfl, HB.out⟩
  have hsn2 : smallP _ := of_decide_eq_true HSB2.out
  obtain ⟨-, -, -, t4, t5⟩ := hsn2
  simp only at t4 t5
  have HRL2 := Lib.hid t5
  clear t5 HSB2
  have hsm : smallP _ := of_decide_eq_true HSB.out
  obtain ⟨s1, s2, s3, s4, s5⟩ := hsm
  simp only at s1 s2 s3 s4 s5
  obtain ⟨N, rfl⟩ : ∃ N : Nat, S = (N : Int) := ⟨S.toNat, by omega⟩
  have hN1 : 1 ≤ N := by omega
  have hN : N ≤ 12 := by omega
  have hon : on ≤ N := by omega
  have HRL := Lib.hid s5
  clear s5 HSB s1 s2 s3
  have k0 : w2.cell? ⟨w.heap.size, 0, none⟩ = some (.int .i64 (N : Int)) := HK.out.cell 0
  have k1 : w2.cell? ⟨w.heap.size, 1, none⟩ = some (.slice OA on oc) := HK.out.cell 1
  have k2 : w2.cell? ⟨w.heap.size, 2, none⟩ = some (.int .i64 F) := HK.out.cell 2
  have k3 : w2.cell? ⟨w.heap.size, 3, none⟩ = some (.int .i64 C) := HK.out.cell 3
  have k4 : w2.cell? ⟨w.heap.size, 4, none⟩ = some (.int .u32 (E : Int)) := HK.out.cell 4
  have k5 : w2.cell? ⟨w.heap.size, 5, none⟩ = some (.slice RA' rn rc) := HK.out.cell 5
  have hwl : w.heap.size < w2.heap.size := HK.out.lt
  have HDI := Lib.hid (HDI.out w2 HB.out N rfl hN1 hN hon)
  go_wp2_with fail
  refine HDI.out.mono ?_
  rintro e w3 ⟨p, q, r, t, s, rfl, hM, hRN, hsf, hsa, hsx, hFF, hb⟩
  have HM := Lib.hid hM
  have HF := Lib.hid (show ∀ k, F4 p q r t k → w.heap.size < k from fun k hk => Nat.lt_of_lt_of_le hwl (hFF k hk))
  replace HB := Lib.hid (HB.out.trans (hb.mono HB.out.size))
  replace HK := Lib.hid (HK.out.below hb)
  have HRN := Lib.hid hRN
  have hwl3 : w.heap.size < w3.heap.size := HK.out.lt
  clear hb hM hFF HDI hwl hRN
  clear k0 k1 k2 k3 k4 k5
  have k0 : w3.cell? ⟨w.heap.size, 0, none⟩ = some (.int .i64 (N : Int)) := HK.out.cell 0
  have k1 : w3.cell? ⟨w.heap.size, 1, none⟩ = some (.slice OA on oc) := HK.out.cell 1
  have k2 : w3.cell? ⟨w.heap.size, 2, none⟩ = some (.int .i64 F) := HK.out.cell 2
  have k3 : w3.cell? ⟨w.heap.size, 3, none⟩ = some (.int .i64 C) := HK.out.cell 3
  have k4 : w3.cell? ⟨w.heap.size, 4, none⟩ = some (.int .u32 (E : Int)) := HK.out.cell 4
  have k5 : w3.cell? ⟨w.heap.size, 5, none⟩ = some (.slice RA' rn rc) := HK.out.cell 5
  have hlt3 := DM.lt HM.out.d HM.out.rk
  go_wp2_with fail
  refine (free14_any _ w3 _ (HC.out.below HB.out) r t s HM.out.rk (by rw [HRN.out]) (by rw [HRN.out]; exact hN)).mono ?_
  rintro e w4 ⟨fb, rfl, hfp, -, hb⟩
  have HM4 := Lib.hid (HM.out.below hb)
  replace HB := Lib.hid (HB.out.trans (hb.mono HB.out.size))
  replace HK := Lib.hid (HK.out.below hb)
  have hs34 := hb.size
  clear hb HM
  cases fb
  · go_wp2
    go_ret
    exact ⟨rfl, HB.out⟩
  have hfp := hfp rfl
  obtain ⟨hmb, hfe⟩ := hfp
  simp only at hmb hfe
  have hv := mayB_of hmb
  rw [HRN.out] at hv
  obtain ⟨v1, v2, v3, v4, v5⟩ := hv
  obtain ⟨f, rfl⟩ : ∃ f : Nat, F = (f : Int) := ⟨F.toNat, by omega⟩
  obtain ⟨c, rfl⟩ : ∃ c : Nat, C = (c : Int) := ⟨C.toNat, by omega⟩
  by_cases hE31 : E ≤ 2147483648
  rotate_left 1
  · have hE31i : (2147483648 : Int) < (E : Int) := by omega
    clear hE31
    clear k0 k1 k2 k3 k4 k5
    have k0 : w4.cell? ⟨w.heap.size, 0, none⟩ = some (.int .i64 (N : Int)) := HK.out.cell 0
    have k1 : w4.cell? ⟨w.heap.size, 1, none⟩ = some (.slice OA on oc) := HK.out.cell 1
    have k2 : w4.cell? ⟨w.heap.size, 2, none⟩ = some (.int .i64 (f : Int)) := HK.out.cell 2
    have k3 : w4.cell? ⟨w.heap.size, 3, none⟩ = some (.int .i64 (c : Int)) := HK.out.cell 3
    have k4 : w4.cell? ⟨w.heap.size, 4, none⟩ = some (.int .u32 (E : Int)) := HK.out.cell 4
    have k5 : w4.cell? ⟨w.heap.size, 5, none⟩ = some (.slice RA' rn rc) := HK.out.cell 5
    go_wp2
    go_ret
    exact ⟨rfl, HB.out⟩
  have hE31i : (E : Int) ≤ 2147483648 := by omega
  have HMB := Lib.hid hmb
  have HFE := Lib.hid hfe
  clear hmb hfe
  clear k0 k1 k2 k3 k4 k5
  have k0 : w4.cell? ⟨w.heap.size, 0, none⟩ = some (.int .i64 (N : Int)) := HK.out.cell 0
  have k1 : w4.cell? ⟨w.heap.size, 1, none⟩ = some (.slice OA on oc) := HK.out.cell 1
  have k2 : w4.cell? ⟨w.heap.size, 2, none⟩ = some (.int .i64 (f : Int)) := HK.out.cell 2
  have k3 : w4.cell? ⟨w.heap.size, 3, none⟩ = some (.int .i64 (c : Int)) := HK.out.cell 3
  have k4 : w4.cell? ⟨w.heap.size, 4, none⟩ = some (.int .u32 (E : Int)) := HK.out.cell 4
  have k5 : w4.cell? ⟨w.heap.size, 5, none⟩ = some (.slice RA' rn rc) := HK.out.cell 5
  go_wp2_with fail
  refine (NewL_ok w4 p q s HM4.out.d f c E HMB.out).mono ?_
  rintro e w5 ⟨rfl, hl, hb⟩
  have HLF := Lib.hid hl
  have HM5 := Lib.hid (HM4.out.below hb)
  replace HB := Lib.hid (HB.out.trans (hb.mono HB.out.size))
  replace HK := Lib.hid (HK.out.below hb)
  have hlt := DM.lt HM4.out.d HM4.out.rk
  have hgl : w4.heap.size < w5.heap.size := by obtain ⟨A, cap, hk, -⟩ := hl (fun _ => False); exact hk.lt
  have hg4 : ¬ F4 p q r t w4.heap.size := fun h => by have := hlt _ h; omega
  have hg0 : w.heap.size < w4.heap.size := by omega
  have HB45 := Lib.hid hb
  clear hl hb hlt
  clear k0 k1 k2 k3 k4 k5
  have k0 : w5.cell? ⟨w.heap.size, 0, none⟩ = some (.int .i64 (N : Int)) := HK.out.cell 0
  have k1 : w5.cell? ⟨w.heap.size, 1, none⟩ = some (.slice OA on oc) := HK.out.cell 1
  have k2 : w5.cell? ⟨w.heap.size, 2, none⟩ = some (.int .i64 (f : Int)) := HK.out.cell 2
  have k3 : w5.cell? ⟨w.heap.size, 3, none⟩ = some (.int .i64 (c : Int)) := HK.out.cell 3
  have k4 : w5.cell? ⟨w.heap.size, 4, none⟩ = some (.int .u32 (E : Int)) := HK.out.cell 4
  have k5 : w5.cell? ⟨w.heap.size, 5, none⟩ = some (.slice RA' rn rc) := HK.out.cell 5
  have hltB : ∀ k, F4 p q r t k → k < w5.heap.size := DM.lt HM5.out.d HM5.out.rk
  obtain ⟨B, hBB⟩ : ∃ x, w5.heap.size = x := ⟨_, rfl⟩
  rw [hBB] at hltB hgl
  have HFB5 := Lib.hid (show ∀ k, (F4 p q r t k ∨ k = w4.heap.size) → k < B from fun k hk => by
    rcases hk with h | h
    · exact hltB k h
    · omega)
  have HF0 := Lib.hid (show ∀ k, (F4 p q r t k ∨ k = w4.heap.size) → w.heap.size < k from fun k hk => by
    rcases hk with h | h
    · exact HF.out k h
    · omega)
  have hwB : w.heap.size < B := by omega
  clear hltB HB45 HM4
  generalize w4.heap.size = g at *
  have HRW := Lib.hid (show RA (fun k => w.heap.size ≤ k) w RA' rn RL from HC.out.rl.weak (fun k hk _ => by omega))
  obtain ⟨av, hav⟩ : ∃ x : Nat, wr0 % 24 + 1 = (x : Int) := ⟨(wr0 % 24 + 1).toNat, by omega⟩
  obtain ⟨bv, hbv⟩ : ∃ x : Nat, wr0 / 4 = (x : Int) := ⟨(wr0 / 4).toNat, by omega⟩
  have hav1 : 1 ≤ av ∧ av ≤ 24 := by omega
  have hbv1 : bv ≤ 64 := by omega
  have HRNS := Lib.hid HRN.out
  have hAr : s.Ar (wr0 % 24 + 1) (wr0 / 4) = { s with a := av, b := bv } := by
    unfold St.Ar
    rw [if_neg (by rw [hsf]; decide), hav, hbv]
    simp only [Int.toNat_natCast]
    rw [Nat.min_eq_left hbv1]
  clear hav hbv
  go_wp2_with fail
  refine (Arm_any w5 p q s HM5.out.d (wr0 % 24 + 1) (wr0 / 4) (by omega)).mono ?_
  rintro e w7 ⟨rfl, hd7, hc7⟩
  rw [hAr] at hd7
  have HD7 := Lib.hid hd7
  have hc7' : Chg (F4 p q r t) w5 w7 := hc7.mono (fun _ => F4_pq)
  have HL7 := Lib.hid ((HLF.out (fun k => F4 p q r t k ∨ k = g)).chg hc7 (fun k hk => .inl (F4_pq hk)) (fun e => hg4 (F4_pq e)))
  replace HB := Lib.hid (hc7'.below HB.out (fun k hk => Nat.le_of_lt (HF.out k hk)) HB.out.size)
  replace HK := Lib.hid (HK.out.chg hc7' (fun e => by have := HF.out _ e; omega))
  have hB7 : B ≤ w7.heap.size := by have := hc7.size; omega
  clear hd7 hc7 hc7'
  obtain ⟨s0, hs0⟩ : ∃ x : St, ({ s with a := av, b := bv } : St) = x := ⟨_, rfl⟩
  rw [hs0] at HD7
  have hs0f : s0.f = false := by rw [← hs0]; exact hsf
  have hs0R : s0.R.length = N := by rw [← hs0]; exact HRN.out
  have hs0x : s0.x ≤ 12 := by rw [← hs0]; exact hsx
  have hsA : (s.R.length : Nat) = N := HRNS.out
  have HMB2 := Lib.hid (show mayB (N : Int) (f : Int) (c : Int) (E : Int) = true from by have := HMB.out; rw [HRNS.out] at this; exact this)
  clear hAr hs0 hsf hsa hsx HRN HLF
  obtain ⟨ii1, hi, hz0, hz1, hz2⟩ := info_parts Try.info38
  clear k0 k1 k2 k3 k4 k5
  have k0 : w7.cell? ⟨w.heap.size, 0, none⟩ = some (.int .i64 (N : Int)) := HK.out.cell 0
  have k1 : w7.cell? ⟨w.heap.size, 1, none⟩ = some (.slice OA on oc) := HK.out.cell 1
  have k2 : w7.cell? ⟨w.heap.size, 2, none⟩ = some (.int .i64 (f : Int)) := HK.out.cell 2
  have k3 : w7.cell? ⟨w.heap.size, 3, none⟩ = some (.int .i64 (c : Int)) := HK.out.cell 3
  have k4 : w7.cell? ⟨w.heap.size, 4, none⟩ = some (.int .u32 (E : Int)) := HK.out.cell 4
  have k5 : w7.cell? ⟨w.heap.size, 5, none⟩ = some (.slice RA' rn rc) := HK.out.cell 5
  go_wp2_with fail
  go_loopw [81] (fun iv wr => ∃ (i k : Nat) (S : List UInt8) (s1 : St), iv = .int .i64 (i : Int) ∧ i ≤ rn ∧ Dk wr p q s1 ∧ Lk (fun k => F4 p q r t k ∨ k = g) wr g p (lgOf f c E k S) ∧ k ≤ i ∧ S.length ≤ 59 * c ∧ s1.f = false ∧ s1.R.length = N ∧ s1.x ≤ 12 + 500 * i ∧ Below w.heap.size w wr ∧ B ≤ wr.heap.size ∧ Blk wr w.heap.size 25 #[.int .i64 (N : Int), .slice OA on oc, .int .i64 (f : Int), .int .i64 (c : Int), .int .u32 (E : Int), .slice RA' rn rc]) (fun iv _ => rn - (intOf iv).toNat)
  case atStart => exact ⟨0, 0, [], s0, rfl, Nat.zero_le _, HD7.out, HL7.out, Nat.le_refl _, by simp, hs0f, hs0R, by omega, HB.out, hB7, HK.out⟩
  case round =>
    clear HL7 HD7 HB HK
    clear k0 k1 k2 k3 k4 k5
    obtain ⟨i, k, S, s1, rfl, hir, hdk, hlk, hki, hS, h1f, h1R, h1x, hB, hBw, hK⟩ := hrel
    have HD := Lib.hid hdk
    have HL := Lib.hid hlk
    have HB := Lib.hid hB
    have HK := Lib.hid hK
    have hfr : f + c ≤ s1.R.length := by omega
    clear hdk hlk hB hK
    by_cases hlt : i < rn
    · have hil : (i : Int) < (rn : Int) := by omega
      obtain ⟨ob, off, rfl, hbl, -, hcc⟩ := HRW.out.2.1 (by omega)
      have hk2 : i < RL.length := by rw [HRW.out.1]; exact hlt
      obtain ⟨y, hy⟩ : ∃ y, RL[i] = y := ⟨_, rfl⟩
      have q1 := hcc i hk2
      rw [hy] at q1
      have q1 : wr.cell? ⟨ob, off + i, none⟩ = some (.slice y.A y.n y.c) := keepcell HB.out q1
      have hyk := HRW.out.2.2 y (hy ▸ List.getElem_mem _)
      have hy4 : y.n ≤ 400 := HRL.out y (hy ▸ List.getElem_mem _)
      obtain ⟨hyb, hyc, hyc2⟩ := hyk
      clear hcc hy
      obtain ⟨yA, yn, yc, yl⟩ := y
      simp only at q1 hyb hyc hyc2 hy4
      have HYB := Lib.hid hyb
      have hyl : yl.length = yn := hyb.1
      have HYL := Lib.hid hyl
      clear hyb
      by_cases hfull : freeM (59 * (c : Int) - (S.length : Int)) < (yn : Int)
      · have HAP := Lib.hid (App_full _ wr g p _ HL.out (show (lgOf f c E k S).c ≤ 65536 by simp only [lgOf]; omega) (show (lgOf f c E k S).n ≤ 100000000 by simp only [lgOf]; omega) yA yn yc (by omega) hfull)
        clear hfull hyl
        go_wp2_with fail
        refine HAP.out.mono ?_
        rintro e wb ⟨rfl, hb⟩
        have HDb := Lib.hid (HD.out.below hb)
        have HLb := Lib.hid (HL.out.below hb)
        have HKb := Lib.hid (HK.out.below hb)
        have HBb := Lib.hid (HB.out.trans (hb.mono HB.out.size))
        have hBb : B ≤ wb.heap.size := Nat.le_trans hBw hb.size
        clear hb HAP HD HL HK HB
        go_wp2
        go_roundw
        case rel => exact ⟨i + 1, k, S, s1, by go_num, by omega, HDb.out, HLb.out, by omega, hS, h1f, h1R, by omega, HBb.out, hBb, HKb.out⟩
        case measure => simp [intOf]; omega
      · have HAF := Lib.hid (app_facts (f := f) (c := c) (e := E) (k := k) (S := S) (s := s1) (b := yl) hfr hS h1f)
        have hn16 := app_not16 (f := f) (c := c) (e := E) (k := k) (S := S) (s := s1) (b := yl) hfr (by rw [hyl]; exact hfull)
        have HAP := Lib.hid (App_loop (fun k => F4 p q r t k ∨ k = g) wr g p q (lgOf f c E k S) s1 HL.out HD.out (.inr rfl) (.inl (.inl rfl)) (.inl (.inr (.inl rfl))) (fun h => hg4 (F4_pq h)) (fun k hk => Nat.lt_of_lt_of_le (HFB5.out k hk) hBw) hE (by simp only [lgOf]; omega) (by simp only [lgOf]; omega) (by simp only [lgOf]; omega) (by simp only [lgOf]; omega) yA yn yc yl ((HYB.out.below HB.out).mono (fun k hk => Nat.le_of_lt (HF0.out k hk))) (by omega) hyc hyc2 (tailOf_lt S) (by omega) (by simp only [lgOf]; omega) h1f)
        clear hfull hyl
        obtain ⟨r1, hr1⟩ : ∃ x, (lgOf f c E k S).app s1 yl = x := ⟨_, rfl⟩
        rw [hr1] at HAF HAP hn16
        obtain ⟨l2, s2, cd⟩ := r1
        simp only at HAF HAP hn16
        clear hr1
        go_wp2_with fail
        refine HAP.out.mono ?_
        rintro e wb ⟨rfl, hdb, hlb, hcb⟩
        have HDb := Lib.hid hdb
        have hcb' : Chg (fun k => F4 p q r t k ∨ k = g) wr wb := hcb.mono (fun k hk => by
          rcases hk with h | h | h
          · exact .inl (.inl h)
          · exact .inl (.inr (.inl h))
          · exact .inr h)
        have HKb := Lib.hid (HK.out.chg hcb' (fun e => absurd (HF0.out _ e) (Nat.lt_irrefl _)))
        have HBb := Lib.hid (hcb'.below HB.out (fun k hk => Nat.le_of_lt (HF0.out k hk)) HB.out.size)
        have hBb : B ≤ wb.heap.size := Nat.le_trans hBw hcb'.size
        obtain ⟨h2R, h2x, hcases⟩ := HAF.out
        have hyll := HYL.out
        have h2x' : s2.x ≤ 12 + 500 * (i + 1) := by omega
        have h2R' : s2.R.length = N := by omega
        clear hcb hcb' hdb HAP HD HL HK HB hBw hyll HAF
        by_cases h0 : cd = 0
        · subst h0
          have h2f : s2.f = false ∧ S.length + 4 + yl.length ≤ 59 * c ∧ l2 = lgOf f c E (k + 1) (S ++ nb4 yl.length ++ yl) := by
            rcases hcases with ⟨-, h2f, h2S, h⟩ | ⟨h16, -⟩ | h15
            · exact ⟨h2f, h2S, h⟩
            · simp at h16
            · simp at h15
          obtain ⟨h2f, h2S, rfl⟩ := h2f
          have HLb := Lib.hid (hlb (by first | rfl | trivial))
          clear hlb hcases hn16
          go_wp2
          go_roundw
          case rel => exact ⟨i + 1, k + 1, S ++ nb4 yl.length ++ yl, s2, by go_num, by omega, HDb.out, HLb.out, by omega, by rw [List.length_append, List.length_append, nb4_len]; omega, h2f, h2R', h2x', HBb.out, hBb, HKb.out⟩
          case measure => simp [intOf]; omega
        · have h15 : cd = 15 := by
            rcases hcases with ⟨h, -⟩ | ⟨h16, -⟩ | h15
            · exact absurd h h0
            · exact absurd h16 hn16
            · exact h15
          subst h15
          have hX7 : s2.x ≤ 7000 := by omega
          clear hlb hcases hn16 h0 h2x' h2x h1x
          have HDX := HDb
          have HB := HBb
          have HK := HKb
          clear HDb HBb HKb
          go_wp2_with fail
          refine (Restart_any wb p q s2 HDX.out).mono ?_
          rintro e x1 ⟨rfl, hd, hcg⟩
          have hcg' : Chg (F4 p q r t) wb x1 := hcg.mono (fun _ => F4_pq)
          replace HDX := Lib.hid hd
          replace HB := Lib.hid (hcg'.below HB.out (fun k hk => Nat.le_of_lt (HF.out k hk)) HB.out.size)
          replace HK := Lib.hid (HK.out.chg hcg' (fun e => by have := HF.out _ e; omega))
          have hBx : B ≤ x1.heap.size := Nat.le_trans hBb hcg.size
          clear hd hcg hcg'
          go_wp2_with fail
          refine (Arm_any x1 p q s2.Re HDX.out 0 0 (by omega)).mono ?_
          rintro e x2 ⟨rfl, hd, hcg⟩
          have hcg' : Chg (F4 p q r t) x1 x2 := hcg.mono (fun _ => F4_pq)
          rw [ReAr] at hd
          obtain ⟨s3, hs3⟩ : ∃ x : St, ({ R := s2.R, f := false, a := 0, b := 0, x := s2.x } : St) = x := ⟨_, rfl⟩
          rw [hs3] at hd
          replace HDX := Lib.hid hd
          replace HB := Lib.hid (hcg'.below HB.out (fun k hk => Nat.le_of_lt (HF.out k hk)) HB.out.size)
          replace HK := Lib.hid (HK.out.chg hcg' (fun e => by have := HF.out _ e; omega))
          replace hBx : B ≤ x2.heap.size := Nat.le_trans hBx hcg.size
          have h3f : s3.f = false := by rw [← hs3]
          have h3a : s3.a = 0 := by rw [← hs3]
          have h3R : s3.R.length = N := by rw [← hs3]; exact h2R'
          have h3x : s3.x ≤ 7000 := by rw [← hs3]; exact hX7
          clear hd hcg hcg' hs3 hX7
          have hfc3 : f + c ≤ s3.R.length := by omega
          obtain ⟨e2, he2⟩ : ∃ x, freshM (((s3.R.drop f).take c).map ends) (E + 1) = x := ⟨_, rfl⟩
          have hfo := fresh_ok c (((s3.R.drop f).take c).map ends) (E + 1) (Nat.le_trans (List.length_filter_le _ _) (by rw [List.length_map, List.length_take]; omega)) (by omega)
          rw [he2] at hfo
          obtain ⟨ho1, ho2, ho3⟩ := hfo
          have hfrs := Fresh_ok x2 p q s3 HDX.out h3f f c (E + 1) (by rw [h3R]; unfold mayB; simp; omega) (by omega)
          rw [he2, show ((E + 1 : Nat) : Int) = (E : Int) + 1 by omega] at hfrs
          have HFRS := Lib.hid hfrs
          have HGD0 := Lib.hid (show Good e2 (seg s3 f c) [] from free_good (s := s3) hfc3 (fun i h1 h2 => ends_free hfc3 ho3 i h1 h2))
          have heE : (E : Int) < (e2 : Int) := by omega
          have he2l : e2 < 4294967296 := by omega
          have HMB3 := Lib.hid (show mayB (N : Int) (f : Int) (c : Int) (e2 : Int) = true from by unfold mayB; simp; omega)
          clear hfrs he2 ho3
          have k2 : x2.cell? ⟨w.heap.size, 2, none⟩ = some (.int .i64 (f : Int)) := HK.out.cell 2
          have k3 : x2.cell? ⟨w.heap.size, 3, none⟩ = some (.int .i64 (c : Int)) := HK.out.cell 3
          have k4 : x2.cell? ⟨w.heap.size, 4, none⟩ = some (.int .u32 (E : Int)) := HK.out.cell 4
          go_wp2_with fail
          refine HFRS.out.mono ?_
          rintro e x3 ⟨hfr2, hb⟩
          unfold FreshR at hfr2
          rw [if_neg (by omega)] at hfr2
          subst hfr2
          replace HDX := Lib.hid (HDX.out.below hb)
          replace HB := Lib.hid (HB.out.trans (hb.mono HB.out.size))
          replace HK := Lib.hid (HK.out.below hb)
          replace hBx : B ≤ x3.heap.size := Nat.le_trans hBx hb.size
          clear hb HFRS k2 k3 k4
          have k2 : x3.cell? ⟨w.heap.size, 2, none⟩ = some (.int .i64 (f : Int)) := HK.out.cell 2
          have k3 : x3.cell? ⟨w.heap.size, 3, none⟩ = some (.int .i64 (c : Int)) := HK.out.cell 3
          have k4 : x3.cell? ⟨w.heap.size, 4, none⟩ = some (.int .u32 (E : Int)) := HK.out.cell 4
          go_wp2_with fail
          refine (NewL_ok x3 p q s3 HDX.out f c e2 (by rw [h3R]; exact HMB3.out)).mono ?_
          rintro e x4 ⟨rfl, hl, hb⟩
          have HLF := Lib.hid hl
          have HD7 := Lib.hid (HDX.out.below hb)
          replace HB := Lib.hid (HB.out.trans (hb.mono HB.out.size))
          replace HK := Lib.hid (HK.out.below hb)
          have hgl2 : x3.heap.size < x4.heap.size := by obtain ⟨A, cap, hk, -⟩ := hl (fun _ => False); exact hk.lt
          have hg42 : ¬ F4 p q r t x3.heap.size := fun h => by have := HFB5.out _ (.inl h); omega
          have hg02 : w.heap.size < x3.heap.size := by omega
          obtain ⟨B2, hBB2⟩ : ∃ x, x4.heap.size = x := ⟨_, rfl⟩
          have HFB6 := Lib.hid (show ∀ k, (F4 p q r t k ∨ k = x3.heap.size) → k < B2 from fun k hk => by
            rcases hk with h | h
            · have := HFB5.out k (.inl h); omega
            · omega)
          have HF02 := Lib.hid (show ∀ k, (F4 p q r t k ∨ k = x3.heap.size) → w.heap.size < k from fun k hk => by
            rcases hk with h | h
            · exact HF.out k h
            · omega)
          have hwB2 : w.heap.size < B2 := by omega
          have hB72 : B2 ≤ x4.heap.size := by omega
          generalize x3.heap.size = g2 at *
          have HL7 := Lib.hid (HLF.out (FO (fun k => F4 p q r t k ∨ k = g2) (.slice none 0 0)))
          clear hl hb hgl2 hBB2 HLF k2 k3 k4 hBx HDX
          have k2 : x4.cell? ⟨w.heap.size, 2, none⟩ = some (.int .i64 (f : Int)) := HK.out.cell 2
          have k3 : x4.cell? ⟨w.heap.size, 3, none⟩ = some (.int .i64 (c : Int)) := HK.out.cell 3
          have k4 : x4.cell? ⟨w.heap.size, 4, none⟩ = some (.int .u32 (E : Int)) := HK.out.cell 4
          go_wp2_with fail
          go_loopw [15, 132] (fun dv iv wr => ∃ (i k : Nat) (S : List UInt8) (s1 : St) (D : List Rw), iv = .int .i64 (i : Int) ∧ i ≤ n2 ∧ Dk wr p q s1 ∧ Lk (FO (fun k => F4 p q r t k ∨ k = g2) dv) wr g2 p (lgOf f c e2 k S) ∧ k ≤ i ∧ S.length ≤ 59 * c ∧ s1.f = false ∧ s1.a = 0 ∧ s1.R.length = N ∧ s1.x ≤ 7000 + 500 * i ∧ Below w.heap.size w wr ∧ B2 ≤ wr.heap.size ∧ (∃ v1 v5, Blk wr w.heap.size 25 #[.int .i64 (N : Int), v1, .int .i64 (f : Int), .int .i64 (c : Int), .int .u32 (E : Int), v5]) ∧ Good e2 (seg s1 f c) S ∧ S = (D.map Rw.l).flatMap frame ∧ OR (fun k => w.heap.size ≤ k) B2 wr dv D ∧ D.length ≤ i ∧ ∀ x ∈ D, x.l.length ≤ 400) (fun _ iv _ => n2 - (intOf iv).toNat)
          case atStart => exact ⟨0, 0, [], s3, [], rfl, Nat.zero_le _, HD7.out, HL7.out, Nat.le_refl _, by simp, h3f, h3a, h3R, by omega, HB.out, hB72, ⟨_, _, HK.out⟩, HGD0.out, rfl, OR.nil _ _ _, Nat.le_refl _, fun _ h => by cases h⟩
          case round =>
            clear HL7 HD7 HB HK HGD0 k2 k3 k4
            obtain ⟨i, k, S, s1, D, rfl, hir, hdk, hlk, hki, hS, h1f, h1a, h1R, h1x, hB, hBw, ⟨v1, v5, hK⟩, hgd, hSD, hod, hdl, hd4⟩ := hrel
            have HD := Lib.hid hdk
            have HL := Lib.hid hlk
            have HB := Lib.hid hB
            have HK := Lib.hid hK
            have HGD := Lib.hid hgd
            have HSD := Lib.hid hSD
            have HOD := Lib.hid hod
            have HD4 := Lib.hid hd4
            have HOW := Lib.hid (hod.1.lt)
            have hfr : f + c ≤ s1.R.length := by omega
            clear hdk hlk hB hK hgd hSD hod hd4
            by_cases hlt : i < n2
            · have hil : (i : Int) < (n2 : Int) := by omega
              obtain ⟨ob, off, rfl, hbl, -, hcc⟩ := HR2.out.2.1 (by omega)
              have hk2 : i < L2.length := by rw [HR2.out.1]; exact hlt
              obtain ⟨y, hy⟩ : ∃ y, L2[i] = y := ⟨_, rfl⟩
              have q1 := hcc i hk2
              rw [hy] at q1
              have q1 : wr.cell? ⟨ob, off + i, none⟩ = some (.slice y.A y.n y.c) := keepcell HB.out q1
              have hyk := HR2.out.2.2 y (hy ▸ List.getElem_mem _)
              have hy4 : y.n ≤ 400 := HRL2.out y (hy ▸ List.getElem_mem _)
              obtain ⟨hyb, hyc, hyc2⟩ := hyk
              clear hcc hy
              obtain ⟨yA, yn, yc, yl⟩ := y
              simp only at q1 hyb hyc hyc2 hy4
              have HYB := Lib.hid hyb
              have hyl : yl.length = yn := hyb.1
              have HYL := Lib.hid hyl
              clear hyb
              by_cases hfull : freeM (59 * (c : Int) - (S.length : Int)) < (yn : Int)
              · have HAP := Lib.hid (App_full _ wr g2 p _ HL.out (show (lgOf f c e2 k S).c ≤ 65536 by simp only [lgOf]; omega) (show (lgOf f c e2 k S).n ≤ 100000000 by simp only [lgOf]; omega) yA yn yc (by omega) hfull)
                clear hfull hyl
                go_wp2_with fail
                refine HAP.out.mono ?_
                rintro e wb ⟨rfl, hb⟩
                have HDb := Lib.hid (HD.out.below hb)
                have HLb := Lib.hid (HL.out.below hb)
                have HODb := Lib.hid (HOD.out.below hb)
                have HKb := Lib.hid (HK.out.below hb)
                have HBb := Lib.hid (HB.out.trans (hb.mono HB.out.size))
                have hBb : B2 ≤ wb.heap.size := Nat.le_trans hBw hb.size
                clear hb HAP HD HL HOD HK HB
                go_wp2
                go_roundw
                case rel => exact ⟨i + 1, k, S, s1, D, by go_num, by omega, HDb.out, HLb.out, by omega, hS, h1f, h1a, h1R, by omega, HBb.out, hBb, ⟨_, _, HKb.out⟩, HGD.out, HSD.out, HODb.out, by omega, HD4.out⟩
                case measure => simp [intOf]; omega
              · have HAG := Lib.hid (app_good (f := f) (c := c) (e := e2) (k := k) (S := S) (s := s1) (b := yl) he2l hfr HD.out.2.2.2.1 HD.out.2.2.2.2.1 h1f HGD.out)
                have HAF := Lib.hid (app_facts (f := f) (c := c) (e := e2) (k := k) (S := S) (s := s1) (b := yl) hfr hS h1f)
                have hn16 := app_not16 (f := f) (c := c) (e := e2) (k := k) (S := S) (s := s1) (b := yl) hfr (by rw [hyl]; exact hfull)
                have HAP := Lib.hid (App_loop (FO (fun k => F4 p q r t k ∨ k = g2) u15) wr g2 p q (lgOf f c e2 k S) s1 HL.out HD.out (.inl (.inr rfl)) (.inl (.inl (.inl rfl))) (.inl (.inl (.inr (.inl rfl)))) (fun h => hg42 (F4_pq h)) (fun k hk => by
                  rcases hk with h | h
                  · exact Nat.lt_of_lt_of_le (HFB6.out k h) hBw
                  · exact (HOW.out k h).2) he2l (by simp only [lgOf]; omega) (by simp only [lgOf]; omega) (by simp only [lgOf]; omega) (by simp only [lgOf]; omega) yA yn yc yl ((HYB.out.below HB.out).mono (fun k hk => by
                  rcases hk with h | h
                  · exact Nat.le_of_lt (HF02.out k h)
                  · have := (HOW.out k h).1; omega)) (by omega) hyc hyc2 (tailOf_lt S) (by omega) (by simp only [lgOf]; omega) h1f)
                clear hfull hyl
                obtain ⟨r1, hr1⟩ : ∃ x, (lgOf f c e2 k S).app s1 yl = x := ⟨_, rfl⟩
                rw [hr1] at HAG HAF HAP hn16
                obtain ⟨l2, s2, cd⟩ := r1
                simp only at HAG HAF HAP hn16
                clear hr1
                go_wp2_with fail
                refine HAP.out.mono ?_
                rintro e wb ⟨rfl, hdb, hlb, hcb⟩
                have HDb := Lib.hid hdb
                have hcb' : Chg (fun k => F4 p q r t k ∨ k = g2) wr wb := hcb.mono (fun k hk => by
                  rcases hk with h | h | h
                  · exact .inl (.inl h)
                  · exact .inl (.inr (.inl h))
                  · exact .inr h)
                have HODb := Lib.hid (HOD.out.chg hcb' (fun k hk => Nat.le_of_lt (HF02.out k hk)) (fun j hj hk => by have h1 := (HOW.out j hj).1; have h2 := HFB6.out j hk; omega))
                have HKb := Lib.hid (HK.out.chg hcb' (fun e => absurd (HF02.out _ e) (Nat.lt_irrefl _)))
                have HBb := Lib.hid (hcb'.below HB.out (fun k hk => Nat.le_of_lt (HF02.out k hk)) HB.out.size)
                have hBb : B2 ≤ wb.heap.size := Nat.le_trans hBw hcb'.size
                obtain ⟨h2R, h2x, hcases⟩ := HAF.out
                clear hcb hcb' hdb HAP HD HL HOD HK HB hBw
                have HOD := HODb
                have HB := HBb
                have hBw := hBb
                clear HODb HBb hBb
                rcases HAG.out with ⟨rfl, hgg, h2a, -, -⟩ | ⟨h16, -⟩ | ⟨-, h15, -⟩
                · have h2f : s2.f = false ∧ S.length + 4 + yl.length ≤ 59 * c ∧ l2 = lgOf f c e2 (k + 1) (S ++ nb4 yl.length ++ yl) := by
                    rcases hcases with ⟨-, h2f, h2S, h⟩ | ⟨h16, -⟩ | h15
                    · exact ⟨h2f, h2S, h⟩
                    · simp at h16
                    · simp at h15
                  obtain ⟨h2f, h2S, rfl⟩ := h2f
                  have HLb := Lib.hid (hlb (by first | rfl | trivial))
                  have HGG := Lib.hid hgg
                  have h2a := h2a h1a
                  clear hlb hgg hcases HAG HAF hn16 HGD
                  have hb5 : Below wb.heap.size wb (wb.alloc (.cells #[.slice yA yn yc] 38)) := (Below.refl _ _).alloc (Nat.le_refl _) _
                  have HOD5 := Lib.hid (HOD.out.below hb5)
                  have hB5 : B2 ≤ (wb.alloc (.cells #[.slice yA yn yc] 38)).heap.size := Nat.le_trans hBw hb5.size
                  have HSR := Lib.hid (src_one (x := ⟨yA, yn, yc, yl⟩) (show Blk (wb.alloc (.cells #[.slice yA yn yc] 38)) wb.heap.size 38 #[.slice yA yn yc] from Blk.new _ _ _))
                  have hbw5 : Below w.heap.size w (wb.alloc (.cells #[.slice yA yn yc] 38)) := HB.out.trans (hb5.mono HB.out.size)
                  have HXW := Lib.hid (show Rw.ok (FO (fun k => w.heap.size ≤ k) u15) (wb.alloc (.cells #[.slice yA yn yc] 38)) ⟨yA, yn, yc, yl⟩ from ⟨(HYB.out.below hbw5).mono (fun k hk => by
                    rcases hk with h | h
                    · exact h
                    · have := (HOD5.out.1.lt k h).1; omega), hyc, hyc2⟩)
                  go_wp2_with (at_builtin; refine wpList_append_src _ rfl (.tmp 140) (.tmp 142) 22 22 rfl B2 38 ii1 (.slice none 0 0) 1 24 Try.underlying22 hi hz0 hz1 hz2 rfl u15 D.length (D.map Rw.v) rfl HOD5.out.1 _ 1 _ rfl HSR.out (by unfold maxLen; omega) (by omega) hB5 ?_; intro v8 w8 own8 hg8 hm8)
                  have HOD8 := Lib.hid (HOD5.out.push HXW.out own8 hg8 hm8)
                  have hown5 : ∀ j, u15.ownBlock = some j → B2 ≤ j := fun j hj => (HOD5.out.1.lt j hj).1
                  have hc8 := Chg.of_own2 hg8
                  have HD8 := Lib.hid ((HDb.out.below hb5).chg hc8 (fun h => by have h1 := hown5 _ h; have h2 := HFB6.out p (.inl (.inl rfl)); omega) (fun h => by have h1 := hown5 _ h; have h2 := HFB6.out q (.inl (.inr (.inl rfl))); omega))
                  have HL8 := Lib.hid (show Lk (FO (fun k => F4 p q r t k ∨ k = g2) v8) w8 g2 p (lgOf f c e2 (k + 1) (S ++ nb4 yl.length ++ yl)) from (HLb.out.below hb5).re hc8 (fun k hk => .inr hk) (fun h => by have h1 := hown5 _ h; have h2 := HFB6.out g2 (.inr rfl); omega) (fun k hk hf1 hf2 => by
                    rcases hf2 with h | h
                    · exact hf1 (.inl h)
                    · rcases hm8 with e | ⟨g9, e, hg9⟩
                      · exact hf1 (.inr (e ▸ h))
                      · rw [e] at h; cases h; omega))
                  have HK8 := Lib.hid ((HKb.out.below hb5).chg hc8 (fun h => by have h1 := hown5 _ h; omega))
                  have HB8 := Lib.hid (hbw5.grown hg8 hbw5.size (fun j hj => by have := hown5 j hj; omega))
                  have hB8 : B2 ≤ w8.heap.size := Nat.le_trans hB5 hg8.size
                  clear own8 hg8 hm8 hc8 hb5 hbw5 HOD5 HXW HSR HDb HLb HKb HB HOD
                  go_roundw
                  case rel => exact ⟨i + 1, k + 1, S ++ nb4 yl.length ++ yl, s2, D ++ [⟨yA, yn, yc, yl⟩], by go_num, by omega, HD8.out, HL8.out, by omega, by rw [List.length_append, List.length_append, nb4_len]; omega, h2f, h2a, by omega, by have := HYL.out; omega, HB8.out, hB8, ⟨_, _, HK8.out⟩, HGG.out, by rw [HSD.out, List.map_append, List.map_cons, List.map_nil, flat_snoc], HOD8.out, by rw [List.length_append]; simp; omega, fun x hx => by
                    rcases List.mem_append.1 hx with h | h
                    · exact HD4.out x h
                    · rw [List.mem_singleton] at h; rw [h]; have := HYL.out; simp only; omega⟩
                  case measure => simp [intOf]; omega
                · exact absurd h16 hn16
                · exact absurd h1a h15
            · obtain rfl : i = n2 := by omega
              have HST : Hid (streamM e2 ((s1.R.drop f).take c) = S) := Lib.hid (stream_good he2l HGD.out)
              have k2 : wr.cell? ⟨w.heap.size, 2, none⟩ = some (.int .i64 (f : Int)) := HK.out.cell 2
              have k3 : wr.cell? ⟨w.heap.size, 3, none⟩ = some (.int .i64 (c : Int)) := HK.out.cell 3
              have k4 : wr.cell? ⟨w.heap.size, 4, none⟩ = some (.int .u32 (E : Int)) := HK.out.cell 4
              go_wp2_with fail
              refine (Scan_ok (fun _ => False) wr (fun _ e => e.elim) p q s1 HD.out h1f f c e2 (by rw [h1R]; exact HMB3.out) he2l).mono ?_
              rintro e x3 ⟨v9, L9, rfl, hL, hl, hb⟩
              replace HOD := Lib.hid (HOD.out.below hb)
              replace HB := Lib.hid (HB.out.trans (hb.mono HB.out.size))
              obtain ⟨A1, c1, rfl, hra⟩ := hL.ra
              have HA := Lib.hid hra
              have hn1 : L9.length ≤ 100000000 := recs_len hl (by
                refine Nat.le_trans (stream_len _ _) ?_
                rw [List.length_take, List.length_drop]
                omega)
              rw [HST.out] at hl
              have HEQ := Lib.hid (show L9.map Rw.l = D.map Rw.l from by
                rw [hl, HSD.out]
                exact splitA_frames _ (fun r hr => by
                  obtain ⟨x, hx, rfl⟩ := List.mem_map.1 hr
                  have := HD4.out x hx
                  omega))
              obtain ⟨A2, c2, hdv, hrd⟩ := HOD.out.ra
              have HDR := Lib.hid hrd
              subst hdv
              clear hL hl hb hra hrd
              go_wp2_with fail
              refine (equal_any x3 _ _ _ _ _ _ L9 D HA.out HDR.out hn1 (by omega) true (by rw [HEQ.out]; simp)).mono ?_
              rintro e x6 ⟨rfl, hb⟩
              replace HB := Lib.hid (HB.out.trans (hb.mono HB.out.size))
              clear hb
              go_wp2
              go_ret
              exact ⟨rfl, HB.out⟩
    · obtain rfl : i = rn := by omega
      have hX7 : s1.x ≤ 7000 := by omega
      have HDX := HD
      clear HD HL h1x
      obtain ⟨s9, hs9⟩ : ∃ x, x = s1 := ⟨_, rfl⟩
      rw [← hs9] at h1f h1R HDX hX7 hfr
      clear hs9
      obtain ⟨wq, rfl⟩ : ∃ x, x = wr := ⟨_, rfl⟩
      go_wp2_with fail
      refine (Restart_any wq p q s9 HDX.out).mono ?_
      rintro e x1 ⟨rfl, hd, hcg⟩
      have hcg' : Chg (F4 p q r t) wq x1 := hcg.mono (fun _ => F4_pq)
      replace HDX := Lib.hid hd
      replace HB := Lib.hid (hcg'.below HB.out (fun k hk => Nat.le_of_lt (HF.out k hk)) HB.out.size)
      replace HK := Lib.hid (HK.out.chg hcg' (fun e => by have := HF.out _ e; omega))
      have hBx : B ≤ x1.heap.size := Nat.le_trans hBw hcg.size
      clear hd hcg hcg'
      go_wp2_with fail
      refine (Arm_any x1 p q s9.Re HDX.out 0 0 (by omega)).mono ?_
      rintro e x2 ⟨rfl, hd, hcg⟩
      have hcg' : Chg (F4 p q r t) x1 x2 := hcg.mono (fun _ => F4_pq)
      rw [ReAr] at hd
      obtain ⟨s3, hs3⟩ : ∃ x : St, ({ R := s9.R, f := false, a := 0, b := 0, x := s9.x } : St) = x := ⟨_, rfl⟩
      rw [hs3] at hd
      replace HDX := Lib.hid hd
      replace HB := Lib.hid (hcg'.below HB.out (fun k hk => Nat.le_of_lt (HF.out k hk)) HB.out.size)
      replace HK := Lib.hid (HK.out.chg hcg' (fun e => by have := HF.out _ e; omega))
      replace hBx : B ≤ x2.heap.size := Nat.le_trans hBx hcg.size
      have h3f : s3.f = false := by rw [← hs3]
      have h3a : s3.a = 0 := by rw [← hs3]
      have h3R : s3.R.length = N := by rw [← hs3]; exact h1R
      have h3x : s3.x ≤ 7000 := by rw [← hs3]; exact hX7
      clear hd hcg hcg' hs3 hX7
      have hfc3 : f + c ≤ s3.R.length := by omega
      obtain ⟨e2, he2⟩ : ∃ x, freshM (((s3.R.drop f).take c).map ends) (E + 1) = x := ⟨_, rfl⟩
      have hfo := fresh_ok c (((s3.R.drop f).take c).map ends) (E + 1) (Nat.le_trans (List.length_filter_le _ _) (by rw [List.length_map, List.length_take]; omega)) (by omega)
      rw [he2] at hfo
      obtain ⟨ho1, ho2, ho3⟩ := hfo
      have hfrs := Fresh_ok x2 p q s3 HDX.out h3f f c (E + 1) (by rw [h3R]; unfold mayB; simp; omega) (by omega)
      rw [he2, show ((E + 1 : Nat) : Int) = (E : Int) + 1 by omega] at hfrs
      have HFRS := Lib.hid hfrs
      have HGD0 := Lib.hid (show Good e2 (seg s3 f c) [] from free_good (s := s3) hfc3 (fun i h1 h2 => ends_free hfc3 ho3 i h1 h2))
      have heE : (E : Int) < (e2 : Int) := by omega
      have he2l : e2 < 4294967296 := by omega
      have HMB3 := Lib.hid (show mayB (N : Int) (f : Int) (c : Int) (e2 : Int) = true from by unfold mayB; simp; omega)
      clear hfrs he2 ho3
      have k2 : x2.cell? ⟨w.heap.size, 2, none⟩ = some (.int .i64 (f : Int)) := HK.out.cell 2
      have k3 : x2.cell? ⟨w.heap.size, 3, none⟩ = some (.int .i64 (c : Int)) := HK.out.cell 3
      have k4 : x2.cell? ⟨w.heap.size, 4, none⟩ = some (.int .u32 (E : Int)) := HK.out.cell 4
      go_wp2_with fail
      refine HFRS.out.mono ?_
      rintro e x3 ⟨hfr2, hb⟩
      unfold FreshR at hfr2
      rw [if_neg (by omega)] at hfr2
      subst hfr2
      replace HDX := Lib.hid (HDX.out.below hb)
      replace HB := Lib.hid (HB.out.trans (hb.mono HB.out.size))
      replace HK := Lib.hid (HK.out.below hb)
      replace hBx : B ≤ x3.heap.size := Nat.le_trans hBx hb.size
      clear hb HFRS k2 k3 k4
      have k2 : x3.cell? ⟨w.heap.size, 2, none⟩ = some (.int .i64 (f : Int)) := HK.out.cell 2
      have k3 : x3.cell? ⟨w.heap.size, 3, none⟩ = some (.int .i64 (c : Int)) := HK.out.cell 3
      have k4 : x3.cell? ⟨w.heap.size, 4, none⟩ = some (.int .u32 (E : Int)) := HK.out.cell 4
      go_wp2_with fail
      refine (NewL_ok x3 p q s3 HDX.out f c e2 (by rw [h3R]; exact HMB3.out)).mono ?_
      rintro e x4 ⟨rfl, hl, hb⟩
      have HLF := Lib.hid hl
      have HD7 := Lib.hid (HDX.out.below hb)
      replace HB := Lib.hid (HB.out.trans (hb.mono HB.out.size))
      replace HK := Lib.hid (HK.out.below hb)
      have hgl2 : x3.heap.size < x4.heap.size := by obtain ⟨A, cap, hk, -⟩ := hl (fun _ => False); exact hk.lt
      have hg42 : ¬ F4 p q r t x3.heap.size := fun h => by have := HFB5.out _ (.inl h); omega
      have hg02 : w.heap.size < x3.heap.size := by omega
      obtain ⟨B2, hBB2⟩ : ∃ x, x4.heap.size = x := ⟨_, rfl⟩
      have HFB6 := Lib.hid (show ∀ k, (F4 p q r t k ∨ k = x3.heap.size) → k < B2 from fun k hk => by
        rcases hk with h | h
        · have := HFB5.out k (.inl h); omega
        · omega)
      have HF02 := Lib.hid (show ∀ k, (F4 p q r t k ∨ k = x3.heap.size) → w.heap.size < k from fun k hk => by
        rcases hk with h | h
        · exact HF.out k h
        · omega)
      have hwB2 : w.heap.size < B2 := by omega
      have hB72 : B2 ≤ x4.heap.size := by omega
      generalize x3.heap.size = g2 at *
      have HL7 := Lib.hid (HLF.out (FO (fun k => F4 p q r t k ∨ k = g2) (.slice none 0 0)))
      clear hl hb hgl2 hBB2 HLF k2 k3 k4 hBx HDX
      have k2 : x4.cell? ⟨w.heap.size, 2, none⟩ = some (.int .i64 (f : Int)) := HK.out.cell 2
      have k3 : x4.cell? ⟨w.heap.size, 3, none⟩ = some (.int .i64 (c : Int)) := HK.out.cell 3
      have k4 : x4.cell? ⟨w.heap.size, 4, none⟩ = some (.int .u32 (E : Int)) := HK.out.cell 4
      go_wp2_with fail
      go_loopw [15, 132] (fun dv iv wr => ∃ (i k : Nat) (S : List UInt8) (s1 : St) (D : List Rw), iv = .int .i64 (i : Int) ∧ i ≤ n2 ∧ Dk wr p q s1 ∧ Lk (FO (fun k => F4 p q r t k ∨ k = g2) dv) wr g2 p (lgOf f c e2 k S) ∧ k ≤ i ∧ S.length ≤ 59 * c ∧ s1.f = false ∧ s1.a = 0 ∧ s1.R.length = N ∧ s1.x ≤ 7000 + 500 * i ∧ Below w.heap.size w wr ∧ B2 ≤ wr.heap.size ∧ (∃ v1 v5, Blk wr w.heap.size 25 #[.int .i64 (N : Int), v1, .int .i64 (f : Int), .int .i64 (c : Int), .int .u32 (E : Int), v5]) ∧ Good e2 (seg s1 f c) S ∧ S = (D.map Rw.l).flatMap frame ∧ OR (fun k => w.heap.size ≤ k) B2 wr dv D ∧ D.length ≤ i ∧ ∀ x ∈ D, x.l.length ≤ 400) (fun _ iv _ => n2 - (intOf iv).toNat)
      case atStart => exact ⟨0, 0, [], s3, [], rfl, Nat.zero_le _, HD7.out, HL7.out, Nat.le_refl _, by simp, h3f, h3a, h3R, by omega, HB.out, hB72, ⟨_, _, HK.out⟩, HGD0.out, rfl, OR.nil _ _ _, Nat.le_refl _, fun _ h => by cases h⟩
      case round =>
        clear HL7 HD7 HB HK HGD0 k2 k3 k4
        obtain ⟨i, k, S, s1, D, rfl, hir, hdk, hlk, hki, hS, h1f, h1a, h1R, h1x, hB, hBw, ⟨v1, v5, hK⟩, hgd, hSD, hod, hdl, hd4⟩ := hrel
        have HD := Lib.hid hdk
        have HL := Lib.hid hlk
        have HB := Lib.hid hB
        have HK := Lib.hid hK
        have HGD := Lib.hid hgd
        have HSD := Lib.hid hSD
        have HOD := Lib.hid hod
        have HD4 := Lib.hid hd4
        have HOW := Lib.hid (hod.1.lt)
        have hfr : f + c ≤ s1.R.length := by omega
        clear hdk hlk hB hK hgd hSD hod hd4
        by_cases hlt : i < n2
        · have hil : (i : Int) < (n2 : Int) := by omega
          obtain ⟨ob, off, rfl, hbl, -, hcc⟩ := HR2.out.2.1 (by omega)
          have hk2 : i < L2.length := by rw [HR2.out.1]; exact hlt
          obtain ⟨y, hy⟩ : ∃ y, L2[i] = y := ⟨_, rfl⟩
          have q1 := hcc i hk2
          rw [hy] at q1
          have q1 : wr.cell? ⟨ob, off + i, none⟩ = some (.slice y.A y.n y.c) := keepcell HB.out q1
          have hyk := HR2.out.2.2 y (hy ▸ List.getElem_mem _)
          have hy4 : y.n ≤ 400 := HRL2.out y (hy ▸ List.getElem_mem _)
          obtain ⟨hyb, hyc, hyc2⟩ := hyk
          clear hcc hy
          obtain ⟨yA, yn, yc, yl⟩ := y
          simp only at q1 hyb hyc hyc2 hy4
          have HYB := Lib.hid hyb
          have hyl : yl.length = yn := hyb.1
          have HYL := Lib.hid hyl
          clear hyb
          by_cases hfull : freeM (59 * (c : Int) - (S.length : Int)) < (yn : Int)
          · have HAP := Lib.hid (App_full _ wr g2 p _ HL.out (show (lgOf f c e2 k S).c ≤ 65536 by simp only [lgOf]; omega) (show (lgOf f c e2 k S).n ≤ 100000000 by simp only [lgOf]; omega) yA yn yc (by omega) hfull)
            clear hfull hyl
            go_wp2_with fail
            refine HAP.out.mono ?_
            rintro e wb ⟨rfl, hb⟩
            have HDb := Lib.hid (HD.out.below hb)
            have HLb := Lib.hid (HL.out.below hb)
            have HODb := Lib.hid (HOD.out.below hb)
            have HKb := Lib.hid (HK.out.below hb)
            have HBb := Lib.hid (HB.out.trans (hb.mono HB.out.size))
            have hBb : B2 ≤ wb.heap.size := Nat.le_trans hBw hb.size
            clear hb HAP HD HL HOD HK HB
            go_wp2
            go_roundw
            case rel => exact ⟨i + 1, k, S, s1, D, by go_num, by omega, HDb.out, HLb.out, by omega, hS, h1f, h1a, h1R, by omega, HBb.out, hBb, ⟨_, _, HKb.out⟩, HGD.out, HSD.out, HODb.out, by omega, HD4.out⟩
            case measure => simp [intOf]; omega
          · have HAG := Lib.hid (app_good (f := f) (c := c) (e := e2) (k := k) (S := S) (s := s1) (b := yl) he2l hfr HD.out.2.2.2.1 HD.out.2.2.2.2.1 h1f HGD.out)
            have HAF := Lib.hid (app_facts (f := f) (c := c) (e := e2) (k := k) (S := S) (s := s1) (b := yl) hfr hS h1f)
            have hn16 := app_not16 (f := f) (c := c) (e := e2) (k := k) (S := S) (s := s1) (b := yl) hfr (by rw [hyl]; exact hfull)
            have HAP := Lib.hid (App_loop (FO (fun k => F4 p q r t k ∨ k = g2) u15) wr g2 p q (lgOf f c e2 k S) s1 HL.out HD.out (.inl (.inr rfl)) (.inl (.inl (.inl rfl))) (.inl (.inl (.inr (.inl rfl)))) (fun h => hg42 (F4_pq h)) (fun k hk => by
              rcases hk with h | h
              · exact Nat.lt_of_lt_of_le (HFB6.out k h) hBw
              · exact (HOW.out k h).2) he2l (by simp only [lgOf]; omega) (by simp only [lgOf]; omega) (by simp only [lgOf]; omega) (by simp only [lgOf]; omega) yA yn yc yl ((HYB.out.below HB.out).mono (fun k hk => by
              rcases hk with h | h
              · exact Nat.le_of_lt (HF02.out k h)
              · have := (HOW.out k h).1; omega)) (by omega) hyc hyc2 (tailOf_lt S) (by omega) (by simp only [lgOf]; omega) h1f)
            clear hfull hyl
            obtain ⟨r1, hr1⟩ : ∃ x, (lgOf f c e2 k S).app s1 yl = x := ⟨_, rfl⟩
            rw [hr1] at HAG HAF HAP hn16
            obtain ⟨l2, s2, cd⟩ := r1
            simp only at HAG HAF HAP hn16
            clear hr1
            go_wp2_with fail
            refine HAP.out.mono ?_
            rintro e wb ⟨rfl, hdb, hlb, hcb⟩
            have HDb := Lib.hid hdb
            have hcb' : Chg (fun k => F4 p q r t k ∨ k = g2) wr wb := hcb.mono (fun k hk => by
              rcases hk with h | h | h
              · exact .inl (.inl h)
              · exact .inl (.inr (.inl h))
              · exact .inr h)
            have HODb := Lib.hid (HOD.out.chg hcb' (fun k hk => Nat.le_of_lt (HF02.out k hk)) (fun j hj hk => by have h1 := (HOW.out j hj).1; have h2 := HFB6.out j hk; omega))
            have HKb := Lib.hid (HK.out.chg hcb' (fun e => absurd (HF02.out _ e) (Nat.lt_irrefl _)))
            have HBb := Lib.hid (hcb'.below HB.out (fun k hk => Nat.le_of_lt (HF02.out k hk)) HB.out.size)
            have hBb : B2 ≤ wb.heap.size := Nat.le_trans hBw hcb'.size
            obtain ⟨h2R, h2x, hcases⟩ := HAF.out
            clear hcb hcb' hdb HAP HD HL HOD HK HB hBw
            have HOD := HODb
            have HB := HBb
            have hBw := hBb
            clear HODb HBb hBb
            rcases HAG.out with ⟨rfl, hgg, h2a, -, -⟩ | ⟨h16, -⟩ | ⟨-, h15, -⟩
            · have h2f : s2.f = false ∧ S.length + 4 + yl.length ≤ 59 * c ∧ l2 = lgOf f c e2 (k + 1) (S ++ nb4 yl.length ++ yl) := by
                rcases hcases with ⟨-, h2f, h2S, h⟩ | ⟨h16, -⟩ | h15
                · exact ⟨h2f, h2S, h⟩
                · simp at h16
                · simp at h15
              obtain ⟨h2f, h2S, rfl⟩ := h2f
              have HLb := Lib.hid (hlb (by first | rfl | trivial))
              have HGG := Lib.hid hgg
              have h2a := h2a h1a
              clear hlb hgg hcases HAG HAF hn16 HGD
              have hb5 : Below wb.heap.size wb (wb.alloc (.cells #[.slice yA yn yc] 38)) := (Below.refl _ _).alloc (Nat.le_refl _) _
              have HOD5 := Lib.hid (HOD.out.below hb5)
              have hB5 : B2 ≤ (wb.alloc (.cells #[.slice yA yn yc] 38)).heap.size := Nat.le_trans hBw hb5.size
              have HSR := Lib.hid (src_one (x := ⟨yA, yn, yc, yl⟩) (show Blk (wb.alloc (.cells #[.slice yA yn yc] 38)) wb.heap.size 38 #[.slice yA yn yc] from Blk.new _ _ _))
              have hbw5 : Below w.heap.size w (wb.alloc (.cells #[.slice yA yn yc] 38)) := HB.out.trans (hb5.mono HB.out.size)
              have HXW := Lib.hid (show Rw.ok (FO (fun k => w.heap.size ≤ k) u15) (wb.alloc (.cells #[.slice yA yn yc] 38)) ⟨yA, yn, yc, yl⟩ from ⟨(HYB.out.below hbw5).mono (fun k hk => by
                rcases hk with h | h
                · exact h
                · have := (HOD5.out.1.lt k h).1; omega), hyc, hyc2⟩)
              go_wp2_with (at_builtin; refine wpList_append_src _ rfl (.tmp 140) (.tmp 142) 22 22 rfl B2 38 ii1 (.slice none 0 0) 1 24 Try.underlying22 hi hz0 hz1 hz2 rfl u15 D.length (D.map Rw.v) rfl HOD5.out.1 _ 1 _ rfl HSR.out (by unfold maxLen; omega) (by omega) hB5 ?_; intro v8 w8 own8 hg8 hm8)
              have HOD8 := Lib.hid (HOD5.out.push HXW.out own8 hg8 hm8)
              have hown5 : ∀ j, u15.ownBlock = some j → B2 ≤ j := fun j hj => (HOD5.out.1.lt j hj).1
              have hc8 := Chg.of_own2 hg8
              have HD8 := Lib.hid ((HDb.out.below hb5).chg hc8 (fun h => by have h1 := hown5 _ h; have h2 := HFB6.out p (.inl (.inl rfl)); omega) (fun h => by have h1 := hown5 _ h; have h2 := HFB6.out q (.inl (.inr (.inl rfl))); omega))
              have HL8 := Lib.hid (show Lk (FO (fun k => F4 p q r t k ∨ k = g2) v8) w8 g2 p (lgOf f c e2 (k + 1) (S ++ nb4 yl.length ++ yl)) from (HLb.out.below hb5).re hc8 (fun k hk => .inr hk) (fun h => by have h1 := hown5 _ h; have h2 := HFB6.out g2 (.inr rfl); omega) (fun k hk hf1 hf2 => by
                rcases hf2 with h | h
                · exact hf1 (.inl h)
                · rcases hm8 with e | ⟨g9, e, hg9⟩
                  · exact hf1 (.inr (e ▸ h))
                  · rw [e] at h; cases h; omega))
              have HK8 := Lib.hid ((HKb.out.below hb5).chg hc8 (fun h => by have h1 := hown5 _ h; omega))
              have HB8 := Lib.hid (hbw5.grown hg8 hbw5.size (fun j hj => by have := hown5 j hj; omega))
              have hB8 : B2 ≤ w8.heap.size := Nat.le_trans hB5 hg8.size
              clear own8 hg8 hm8 hc8 hb5 hbw5 HOD5 HXW HSR HDb HLb HKb HB HOD
              go_roundw
              case rel => exact ⟨i + 1, k + 1, S ++ nb4 yl.length ++ yl, s2, D ++ [⟨yA, yn, yc, yl⟩], by go_num, by omega, HD8.out, HL8.out, by omega, by rw [List.length_append, List.length_append, nb4_len]; omega, h2f, h2a, by omega, by have := HYL.out; omega, HB8.out, hB8, ⟨_, _, HK8.out⟩, HGG.out, by rw [HSD.out, List.map_append, List.map_cons, List.map_nil, flat_snoc], HOD8.out, by rw [List.length_append]; simp; omega, fun x hx => by
                rcases List.mem_append.1 hx with h | h
                · exact HD4.out x h
                · rw [List.mem_singleton] at h; rw [h]; have := HYL.out; simp only; omega⟩
              case measure => simp [intOf]; omega
            · exact absurd h16 hn16
            · exact absurd h1a h15
        · obtain rfl : i = n2 := by omega
          have HST : Hid (streamM e2 ((s1.R.drop f).take c) = S) := Lib.hid (stream_good he2l HGD.out)
          have k2 : wr.cell? ⟨w.heap.size, 2, none⟩ = some (.int .i64 (f : Int)) := HK.out.cell 2
          have k3 : wr.cell? ⟨w.heap.size, 3, none⟩ = some (.int .i64 (c : Int)) := HK.out.cell 3
          have k4 : wr.cell? ⟨w.heap.size, 4, none⟩ = some (.int .u32 (E : Int)) := HK.out.cell 4
          go_wp2_with fail
          refine (Scan_ok (fun _ => False) wr (fun _ e => e.elim) p q s1 HD.out h1f f c e2 (by rw [h1R]; exact HMB3.out) he2l).mono ?_
          rintro e x3 ⟨v9, L9, rfl, hL, hl, hb⟩
          replace HOD := Lib.hid (HOD.out.below hb)
          replace HB := Lib.hid (HB.out.trans (hb.mono HB.out.size))
          obtain ⟨A1, c1, rfl, hra⟩ := hL.ra
          have HA := Lib.hid hra
          have hn1 : L9.length ≤ 100000000 := recs_len hl (by
            refine Nat.le_trans (stream_len _ _) ?_
            rw [List.length_take, List.length_drop]
            omega)
          rw [HST.out] at hl
          have HEQ := Lib.hid (show L9.map Rw.l = D.map Rw.l from by
            rw [hl, HSD.out]
            exact splitA_frames _ (fun r hr => by
              obtain ⟨x, hx, rfl⟩ := List.mem_map.1 hr
              have := HD4.out x hx
              omega))
          obtain ⟨A2, c2, hdv, hrd⟩ := HOD.out.ra
          have HDR := Lib.hid hrd
          subst hdv
          clear hL hl hb hra hrd
          go_wp2_with fail
          refine (equal_any x3 _ _ _ _ _ _ L9 D HA.out HDR.out hn1 (by omega) true (by rw [HEQ.out]; simp)).mono ?_
          rintro e x6 ⟨rfl, hb⟩
          replace HB := Lib.hid (HB.out.trans (hb.mono HB.out.size))
          clear hb
          go_wp2
          go_ret
          exact ⟨rfl, HB.out⟩

set_option maxRecDepth 100000 in
theorem walEpochs_lifted (os : Os) (started : os.Started) (H : Type) (enc : TypeId × Value → H) :
    ReturnsInHanded {} Try.checked os 7 .any (Rows.walEpochsSpec.pre6 enc Try.prog Try.f7 Rows.walEpochsRow.domain false) (Rows.walEpochsSpec.post enc Try.prog Try.f7 false true false false) := by
  refine law_lifted (C := Try.checked) (B := 4) Try.own started (by kernel_rfl) Try.func7
    (ChangeSpec.witness6 (enc := enc) (C := Try.checked) false ⟨#[], #[.agg #[.int .i64 0, .slice none 0 0, .int .i64 0, .int .i64 0, .int .u32 0, .slice none 0 0], .slice none 0 0, .int .u8 0], []⟩ 8 (by kernel_rfl) (by kernel_rfl) (by kernel_rfl) (by kernel_rfl))
    Try.laidOut (by kernel_rfl) rfl rfl rfl Try.underlying4 (fun ds h => match ds, h with | [_, _, _], _ => rfl) ?_
  intro W base args ds ps hval hA hlt hsz
  rw [Try.params7] at hA hval hsz
  obtain ⟨v0, vs0, d0, ds0, p0, q0, hargs, rfl, rfl, h0, r0⟩ := trodAll_cons hA
  obtain ⟨v1, vs1, d1, ds1, p1, q1, rfl, rfl, rfl, h1, r1⟩ := trodAll_cons r0
  obtain ⟨v2, vs2, d2, ds2, p2, q2, rfl, rfl, rfl, h2, r2⟩ := trodAll_cons r1
  obtain ⟨rfl, rfl, rfl⟩ := trodAll_nil r2
  obtain rfl : args = #[v0, v1, v2] := by cases args; simp_all
  obtain ⟨X0, rfl, k0⟩ := open_Case (hval 0 25 v0 rfl rfl) h0 (fun x hx => hlt x (by simp [hx]))
  obtain ⟨A1, n1, c1, R1, rfl, k1, l1, g1⟩ := open_Rows (hval 1 22 v1 rfl rfl) h1 (fun x hx => hlt x (by simp [hx]))
  obtain ⟨a2, rfl, rfl, rfl, w2⟩ := open_int Try.underlying5 (hval 2 5 v2 rfl rfl) h2
  obtain ⟨l2, g2⟩ := u8_bd w2
  exact walEpochs_walk X0 A1 n1 c1 R1 a2 W k0 k1 ⟨l1, g1⟩ l2 g2

theorem walEpochs_over : Rows.walEpochsRow.holds Try.pinned (OpenSpec.ofChange Rows.walEpochsSpec) :=
  OpenClaim.holds_of_wide 7 Try.f7 rfl rfl rfl rfl rfl rfl rfl ⟨rfl, rfl, rfl, rfl, rfl⟩ rfl rfl rfl rfl rfl (by kernel_rfl) Try.func7 (by kernel_rfl)
    (of_decide_eq_true (by kernel_rfl)) (by unfold Func.isWrapper; first | (rw [if_pos (by decide +kernel)]; kernel_rfl) | (rw [if_neg (by decide +kernel)]; exact ⟨rfl, rfl⟩))
    (fun os started H enc _ => walEpochs_lifted os started H enc)

theorem walEpochs_proved : Rows.WalEpochsSaid := walEpochs_over
end Go.Proofs.Ytgpofkabidginaa
