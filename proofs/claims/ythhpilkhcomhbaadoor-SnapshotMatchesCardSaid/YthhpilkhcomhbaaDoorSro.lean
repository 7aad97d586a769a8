/- Reading a version, to the end. -/
import Derived.Test.YthhpilkhcomhbaaDoorSrd
namespace Go.Proofs.YthhpilkhcomhbaaDoor
open Go.ChangeShapes Go.WideShapes Go.ChangeAt Go.RowKit Go.ChangeMaps

theorem val4_lt (l : List UInt8) : val (l.take 4) < 4294967296 := by
  have h := val_lt (l.take 4)
  have h2 : 256 ^ (l.take 4).length ≤ 256 ^ 4 := Nat.pow_le_pow_right (by omega) (by rw [List.length_take]; omega)
  have h3 : (256 : Nat) ^ 4 = 4294967296 := by decide
  omega
theorem flipC {P : Program} {f : FuncId} {args : Array Value} {w : World} {e0 : Ending} (h : Calls P f args w fun e w' => e = e0 ∧ w = w') : Calls P f args w fun e w' => e = e0 ∧ w' = w := h.mono fun _ _ ⟨a, b⟩ => ⟨a, b.symm⟩
theorem lenOf_lt (s : St) : lenOf s < 4294967296 := val4_lt _
theorem epochOf_lt (s : St) : epochOf s < 4294967296 := val4_lt _
set_option maxRecDepth 100000 in
set_option maxHeartbeats 2000000 in
theorem SRead_ok0 (w : World) (p q : Nat) (s : St) (h : Dk w p q s) (hp : ¬ PQ p q 0) (hev : Env w) (hf : s.f = false) (hn7 : 7 ≤ s.R.length) (hsl : slotOf s = 0) (hE0 : epochOf s ≠ 0) (hle : lenOf s ≤ 64 * areaOf s.R.length) :
    Calls Tryd.prog 23 #[.pointer (some ⟨p, 0, none⟩)] w (GivesR w (SR s).1 (SR s).2.1 (SR s).2.2) := by
  obtain ⟨i0, hi, hz0, hz1, hz2⟩ := info_parts Tryd.info5
  obtain ⟨sr, hsr⟩ : ∃ x, SR s = x := ⟨_, rfl⟩
  have e0 := hsr
  rw [SR_go hf hn7 (by omega) hE0 hle, hsl] at e0
  have hbx : baseOf s 0 + nch (lenOf s) ≤ s.R.length := by
    have h1 := area_fit (n := s.R.length) (o := 0) hn7 (by omega)
    have h2 := nch_area hle
    unfold baseOf
    omega
  have h64 := h.2.2.2.1
  obtain ⟨bb, hbb⟩ : ∃ x, baseOf s 0 = x := ⟨_, rfl⟩
  have hbb2 := hbb
  unfold baseOf at hbb2
  rw [hbb] at e0 hbx
  rw [hsr]
  have hn2 : s.R.length ≤ 65536 := h.2.2.2.2.2.1
  obtain ⟨a, ha⟩ : ∃ a : Int, (areaOf s.R.length : Int) = a := ⟨_, rfl⟩
  have hb16 : 1 ≤ a ∧ a ≤ 16383 := by rw [← ha]; unfold areaOf; omega
  obtain ⟨rn, hrn⟩ : ∃ n, s.R.length = n := ⟨_, rfl⟩
  have HCU := Lib.hid (cur_ok w p q s h hf hn7 (by omega))
  rw [ha, hsl, hdrVe, hrn] at HCU
  unfold layV at HCU
  obtain ⟨E, hE⟩ : ∃ x, epochOf s = x := ⟨_, rfl⟩
  obtain ⟨N, hN⟩ : ∃ x, lenOf s = x := ⟨_, rfl⟩
  obtain ⟨C, hC⟩ : ∃ x, sumOf s = x := ⟨_, rfl⟩
  rw [hE, hN, hC] at HCU
  have hbI : (bb : Int) = 3 := by rw [← hbb2]; simp only [Nat.zero_mul, Nat.one_mul]; omega
  rw [hN] at e0 hbx
  rw [hC, hE] at e0
  have HL0 := Lib.hid (rall_len (s := s) h64 hbx)
  have HCH := Lib.hid (fun j (hj : 64 * j < N) m hm => rall_chunk (s := s) (base := bb) (N := N) (j := j) h64 hbx hj (m := m) hm)
  have HSE := Lib.hid (fun j (hj : 64 * j < N) => show (s.R.getD (bb + j) []).length = 64 from getD_len64 h64 (by unfold nch at hbx; omega))
  have HRD := Lib.hid (fun W (hW : Dk W p q s) j (hj : 64 * j < N) => Read_ok W p q s hW hf (bb + j) (by unfold nch at hbx; omega))
  obtain ⟨L, hL⟩ : ∃ x, rall s bb N = x := ⟨_, rfl⟩
  rw [hL] at e0 HL0
  simp only [hL] at HCH
  have hei : ¬ (E : Int) = 0 := by omega
  have hfi : (N : Int) ≤ a * 64 := by omega
  have hfd : decide (a * 64 < (N : Int)) = false := by simpa using hfi
  have hEd : decide ((E : Int) = 0) = false := by simp; omega
  have hEd2 : decide (E = 0) = false := by simp; omega
  have hEd3 : ((E : Int) == 0) = false := by simp; omega
  have hEd4 : (E == 0) = false := by simp; omega
  have hw : IntKind.i64.wrap (N : Int) = N := by rw [IntWalk.i64_in _ (by omega)]
  have hNb : N ≤ 1048512 := by omega
  have HSR := Lib.hid e0
  have HD := Lib.hid h
  have HEV := Lib.hid hev
  have HBB := Lib.hid hbI
  clear h e0 hf hn7 hsl hE0 hE hN hC ha hrn hn2 hle hsr hev hbb hbb2 hbx h64 hL hbI
  go_enter Tryd.func23, Tryd.ntmps23
  go_wp2_with fail
  refine HCU.out.mono ?_
  rintro e1 w1 ⟨rfl, hb⟩
  have hb2 : Below w.heap.size w ((w1.alloc (.cells #[.int .i64 0, .int .i64 1, .int .i64 2, .int .i64 3, .int .i64 (3 + a), .int .i64 a, .int .i64 (3 + 2 * a), .int .i64 (rn - (3 + 2 * a))] 24)).alloc (.cells #[.int .u32 (E : Int), .int .u32 (N : Int), .int .u64 (C : Int)] 76)) := hb.trans (((Below.refl _ w1).alloc (Nat.le_refl _) _).alloc (by simp) _ |>.mono hb.size)
  have HL := Lib.hid (show Blk ((w1.alloc (.cells #[.int .i64 0, .int .i64 1, .int .i64 2, .int .i64 3, .int .i64 (3 + a), .int .i64 a, .int .i64 (3 + 2 * a), .int .i64 (rn - (3 + 2 * a))] 24)).alloc (.cells #[.int .u32 (E : Int), .int .u32 (N : Int), .int .u64 (C : Int)] 76)) w1.heap.size 24 #[.int .i64 0, .int .i64 1, .int .i64 2, .int .i64 3, .int .i64 (3 + a), .int .i64 a, .int .i64 (3 + 2 * a), .int .i64 (rn - (3 + 2 * a))] from (Blk.new w1 24 _).alloc _)
  have HH := Lib.hid (show Blk ((w1.alloc (.cells #[.int .i64 0, .int .i64 1, .int .i64 2, .int .i64 3, .int .i64 (3 + a), .int .i64 a, .int .i64 (3 + 2 * a), .int .i64 (rn - (3 + 2 * a))] 24)).alloc (.cells #[.int .u32 (E : Int), .int .u32 (N : Int), .int .u64 (C : Int)] 76)) (w1.heap.size + 1) 76 #[.int .u32 (E : Int), .int .u32 (N : Int), .int .u64 (C : Int)] from Blk.new_ (by simp) rfl)
  replace HD := Lib.hid (HD.out.below hb2)
  replace HEV := Lib.hid (HEV.out.below hb2)
  have HB := Lib.hid hb2
  have HW1 := Lib.hid hb.size
  clear hb hb2 HCU
  obtain ⟨W, hW⟩ : ∃ W, (w1.alloc (.cells #[.int .i64 0, .int .i64 1, .int .i64 2, .int .i64 3, .int .i64 (3 + a), .int .i64 a, .int .i64 (3 + 2 * a), .int .i64 (rn - (3 + 2 * a))] 24)).alloc (.cells #[.int .u32 (E : Int), .int .u32 (N : Int), .int .u64 (C : Int)] 76) = W := ⟨_, rfl⟩
  rw [hW] at HD HB HEV HL HH
  have HWW := Lib.hid hW
  clear hW
  go_wp2_with fail
  rw [HWW.out]
  clear HWW
  generalize w1.heap.size = gl at *
  go_loopw [10, 11] (fun bv iv wr => ∃ (i j : Nat), iv = .int .i64 (i : Int) ∧ i = 64 * j ∧ i < N + 64 ∧ wr.ownsRow W.heap.size 5 1 bv (L.take i).length (bc (L.take i)) ∧ Below W.heap.size W wr) (fun _ iv _ => N + 64 - (intOf iv).toNat)
  case atStart => exact ⟨0, 0, rfl, rfl, by omega, World.ownsRow_nil _ _ _ _, Below.refl _ _⟩
  case round =>
    obtain ⟨i, j, rfl, hij, hin, hown, hbw⟩ := hrel
    have HO := Lib.hid hown
    have HBW := Lib.hid hbw
    clear hown hbw
    by_cases hlt : i < N
    · have hlti : (i : Int) < N := by omega
      have e2 : (i : Int).tdiv 64 = (j : Int) := by rw [Int.tdiv_eq_ediv_of_nonneg (by omega)]; omega
      have e3 : IntKind.i64.wrap (3 + (j : Int)) = 3 + (j : Int) := by rw [IntWalk.i64_in _ (by omega)]
      have hj1 : (j : Int) ≤ 16383 := by omega
      have hN1 : (N : Int) ≤ 1048512 := by omega
      have e4 : IntKind.i64.wrap ((N : Int) - (i : Int)) = (N : Int) - (i : Int) := by rw [IntWalk.i64_in _ (by omega)]
      have e5 : IntKind.i64.wrap ((i : Int) + 64) = (i : Int) + 64 := by rw [IntWalk.i64_in _ (by omega)]
      have CR := Lib.hid (HRD.out wr (HD.out.below HBW.out) j (by omega))
      rw [show ((bb + j : Nat) : Int) = 3 + (j : Int) by have := HBB.out; omega] at CR
      have cl : wr.cell? ⟨gl, 3, none⟩ = some (.int .i64 (3)) := (HL.out.below HBW.out).cell 3
      obtain ⟨m, hm, e7, e8, e9⟩ : ∃ m : Nat, (m = 64 ∧ 64 * j + 64 ≤ N ∨ m = N - 64 * j ∧ N ≤ 64 * j + 64) ∧ (if (N : Int) - (i : Int) < 64 then (N : Int) - (i : Int) else 64) = (m : Int) ∧ m ≤ 64 ∧ (m : Int) ≤ 64 := by
        by_cases h64 : (N : Int) - (i : Int) < 64
        · exact ⟨N - 64 * j, .inr ⟨rfl, by omega⟩, by rw [if_pos h64]; omega, by omega, by omega⟩
        · exact ⟨64, .inl ⟨rfl, by omega⟩, by rw [if_neg h64]; rfl, by omega, by omega⟩
      have HC2 := Lib.hid (HCH.out j (by omega) m hm)
      have HS2 := Lib.hid (HSE.out j (by omega))
      rw [← hij] at HC2
      obtain ⟨sec, hsec⟩ : ∃ x, s.R.getD (bb + j) [] = x := ⟨_, rfl⟩
      rw [hsec] at CR HC2 HS2
      have HIJ := Lib.hid hij
      have HLT := Lib.hid (show (L.take i).length ≤ 1048512 by rw [List.length_take, HL0.out]; omega)
      clear hij hm hsec
      go_wp2_with fail
      refine CR.out.mono ?_
      rintro e2 w2 ⟨g, rfl, hg, hkg, hb2⟩
      have HSR2 := Lib.hid (src_at (n := m) (c := 64) ((bytes_of_blk (n := 64) hkg HS2.out).take (k := m) e8))
      have HO2 := Lib.hid (own_below HO.out hb2)
      have HBX := Lib.hid (HB.out.trans ((HBW.out.trans (hb2.mono HBW.out.size)).mono HB.out.size))
      have HBY := Lib.hid (HBW.out.trans (hb2.mono HBW.out.size))
      clear hkg hg hb2 CR
      go_wp2_with (at_builtin; refine wpList_app rfl (.tmp 55) (.tmp 61) 36 36 rfl W.heap.size w2 _ 5 i0 Tryd.underlying36 hi hz0 hz1 hz2 _ (L.take i) rfl (Grows.refl HO2.out HBY.out.size) _ m (sec.take m) rfl HSR2.out (by have := HLT.out; omega) ?_; intro v4 w4 G4 z4 k4)
      have HO4 := Lib.hid G4.1
      have HB4 := Lib.hid (HBY.out.trans (G4.below_of HO2.out HBY.out.size))
      clear G4 z4 k4 HSR2 HO2 HBX HBY
      go_roundw
      case rel =>
        refine ⟨i + 64, j + 1, by go_num, by have := HIJ.out; omega, by omega, ?_, HB4.out⟩
        have := HO4.out
        rw [HC2.out] at this
        exact this
      case measure => simp [intOf]; omega
    · have hge : (N : Int) ≤ i := by omega
      have hLi : L.take i = L := List.take_of_length_le (by rw [HL0.out]; omega)
      rw [hLi] at HO
      have HBX := Lib.hid (HB.out.trans (HBW.out.mono HB.out.size))
      obtain ⟨A, c, hbv, hxb, hxc, hxc2⟩ := own_bytes3 (F := fun _ => False) HO.out (fun k hk => hk.elim)
      subst hbv
      rw [HL0.out] at hxb hxc
      have HXB := Lib.hid hxb.at
      have HCN := Lib.hid hij
      obtain ⟨cr, hcr⟩ : ∃ x, crc 0 L = x := ⟨_, rfl⟩
      have HCR := Lib.hid hcr
      clear hij hLi hxb hxc hxc2 hcr
      go_wp2_with fail
      refine region_quiet (by kernel_rfl) (by kernel_rfl) (fun D hD hs => ?_)
      have CS := Lib.hid (flipC (Sum_any A N c L D (HXB.out.below hD) (by omega) ((HEV.out.below HBW.out).below hD)))
      rw [HCR.out] at CS
      have ch : D.cell? ⟨gl + 1, 2, none⟩ = some (.int .u64 (C : Int)) := keepcell hD ((HH.out.below HBW.out).cell 2)
      have ch0 : D.cell? ⟨gl + 1, 0, none⟩ = some (.int .u32 (E : Int)) := keepcell hD ((HH.out.below HBW.out).cell 0)
      have HBD := Lib.hid (HBX.out.trans (hD.mono HBX.out.size))
      have HOD := Lib.hid (own_below HO.out hD)
      clear hD hs
      rw [HL0.out]
      repeat still_step
      still_call CS.out
      repeat still_step
      refine wpStill_nil ?_
      by_cases hce : cr = C
      · have HSR3 : Hid ((L, E, 0) = sr) := Lib.hid (by rw [← HSR.out, HCR.out, if_neg (by rw [hce]; simp)])
        have hci : decide ((cr : Int) = C) = true := by simp [hce]
        have hcn : decide (cr = C) = true := by simp [hce]
        go_wp2_with fail
        refine region_quiet (by kernel_rfl) (by kernel_rfl) (fun D2 hD hs => ?_)
        have ch0 : D2.cell? ⟨gl + 1, 0, none⟩ = some (.int .u32 (E : Int)) := keepcell hD ch0
        have HBD2 := Lib.hid (HBD.out.trans (hD.mono HBD.out.size))
        have HOD2 := Lib.hid (own_below HOD.out hD)
        clear hD hs
        repeat still_step
        refine wpStill_nil ?_
        go_wp2
        go_returns
        rw [← HSR3.out]
        refine ⟨_, rfl, ?_, HBD2.out⟩
        have := own_mono HOD2.out HB.out.size
        rwa [HL0.out] at this ⊢
      · have HSR3 : Hid (([], 0, 17) = sr) := Lib.hid (by rw [← HSR.out, HCR.out, if_pos hce])
        have hci : decide ((cr : Int) = C) = false := by simp; omega
        have hcn : decide (cr = C) = false := by simp; omega
        go_wp2
        go_returns
        rw [← HSR3.out]
        exact ⟨_, rfl, World.ownsRow_nil _ _ _ _, HBD.out⟩
set_option maxRecDepth 100000 in
set_option maxHeartbeats 2000000 in
theorem SRead_ok1 (w : World) (p q : Nat) (s : St) (h : Dk w p q s) (hp : ¬ PQ p q 0) (hev : Env w) (hf : s.f = false) (hn7 : 7 ≤ s.R.length) (hsl : slotOf s = 1) (hE0 : epochOf s ≠ 0) (hle : lenOf s ≤ 64 * areaOf s.R.length) :
    Calls Tryd.prog 23 #[.pointer (some ⟨p, 0, none⟩)] w (GivesR w (SR s).1 (SR s).2.1 (SR s).2.2) := by
  obtain ⟨i0, hi, hz0, hz1, hz2⟩ := info_parts Tryd.info5
  obtain ⟨sr, hsr⟩ : ∃ x, SR s = x := ⟨_, rfl⟩
  have e0 := hsr
  rw [SR_go hf hn7 (by omega) hE0 hle, hsl] at e0
  have hbx : baseOf s 1 + nch (lenOf s) ≤ s.R.length := by
    have h1 := area_fit (n := s.R.length) (o := 1) hn7 (by omega)
    have h2 := nch_area hle
    unfold baseOf
    omega
  have h64 := h.2.2.2.1
  obtain ⟨bb, hbb⟩ : ∃ x, baseOf s 1 = x := ⟨_, rfl⟩
  have hbb2 := hbb
  unfold baseOf at hbb2
  rw [hbb] at e0 hbx
  rw [hsr]
  have hn2 : s.R.length ≤ 65536 := h.2.2.2.2.2.1
  obtain ⟨a, ha⟩ : ∃ a : Int, (areaOf s.R.length : Int) = a := ⟨_, rfl⟩
  have hb16 : 1 ≤ a ∧ a ≤ 16383 := by rw [← ha]; unfold areaOf; omega
  obtain ⟨rn, hrn⟩ : ∃ n, s.R.length = n := ⟨_, rfl⟩
  have HCU := Lib.hid (cur_ok w p q s h hf hn7 (by omega))
  rw [ha, hsl, hdrVe, hrn] at HCU
  unfold layV at HCU
  obtain ⟨E, hE⟩ : ∃ x, epochOf s = x := ⟨_, rfl⟩
  obtain ⟨N, hN⟩ : ∃ x, lenOf s = x := ⟨_, rfl⟩
  obtain ⟨C, hC⟩ : ∃ x, sumOf s = x := ⟨_, rfl⟩
  rw [hE, hN, hC] at HCU
  have hbI : (bb : Int) = 3 + a := by rw [← hbb2]; simp only [Nat.zero_mul, Nat.one_mul]; omega
  rw [hN] at e0 hbx
  rw [hC, hE] at e0
  have HL0 := Lib.hid (rall_len (s := s) h64 hbx)
  have HCH := Lib.hid (fun j (hj : 64 * j < N) m hm => rall_chunk (s := s) (base := bb) (N := N) (j := j) h64 hbx hj (m := m) hm)
  have HSE := Lib.hid (fun j (hj : 64 * j < N) => show (s.R.getD (bb + j) []).length = 64 from getD_len64 h64 (by unfold nch at hbx; omega))
  have HRD := Lib.hid (fun W (hW : Dk W p q s) j (hj : 64 * j < N) => Read_ok W p q s hW hf (bb + j) (by unfold nch at hbx; omega))
  obtain ⟨L, hL⟩ : ∃ x, rall s bb N = x := ⟨_, rfl⟩
  rw [hL] at e0 HL0
  simp only [hL] at HCH
  have hei : ¬ (E : Int) = 0 := by omega
  have hfi : (N : Int) ≤ a * 64 := by omega
  have hfd : decide (a * 64 < (N : Int)) = false := by simpa using hfi
  have hEd : decide ((E : Int) = 0) = false := by simp; omega
  have hEd2 : decide (E = 0) = false := by simp; omega
  have hEd3 : ((E : Int) == 0) = false := by simp; omega
  have hEd4 : (E == 0) = false := by simp; omega
  have hw : IntKind.i64.wrap (N : Int) = N := by rw [IntWalk.i64_in _ (by omega)]
  have hNb : N ≤ 1048512 := by omega
  have HSR := Lib.hid e0
  have HD := Lib.hid h
  have HEV := Lib.hid hev
  have HBB := Lib.hid hbI
  clear h e0 hf hn7 hsl hE0 hE hN hC ha hrn hn2 hle hsr hev hbb hbb2 hbx h64 hL hbI
  go_enter Tryd.func23, Tryd.ntmps23
  go_wp2_with fail
  refine HCU.out.mono ?_
  rintro e1 w1 ⟨rfl, hb⟩
  have hb2 : Below w.heap.size w ((w1.alloc (.cells #[.int .i64 0, .int .i64 1, .int .i64 2, .int .i64 3, .int .i64 (3 + a), .int .i64 a, .int .i64 (3 + 2 * a), .int .i64 (rn - (3 + 2 * a))] 24)).alloc (.cells #[.int .u32 (E : Int), .int .u32 (N : Int), .int .u64 (C : Int)] 76)) := hb.trans (((Below.refl _ w1).alloc (Nat.le_refl _) _).alloc (by simp) _ |>.mono hb.size)
  have HL := Lib.hid (show Blk ((w1.alloc (.cells #[.int .i64 0, .int .i64 1, .int .i64 2, .int .i64 3, .int .i64 (3 + a), .int .i64 a, .int .i64 (3 + 2 * a), .int .i64 (rn - (3 + 2 * a))] 24)).alloc (.cells #[.int .u32 (E : Int), .int .u32 (N : Int), .int .u64 (C : Int)] 76)) w1.heap.size 24 #[.int .i64 0, .int .i64 1, .int .i64 2, .int .i64 3, .int .i64 (3 + a), .int .i64 a, .int .i64 (3 + 2 * a), .int .i64 (rn - (3 + 2 * a))] from (Blk.new w1 24 _).alloc _)
  have HH := Lib.hid (show Blk ((w1.alloc (.cells #[.int .i64 0, .int .i64 1, .int .i64 2, .int .i64 3, .int .i64 (3 + a), .int .i64 a, .int .i64 (3 + 2 * a), .int .i64 (rn - (3 + 2 * a))] 24)).alloc (.cells #[.int .u32 (E : Int), .int .u32 (N : Int), .int .u64 (C : Int)] 76)) (w1.heap.size + 1) 76 #[.int .u32 (E : Int), .int .u32 (N : Int), .int .u64 (C : Int)] from Blk.new_ (by simp) rfl)
  replace HD := Lib.hid (HD.out.below hb2)
  replace HEV := Lib.hid (HEV.out.below hb2)
  have HB := Lib.hid hb2
  have HW1 := Lib.hid hb.size
  clear hb hb2 HCU
  obtain ⟨W, hW⟩ : ∃ W, (w1.alloc (.cells #[.int .i64 0, .int .i64 1, .int .i64 2, .int .i64 3, .int .i64 (3 + a), .int .i64 a, .int .i64 (3 + 2 * a), .int .i64 (rn - (3 + 2 * a))] 24)).alloc (.cells #[.int .u32 (E : Int), .int .u32 (N : Int), .int .u64 (C : Int)] 76) = W := ⟨_, rfl⟩
  rw [hW] at HD HB HEV HL HH
  have HWW := Lib.hid hW
  clear hW
  go_wp2_with fail
  rw [HWW.out]
  clear HWW
  generalize w1.heap.size = gl at *
  go_loopw [10, 11] (fun bv iv wr => ∃ (i j : Nat), iv = .int .i64 (i : Int) ∧ i = 64 * j ∧ i < N + 64 ∧ wr.ownsRow W.heap.size 5 1 bv (L.take i).length (bc (L.take i)) ∧ Below W.heap.size W wr) (fun _ iv _ => N + 64 - (intOf iv).toNat)
  case atStart => exact ⟨0, 0, rfl, rfl, by omega, World.ownsRow_nil _ _ _ _, Below.refl _ _⟩
  case round =>
    obtain ⟨i, j, rfl, hij, hin, hown, hbw⟩ := hrel
    have HO := Lib.hid hown
    have HBW := Lib.hid hbw
    clear hown hbw
    by_cases hlt : i < N
    · have hlti : (i : Int) < N := by omega
      have e2 : (i : Int).tdiv 64 = (j : Int) := by rw [Int.tdiv_eq_ediv_of_nonneg (by omega)]; omega
      have e3 : IntKind.i64.wrap (3 + a + (j : Int)) = 3 + a + (j : Int) := by rw [IntWalk.i64_in _ (by omega)]
      have hj1 : (j : Int) ≤ 16383 := by omega
      have hN1 : (N : Int) ≤ 1048512 := by omega
      have e4 : IntKind.i64.wrap ((N : Int) - (i : Int)) = (N : Int) - (i : Int) := by rw [IntWalk.i64_in _ (by omega)]
      have e5 : IntKind.i64.wrap ((i : Int) + 64) = (i : Int) + 64 := by rw [IntWalk.i64_in _ (by omega)]
      have CR := Lib.hid (HRD.out wr (HD.out.below HBW.out) j (by omega))
      rw [show ((bb + j : Nat) : Int) = 3 + a + (j : Int) by have := HBB.out; omega] at CR
      have cl : wr.cell? ⟨gl, 4, none⟩ = some (.int .i64 (3 + a)) := (HL.out.below HBW.out).cell 4
      obtain ⟨m, hm, e7, e8, e9⟩ : ∃ m : Nat, (m = 64 ∧ 64 * j + 64 ≤ N ∨ m = N - 64 * j ∧ N ≤ 64 * j + 64) ∧ (if (N : Int) - (i : Int) < 64 then (N : Int) - (i : Int) else 64) = (m : Int) ∧ m ≤ 64 ∧ (m : Int) ≤ 64 := by
        by_cases h64 : (N : Int) - (i : Int) < 64
        · exact ⟨N - 64 * j, .inr ⟨rfl, by omega⟩, by rw [if_pos h64]; omega, by omega, by omega⟩
        · exact ⟨64, .inl ⟨rfl, by omega⟩, by rw [if_neg h64]; rfl, by omega, by omega⟩
      have HC2 := Lib.hid (HCH.out j (by omega) m hm)
      have HS2 := Lib.hid (HSE.out j (by omega))
      rw [← hij] at HC2
      obtain ⟨sec, hsec⟩ : ∃ x, s.R.getD (bb + j) [] = x := ⟨_, rfl⟩
      rw [hsec] at CR HC2 HS2
      have HIJ := Lib.hid hij
      have HLT := Lib.hid (show (L.take i).length ≤ 1048512 by rw [List.length_take, HL0.out]; omega)
      clear hij hm hsec
      go_wp2_with fail
      refine CR.out.mono ?_
      rintro e2 w2 ⟨g, rfl, hg, hkg, hb2⟩
      have HSR2 := Lib.hid (src_at (n := m) (c := 64) ((bytes_of_blk (n := 64) hkg HS2.out).take (k := m) e8))
      have HO2 := Lib.hid (own_below HO.out hb2)
      have HBX := Lib.hid (HB.out.trans ((HBW.out.trans (hb2.mono HBW.out.size)).mono HB.out.size))
      have HBY := Lib.hid (HBW.out.trans (hb2.mono HBW.out.size))
      clear hkg hg hb2 CR
      go_wp2_with (at_builtin; refine wpList_app rfl (.tmp 55) (.tmp 61) 36 36 rfl W.heap.size w2 _ 5 i0 Tryd.underlying36 hi hz0 hz1 hz2 _ (L.take i) rfl (Grows.refl HO2.out HBY.out.size) _ m (sec.take m) rfl HSR2.out (by have := HLT.out; omega) ?_; intro v4 w4 G4 z4 k4)
      have HO4 := Lib.hid G4.1
      have HB4 := Lib.hid (HBY.out.trans (G4.below_of HO2.out HBY.out.size))
      clear G4 z4 k4 HSR2 HO2 HBX HBY
      go_roundw
      case rel =>
        refine ⟨i + 64, j + 1, by go_num, by have := HIJ.out; omega, by omega, ?_, HB4.out⟩
        have := HO4.out
        rw [HC2.out] at this
        exact this
      case measure => simp [intOf]; omega
    · have hge : (N : Int) ≤ i := by omega
      have hLi : L.take i = L := List.take_of_length_le (by rw [HL0.out]; omega)
      rw [hLi] at HO
      have HBX := Lib.hid (HB.out.trans (HBW.out.mono HB.out.size))
      obtain ⟨A, c, hbv, hxb, hxc, hxc2⟩ := own_bytes3 (F := fun _ => False) HO.out (fun k hk => hk.elim)
      subst hbv
      rw [HL0.out] at hxb hxc
      have HXB := Lib.hid hxb.at
      have HCN := Lib.hid hij
      obtain ⟨cr, hcr⟩ : ∃ x, crc 0 L = x := ⟨_, rfl⟩
      have HCR := Lib.hid hcr
      clear hij hLi hxb hxc hxc2 hcr
      go_wp2_with fail
      refine region_quiet (by kernel_rfl) (by kernel_rfl) (fun D hD hs => ?_)
      have CS := Lib.hid (flipC (Sum_any A N c L D (HXB.out.below hD) (by omega) ((HEV.out.below HBW.out).below hD)))
      rw [HCR.out] at CS
      have ch : D.cell? ⟨gl + 1, 2, none⟩ = some (.int .u64 (C : Int)) := keepcell hD ((HH.out.below HBW.out).cell 2)
      have ch0 : D.cell? ⟨gl + 1, 0, none⟩ = some (.int .u32 (E : Int)) := keepcell hD ((HH.out.below HBW.out).cell 0)
      have HBD := Lib.hid (HBX.out.trans (hD.mono HBX.out.size))
      have HOD := Lib.hid (own_below HO.out hD)
      clear hD hs
      rw [HL0.out]
      repeat still_step
      still_call CS.out
      repeat still_step
      refine wpStill_nil ?_
      by_cases hce : cr = C
      · have HSR3 : Hid ((L, E, 0) = sr) := Lib.hid (by rw [← HSR.out, HCR.out, if_neg (by rw [hce]; simp)])
        have hci : decide ((cr : Int) = C) = true := by simp [hce]
        have hcn : decide (cr = C) = true := by simp [hce]
        go_wp2_with fail
        refine region_quiet (by kernel_rfl) (by kernel_rfl) (fun D2 hD hs => ?_)
        have ch0 : D2.cell? ⟨gl + 1, 0, none⟩ = some (.int .u32 (E : Int)) := keepcell hD ch0
        have HBD2 := Lib.hid (HBD.out.trans (hD.mono HBD.out.size))
        have HOD2 := Lib.hid (own_below HOD.out hD)
        clear hD hs
        repeat still_step
        refine wpStill_nil ?_
        go_wp2
        go_returns
        rw [← HSR3.out]
        refine ⟨_, rfl, ?_, HBD2.out⟩
        have := own_mono HOD2.out HB.out.size
        rwa [HL0.out] at this ⊢
      · have HSR3 : Hid (([], 0, 17) = sr) := Lib.hid (by rw [← HSR.out, HCR.out, if_pos hce])
        have hci : decide ((cr : Int) = C) = false := by simp; omega
        have hcn : decide (cr = C) = false := by simp; omega
        go_wp2
        go_returns
        rw [← HSR3.out]
        exact ⟨_, rfl, World.ownsRow_nil _ _ _ _, HBD.out⟩
end Go.Proofs.YthhpilkhcomhbaaDoor
