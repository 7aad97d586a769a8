/- Scanning a log. -/
import Derived.Test.YtgpofkabidginaaWsp
namespace Go.Proofs.Ytgpofkabidginaa
open Go.ChangeShapes Go.WideShapes Go.ChangeAt Go.RowKit Go.ChangeMaps

theorem cnt_lt (b : List UInt8) : cnt b < 256 := (b.getD 59 0).toNat_lt
theorem seg_cons {R : List (List UInt8)} {f i c : Nat} (hi : i < c) (hr : f + c ≤ R.length) : (R.drop (f + i)).take (c - i) = R.getD (f + i) [] :: (R.drop (f + (i + 1))).take (c - (i + 1)) := by
  rw [List.drop_eq_getElem_cons (by omega), show c - i = (c - (i + 1)) + 1 by omega, List.take_succ_cons, List.getD_eq_getElem?_getD, List.getElem?_eq_getElem (by omega)]
  rfl
theorem OR.weakB {F : Nat → Prop} {B B' : Nat} {w : World} {v : Value} {L : List Rw} (h : OR F B w v L) (hB : B' ≤ B) : OR F B' w v L := ⟨own_mono h.1 hB, h.2⟩
theorem Scan_bad (w : World) (p q : Nat) (s : St) (h : Dk w p q s) (f c e : Int) (hb : mayB (s.R.length : Nat) f c e = false) : Calls Try.prog 22 #[.pointer (some ⟨p, 0, none⟩), .int .i64 f, .int .i64 c, .int .u32 e] w fun e' w' => e' = .returned (.tuple #[.slice none 0 0, .int .i64 1]) ∧ w = w' := by
  have HV := Lib.hid (valid_any w p q s h f c e false hb)
  clear hb h
  go_enter Try.func22, Try.ntmps22
  go_wp2_with (go_at_call 42; refine HV.out.mono ?_; rintro e w' ⟨rfl, rfl⟩)
  go_ret2
  exact ⟨rfl, rfl⟩
theorem mayB_of {n f c e : Int} (h : mayB n f c e = true) : 0 ≤ f ∧ f ≤ n ∧ 1 ≤ c ∧ c ≤ n - f ∧ 1 ≤ e := by unfold mayB at h; simpa using h
set_option maxRecDepth 100000 in
theorem Scan_fail (w : World) (p q : Nat) (s : St) (h : Dk w p q s) (hf : s.f = true) (f c e : Nat) (hb : mayB (s.R.length : Nat) f c e = true) : Calls Try.prog 22 #[.pointer (some ⟨p, 0, none⟩), .int .i64 (f : Int), .int .i64 (c : Int), .int .u32 (e : Int)] w fun e' w' => e' = .returned (.tuple #[.slice none 0 0, .int .i64 15]) ∧ w = w' := by
  have HV := Lib.hid (valid_any w p q s h f c e true hb)
  have HR := Lib.hid (fun i => Read_bad w p q s h i 15 (.inl ⟨hf, rfl⟩))
  have hv := mayB_of hb
  have hn : s.R.length ≤ 65536 := h.2.2.2.2.2.1
  obtain ⟨h1, h2, h3, h4, h5⟩ := hv
  generalize s.R.length = nn at *
  clear hb h hf
  go_enter Try.func22, Try.ntmps22
  go_wp2_with (go_at_call 42; refine HV.out.mono ?_; rintro e w' ⟨rfl, rfl⟩)
  go_loop [10, 22] (fun sv iv => iv = .int .i64 0 ∧ sv = .slice none 0 0) (fun _ _ => 0)
  case atStart => exact ⟨rfl, rfl⟩
  case round =>
    obtain ⟨rfl, rfl⟩ := hrel
    have hci : (0 : Int) < (c : Int) := by omega
    go_wp2_with (go_at_call 37; refine (HR.out _).mono ?_; rintro e w' ⟨rfl, rfl⟩)
    go_ret2
    exact ⟨rfl, rfl⟩
set_option maxRecDepth 100000 in
set_option maxHeartbeats 2000000 in
theorem Scan_ok (F : Nat → Prop) (w : World) (hFB : ∀ k, F k → k < w.heap.size) (p q : Nat) (s : St) (h : Dk w p q s) (hsf : s.f = false) (f c e : Nat) (hb : mayB (s.R.length : Nat) f c e = true) (he : e < 4294967296) :
    Calls Try.prog 22 #[.pointer (some ⟨p, 0, none⟩), .int .i64 (f : Int), .int .i64 (c : Int), .int .u32 (e : Int)] w fun e' w' => ∃ v L, e' = .returned (.tuple #[v, .int .i64 0]) ∧ OR F w.heap.size w' v L ∧ L.map Rw.l = splitA (streamM e ((s.R.drop f).take c)) ∧ Below w.heap.size w w' := by
  obtain ⟨i0, hi, hz0, hz1, hz2⟩ := info_parts Try.info5
  have HV := Lib.hid (valid_any w p q s h f c e true hb)
  have hv := mayB_of hb
  have hn : s.R.length ≤ 65536 := h.2.2.2.2.2.1
  obtain ⟨h1, h2, h3, h4, h5⟩ := hv
  have hfc : f + c ≤ s.R.length := by omega
  have HD := Lib.hid h
  have HFB := Lib.hid hFB
  have H64 := Lib.hid h.2.2.2.1
  obtain ⟨tot, htot⟩ : ∃ x, streamM e ((s.R.drop f).take c) = x := ⟨_, rfl⟩
  rw [htot]
  have HTOT := Lib.hid htot
  clear hb h hFB h1 h2 h4 htot
  go_enter Try.func22, Try.ntmps22
  go_wp2_with (go_at_call 42; refine HV.out.mono ?_; rintro e w' ⟨rfl, rfl⟩)
  go_loopw [10, 22] (fun sv iv wr => ∃ (i : Nat) (st : List UInt8), iv = .int .i64 (i : Int) ∧ i ≤ c ∧ wr.ownsRow w.heap.size 5 1 sv st.length (bc st) ∧ st ++ streamM e ((s.R.drop (f + i)).take (c - i)) = tot ∧ st.length ≤ 59 * i ∧ Below w.heap.size w wr) (fun _ iv _ => c - (intOf iv).toNat)
  case atStart => exact ⟨0, [], rfl, Nat.zero_le _, World.ownsRow_nil _ _ _ _, HTOT.out, by simp, Below.refl _ _⟩
  case round =>
    obtain ⟨i, st, rfl, hic, hown, hst, hsl, hB⟩ := hrel
    have HO := Lib.hid hown
    have HB := Lib.hid hB
    obtain ⟨A0, c0, rfl, hxb, hxc, hxc2⟩ := own_bytes3 hown HFB.out
    have HXB := Lib.hid hxb.at
    have hxl : st.length ≤ 100000000 := by omega
    have HS0 := Lib.hid hst
    clear hown hB hxb hst
    by_cases hlt : i < c
    · have hlti : (i : Int) < (c : Int) := by omega
      have hk : f + i < s.R.length := by omega
      have HSG := Lib.hid (seg_cons (R := s.R) hlt hfc)
      have hrd := Read_ok wr p q s (HD.out.below HB.out) hsf (f + i) hk
      rw [show ((f + i : Nat) : Int) = (f : Int) + (i : Int) by omega] at hrd
      have HRD := Lib.hid hrd
      clear hrd
      obtain ⟨sec, hsec⟩ : ∃ x, s.R.getD (f + i) [] = x := ⟨_, rfl⟩
      have HSL : Hid (sec.length = 64) := Lib.hid (by rw [← hsec]; exact getD_len64 H64.out hk)
      rw [hsec] at HRD HSG
      clear hsec
      obtain ⟨cn, hcn⟩ : ∃ x, cnt sec = x := ⟨_, rfl⟩
      have hcn256 : cn < 256 := by rw [← hcn]; exact cnt_lt sec
      obtain ⟨en, hen⟩ : ∃ x, ends sec = x := ⟨_, rfl⟩
      have henl : en < 4294967296 := by rw [← hen]; exact rd4_lt _
      have HCN := Lib.hid hcn
      have HEN := Lib.hid hen
      clear hcn hen
      go_wp2_with fail
      refine HRD.out.mono ?_
      rintro e' w2 ⟨g, rfl, hgg, hgb, hb2⟩
      have c59 : w2.cell? ⟨g, 59, none⟩ = some (.int .u8 (cn : Int)) := by
        rw [hgb.cell 59, ← HCN.out]
        unfold cnt
        have h59 : 59 < sec.length := by rw [HSL.out]; decide
        rw [List.getElem?_toArray, bc_at sec 59 h59, List.getD_eq_getElem?_getD, List.getElem?_eq_getElem h59]
        rfl
      have HSB := Lib.hid (bytes_of_blk (n := 64) hgb HSL.out)
      have HB2 := Lib.hid (HB.out.trans (hb2.mono HB.out.size))
      have HO2 := Lib.hid (own_below HO.out hb2)
      have HXB2 := Lib.hid (HXB.out.below hb2)
      have HNB := Lib.hid (number_any w2 g (0 + 60) (64 - 60) 4 _ (HSB.out.drop (by decide)) (by decide) (by decide) (en : Int) (by rw [← HEN.out]; rfl))
      clear hgg hgb hb2 HB HO HXB HRD
      change Hid (Calls Try.prog 51 #[.slice (some ⟨g, 60, none⟩) 4 4] w2 fun e w' => e = .returned (.int .u32 (en : Int)) ∧ ∃ k, w' = w2.drewN k) at HNB
      go_wp2_with fail
      refine HNB.out.mono ?_
      rintro e' w3 ⟨rfl, hw3⟩
      have hb3 := below_dn hw3
      have c59 : w3.cell? ⟨g, 59, none⟩ = some (.int .u8 (cn : Int)) := keepcell hb3 c59
      have HSB := Lib.hid (HSB.out.below hb3)
      have HBX := Lib.hid (HB2.out.trans (hb3.mono HB2.out.size))
      have HO3 := Lib.hid (own_below HO2.out hb3)
      have HXB := Lib.hid (HXB2.out.below hb3)
      clear hw3 hb3 HB2 HO2 HXB2 HNB
      by_cases hee : en = e
      · subst hee
        by_cases hc59 : 59 < cn
        · have hc59i : (59 : Int) < (cn : Int) := by omega
          have HST : Hid (st = tot) := Lib.hid (by rw [← HS0.out, HSG.out, streamM, HCN.out, if_pos (.inl hc59), List.append_nil])
          go_wp2_with fail
          refine (split_any F _ (fun k hk => Nat.lt_of_lt_of_le (HFB.out k hk) HBX.out.size) _ _ _ _ HXB.out hxl hxc hxc2).mono ?_
          rintro e' w9 ⟨v9, L9, rfl, ho9, hl9, hb9⟩
          go_wp2
          go_ret2
          exact ⟨v9, L9, rfl, ho9.weakB HBX.out.size, by rw [hl9, HST.out], HBX.out.trans (hb9.mono HBX.out.size)⟩
        · have hc59i : (cn : Int) ≤ 59 := by omega
          have hc0i : (0 : Int) ≤ (cn : Int) := by omega
          have HSR := Lib.hid (src_at (n := cn) (c := 64) (HSB.out.take (show cn ≤ 64 by omega)))
          have HTL : Hid ((sec.take cn).length = cn) := Lib.hid (by rw [List.length_take, HSL.out]; omega)
          by_cases hlt59 : cn < 59
          · have hlti59 : (cn : Int) < 59 := by omega
            have HST : Hid (st ++ sec.take cn = tot) := Lib.hid (by rw [← HS0.out, HSG.out, streamM, HCN.out, HEN.out, if_neg (by omega), if_pos hlt59, List.append_nil])
            go_wp2_with (at_builtin; refine wpList_app rfl (.tmp 49) (.tmp 52) 38 38 rfl w.heap.size w3 _ 5 i0 Try.underlying38 hi hz0 hz1 hz2 _ st rfl (Grows.refl HO3.out HBX.out.size) _ cn (sec.take cn) rfl HSR.out (by omega) ?_; intro v4 w4 G4 z4 k4)
            have HO4 := Lib.hid G4.1
            have HBX4 := Lib.hid (HBX.out.trans (G4.below_of HO3.out HBX.out.size))
            clear G4 z4 k4
            obtain ⟨A0, c0, rfl, hxb, hxc, hxc2⟩ := own_bytes3 HO4.out HFB.out
            have HXB := Lib.hid hxb.at
            have hxl : (st ++ sec.take cn).length ≤ 100000000 := by rw [List.length_append, HTL.out]; omega
            have HBX := HBX4
            clear hxb
            go_wp2_with fail
            refine (split_any F _ (fun k hk => Nat.lt_of_lt_of_le (HFB.out k hk) HBX.out.size) _ _ _ _ HXB.out hxl hxc hxc2).mono ?_
            rintro e' w9 ⟨v9, L9, rfl, ho9, hl9, hb9⟩
            go_wp2
            go_ret2
            exact ⟨v9, L9, rfl, ho9.weakB HBX.out.size, by rw [hl9, HST.out], HBX.out.trans (hb9.mono HBX.out.size)⟩
          · obtain rfl : cn = 59 := by omega
            have HST : Hid (st ++ sec.take 59 ++ streamM en ((s.R.drop (f + (i + 1))).take (c - (i + 1))) = tot) := Lib.hid (by rw [← HS0.out, HSG.out, streamM, HCN.out, HEN.out, if_neg (by omega), if_neg (by omega), List.append_assoc])
            go_wp2_with (at_builtin; refine wpList_app rfl (.tmp 49) (.tmp 52) 38 38 rfl w.heap.size w3 _ 5 i0 Try.underlying38 hi hz0 hz1 hz2 _ st rfl (Grows.refl HO3.out HBX.out.size) _ 59 (sec.take 59) rfl HSR.out (by omega) ?_; intro v4 w4 G4 z4 k4)
            have HO4 := Lib.hid G4.1
            have HBX4 := Lib.hid (HBX.out.trans (G4.below_of HO3.out HBX.out.size))
            clear G4 z4 k4
            go_wp2
            go_roundw
            case rel => exact ⟨i + 1, st ++ sec.take 59, by go_num, by omega, HO4.out, HST.out, by rw [List.length_append, HTL.out]; omega, HBX4.out⟩
            case measure => simp [intOf]; omega
      · have hne : ((en : Int) == (e : Int)) = false := by simp; omega
        have hne2 : ((en : Int) != (e : Int)) = true := by simp; omega
        have HST : Hid (st = tot) := Lib.hid (by rw [← HS0.out, HSG.out, streamM, HEN.out, if_pos (.inr hee), List.append_nil])
        go_wp2_with fail
        refine (split_any F _ (fun k hk => Nat.lt_of_lt_of_le (HFB.out k hk) HBX.out.size) _ _ _ _ HXB.out hxl hxc hxc2).mono ?_
        rintro e' w9 ⟨v9, L9, rfl, ho9, hl9, hb9⟩
        go_wp2
        go_ret2
        exact ⟨v9, L9, rfl, ho9.weakB HBX.out.size, by rw [hl9, HST.out], HBX.out.trans (hb9.mono HBX.out.size)⟩
    · obtain rfl : i = c := by omega
      have HBX := HB
      have HST : Hid (st = tot) := Lib.hid (by
        rw [← HS0.out, Nat.sub_self, List.take_zero]
        unfold streamM
        rw [List.append_nil])
      go_wp2_with fail
      refine (split_any F _ (fun k hk => Nat.lt_of_lt_of_le (HFB.out k hk) HBX.out.size) _ _ _ _ HXB.out hxl hxc hxc2).mono ?_
      rintro e' w9 ⟨v9, L9, rfl, ho9, hl9, hb9⟩
      go_wp2
      go_ret2
      exact ⟨v9, L9, rfl, ho9.weakB HBX.out.size, by rw [hl9, HST.out], HBX.out.trans (hb9.mono HBX.out.size)⟩
end Go.Proofs.Ytgpofkabidginaa
