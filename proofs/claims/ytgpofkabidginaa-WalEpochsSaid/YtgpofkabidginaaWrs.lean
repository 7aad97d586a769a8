/- Scanning a disk of the reference. -/
import Derived.Test.YtgpofkabidginaaWsn
namespace Go.Proofs.Ytgpofkabidginaa
open Go.ChangeShapes Go.WideShapes Go.ChangeAt Go.RowKit Go.ChangeMaps

theorem seg_cons2 {R : List (List UInt8)} {a N : Nat} (hi : a < N) (hr : N ≤ R.length) : (R.drop a).take (N - a) = R.getD a [] :: (R.drop (a + 1)).take (N - (a + 1)) := by
  have := seg_cons (R := R) (f := 0) hi (by omega)
  simpa using this
set_option maxRecDepth 100000 in
set_option maxHeartbeats 2000000 in
theorem stream_any (F : Nat → Prop) (w : World) (hFB : ∀ k, F k → k < w.heap.size) (r t : Nat) (s : St) (h : Rk F w r t s) (f c e : Nat) (hfc : f + c ≤ s.R.length) (he : e < 4294967296) :
    Calls Try.prog 53 #[.pointer (some ⟨r, 0, none⟩), .int .i64 (f : Int), .int .i64 (c : Int), .int .u32 (e : Int)] w fun e' w' => ∃ v, e' = .returned v ∧ w'.ownsRow w.heap.size 5 1 v (streamM e ((s.R.drop f).take c)).length (bc (streamM e ((s.R.drop f).take c))) ∧ Below w.heap.size w w' := by
  obtain ⟨i0, hi, hz0, hz1, hz2⟩ := info_parts Try.info5
  have hn : s.R.length ≤ 65536 := h.ok.2.2.1
  have HD := Lib.hid h
  have HFB := Lib.hid hFB
  have H64 := Lib.hid h.ok.1
  obtain ⟨N, hN⟩ : ∃ x, f + c = x := ⟨_, rfl⟩
  obtain ⟨tot, htot⟩ : ∃ x, streamM e ((s.R.drop f).take c) = x := ⟨_, rfl⟩
  rw [htot]
  rw [show c = N - f by omega] at htot
  have HTOT := Lib.hid htot
  have hNi : (f : Int) + (c : Int) = (N : Int) := by omega
  have HNI := Lib.hid hNi
  have hfN : f ≤ N := by omega
  have hNl : N ≤ s.R.length := by omega
  have hsum1 : (f : Int) + (c : Int) ≤ (N : Int) := by omega
  have hsum2 : (N : Int) ≤ (f : Int) + (c : Int) := by omega
  clear h hFB htot hNi hN hfc
  go_enter Try.func53, Try.ntmps53
  go_wp2
  go_loopw [9, 10] (fun sv iv wr => ∃ (a : Nat) (st : List UInt8), iv = .int .i64 (a : Int) ∧ f ≤ a ∧ a ≤ N ∧ wr.ownsRow w.heap.size 5 1 sv st.length (bc st) ∧ st ++ streamM e ((s.R.drop a).take (N - a)) = tot ∧ st.length ≤ 59 * a ∧ Below w.heap.size w wr) (fun _ iv _ => N - (intOf iv).toNat)
  case atStart => exact ⟨f, [], rfl, Nat.le_refl _, hfN, World.ownsRow_nil _ _ _ _, HTOT.out, by simp, Below.refl _ _⟩
  case round =>
    obtain ⟨a, st, rfl, hfa, hic, hown, hst, hsl, hB⟩ := hrel
    have HO := Lib.hid hown
    have HB := Lib.hid hB
    obtain ⟨A0, c0, rfl, -⟩ := own_bytes hown
    have HS0 := Lib.hid hst
    clear hown hB hst
    by_cases hlt : a < N
    · have hlti : (a : Int) < (N : Int) := by omega
      have hk : a < s.R.length := by omega
      have HSG := Lib.hid (seg_cons2 (R := s.R) hlt hNl)
      obtain ⟨cap, hcap, c0w, -⟩ := HD.out.cells
      obtain ⟨A9, c9, e9w, h9, h9', b9, -⟩ := HD.out.sec a hk
      have c0' : wr.cell? ⟨r, 0, none⟩ = _ := keepcell HB.out c0w
      have e9 : wr.cell? ⟨t, a, none⟩ = _ := keepcell HB.out e9w
      clear c0w e9w
      obtain ⟨ob, ooff, rfl⟩ := b9.at.some (by decide)
      obtain ⟨sec, hsec⟩ : ∃ x, s.R.getD a [] = x := ⟨_, rfl⟩
      have HSL : Hid (sec.length = 64) := Lib.hid (by rw [← hsec]; exact getD_len64 H64.out hk)
      rw [hsec] at b9 HSG
      clear hsec
      have hb9w := b9.at
      have hb9 := hb9w.below HB.out
      obtain ⟨cn, hcn⟩ : ∃ x, cnt sec = x := ⟨_, rfl⟩
      have hcn256 : cn < 256 := by rw [← hcn]; exact cnt_lt sec
      obtain ⟨en, hen⟩ : ∃ x, ends sec = x := ⟨_, rfl⟩
      have henl : en < 4294967296 := by rw [← hen]; exact rd4_lt _
      have HCN := Lib.hid hcn
      have HEN := Lib.hid hen
      clear hcn hen
      have c59w : w.cell? ⟨ob, ooff + 59, none⟩ = some (.int .u8 (cn : Int)) := by
        obtain ⟨b', o', e', -, hc⟩ := hb9w.2 (by decide)
        cases e'
        have h59 : 59 < sec.length := by rw [HSL.out]; decide
        rw [hc 59 h59, ← HCN.out]
        unfold cnt
        rw [List.getD_eq_getElem?_getD, List.getElem?_eq_getElem h59]
        rfl
      have c59 : wr.cell? ⟨ob, ooff + 59, none⟩ = some (.int .u8 (cn : Int)) := keepcell HB.out c59w
      have C59W := Lib.hid c59w
      clear c59w
      have HSB := Lib.hid hb9
      have HNB := Lib.hid (read_any wr ob (ooff + 60) (64 - 60) (c9 - 60) _ (hb9.drop (by decide)) (by decide) (by decide) (en : Int) (by rw [← HEN.out]; rfl))
      change Hid (Calls Try.prog 54 #[.slice (some ⟨ob, ooff + 60, none⟩) 4 (c9 - 60)] wr fun e w' => e = .returned (.int .u32 (en : Int)) ∧ ∃ k, w' = wr.drewN k) at HNB
      have h60 : ¬ c9 = 60 := by omega
      have hc60 : (60 : Int) ≤ (c9 : Int) := by omega
      have hki : (a : Int) < s.R.length := by omega
      have hkk : (0 : Int) ≤ (a : Int) := by omega
      clear b9 hb9 hb9w
      by_cases hc59 : 59 < cn
      · have hc59i : (59 : Int) < (cn : Int) := by omega
        have HST : Hid (st = tot) := Lib.hid (by rw [← HS0.out, HSG.out, streamM, HCN.out, if_pos (.inl hc59), List.append_nil])
        go_wp2_with fail
        go_ret
        rw [← HST.out]
        exact ⟨_, rfl, HO.out, HB.out⟩
      · have hc59i : (cn : Int) ≤ 59 := by omega
        by_cases hee : en = e
        · subst hee
          have hc0i : (0 : Int) ≤ (cn : Int) := by omega
          have hcnc : (cn : Int) ≤ (c9 : Int) := by omega
          have HTL : Hid ((sec.take cn).length = cn) := Lib.hid (by rw [List.length_take, HSL.out]; omega)
          go_wp2_with fail
          refine HNB.out.mono ?_
          rintro e' w3 ⟨rfl, kq, rfl⟩
          have hb3 : Below wr.heap.size wr (wr.drewN kq) := below_drewN (Below.refl _ _)
          have HBX := Lib.hid (HB.out.trans (hb3.mono HB.out.size))
          have HO3 := Lib.hid (own_below HO.out hb3)
          have HSR := Lib.hid (src_at (n := cn) (c := c9) ((HSB.out.below hb3).take (show cn ≤ 64 by omega)))
          clear hb3 HB HO
          by_cases hlt59 : cn < 59
          · have hlti59 : (cn : Int) < 59 := by omega
            have HST : Hid (st ++ sec.take cn = tot) := Lib.hid (by rw [← HS0.out, HSG.out, streamM, HCN.out, HEN.out, if_neg (by omega), if_pos hlt59, List.append_nil])
            obtain ⟨st2, hst2⟩ : ∃ x, st ++ sec.take cn = x := ⟨_, rfl⟩
            have HST2 := Lib.hid hst2
            clear hst2
            go_wp2_with (at_builtin; refine wpList_app rfl (.tmp 39) (.tmp 44) 38 38 rfl w.heap.size (wr.drewN kq) _ 5 i0 Try.underlying38 hi hz0 hz1 hz2 _ st rfl (Grows.refl HO3.out HBX.out.size) _ cn (sec.take cn) rfl HSR.out (by omega) ?_; intro v4 w4 G4 z4 k4; rw [HST2.out] at G4; obtain ⟨A4, c4, rfl, -⟩ := own_bytes G4.1; have hbx4 := HBX.out.trans (G4.below_of HO3.out HBX.out.size); have HO4 := Lib.hid G4.1; have c59n : w4.cell? ⟨ob, ooff + 59, none⟩ = _ := keepcell hbx4 C59W.out; have HBX4 := Lib.hid hbx4; clear hbx4 G4 z4 k4)
            go_wp2
            go_ret
            rw [← HST.out, HST2.out]
            exact ⟨_, rfl, HO4.out, HBX4.out⟩
          · obtain rfl : cn = 59 := by omega
            have HST : Hid (st ++ sec.take 59 ++ streamM en ((s.R.drop (a + 1)).take (N - (a + 1))) = tot) := Lib.hid (by rw [← HS0.out, HSG.out, streamM, HCN.out, HEN.out, if_neg (by omega), if_neg (by omega), List.append_assoc])
            obtain ⟨st2, hst2⟩ : ∃ x, st ++ sec.take 59 = x := ⟨_, rfl⟩
            have HST2 := Lib.hid hst2
            clear hst2
            go_wp2_with (at_builtin; refine wpList_app rfl (.tmp 39) (.tmp 44) 38 38 rfl w.heap.size (wr.drewN kq) _ 5 i0 Try.underlying38 hi hz0 hz1 hz2 _ st rfl (Grows.refl HO3.out HBX.out.size) _ 59 (sec.take 59) rfl HSR.out (by omega) ?_; intro v4 w4 G4 z4 k4; rw [HST2.out] at G4; obtain ⟨A4, c4, rfl, -⟩ := own_bytes G4.1; have hbx4 := HBX.out.trans (G4.below_of HO3.out HBX.out.size); have HO4 := Lib.hid G4.1; have c59n : w4.cell? ⟨ob, ooff + 59, none⟩ = _ := keepcell hbx4 C59W.out; have HBX4 := Lib.hid hbx4; clear hbx4 G4 z4 k4)
            go_wp2
            go_roundw
            case rel => exact ⟨a + 1, st2, by go_num, by omega, by omega, HO4.out, by rw [← HST2.out]; exact HST.out, by rw [← HST2.out, List.length_append, HTL.out]; omega, HBX4.out⟩
            case measure => simp [intOf]; omega
        · have hne : ((en : Int) == (e : Int)) = false := by simp; omega
          have hne2 : ((en : Int) != (e : Int)) = true := by simp; omega
          have HST : Hid (st = tot) := Lib.hid (by rw [← HS0.out, HSG.out, streamM, HEN.out, if_pos (.inr hee), List.append_nil])
          go_wp2_with fail
          refine HNB.out.mono ?_
          rintro e' w3 ⟨rfl, kq, rfl⟩
          go_wp2
          go_ret
          rw [← HST.out]
          exact ⟨_, rfl, HO.out, below_drewN HB.out⟩
    · obtain rfl : a = N := by omega
      have HST : Hid (st = tot) := Lib.hid (by
        rw [← HS0.out, Nat.sub_self, List.take_zero]
        unfold streamM
        rw [List.append_nil])
      go_wp2
      go_ret
      rw [← HST.out]
      exact ⟨_, rfl, HO.out, HB.out⟩
end Go.Proofs.Ytgpofkabidginaa
