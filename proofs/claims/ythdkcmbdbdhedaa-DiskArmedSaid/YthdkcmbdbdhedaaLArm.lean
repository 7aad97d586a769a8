/- Law DiskArmed: for every input the call returns true, and its arguments read afterwards as before. -/
import Derived.Test.YthdkcmbdbdhedaaSme
import Derived.Deep.RegionHeld3
namespace Go.Proofs.Ythdkcmbdbdhedaa
open Go.ChangeShapes Go.WideShapes Go.ChangeAt Go.RowKit Go.ChangeMaps

theorem set_self {R : List (List UInt8)} {j : Nat} (h : j < R.length) : R.set j (R.getD j []) = R := by
  rw [List.getD_eq_getElem?_getD, List.getElem?_eq_getElem h]
  simp
set_option maxRecDepth 100000 in
set_option maxHeartbeats 4000000 in
theorem diskArmed_walk (A : Option Addr) (n c : Nat) (L : List OpM) (x y : Int) (D : Option Addr) (m d : Nat) (l : List UInt8) (w : World) (hr : OpsAt w A n L) (hn : n ≤ 9223372036854775807) (hx0 : 0 ≤ x) (hx1 : x ≤ 255) (hy0 : 0 ≤ y) (hy1 : y ≤ 255) (hd : BytesAt w D m l) (hm : m ≤ d) (hdd : d ≤ 9223372036854775807) :
    Calls Try.prog 5 #[.slice A n c, .int .u8 x, .int .u8 y, .slice D m d] w fun e w' => e = .returned (.bool true) ∧ Below w.heap.size w w' := by
  have HO := Lib.hid hr
  have HI := Lib.hid hd
  clear hr hd
  obtain ⟨v, hv, hv0, hv1⟩ : ∃ v : Nat, 1 + x % 10 = (v : Int) ∧ 1 ≤ v ∧ v ≤ 10 := ⟨(1 + x % 10).toNat, by omega, by omega, by omega⟩
  obtain ⟨b, hb, hb64⟩ : ∃ b : Nat, min y.toNat 64 = b ∧ b ≤ 64 := ⟨_, rfl, Nat.min_le_right _ _⟩
  have HV := Lib.hid hv
  have HBB := Lib.hid hb
  clear hv hb
  go_enter Try.func5, Try.ntmps5
  go_wp2_with fail
  refine (awake_any _).mono ?_
  rintro e w1 ⟨rfl, hb⟩
  have HW := Lib.hid hb
  clear hb
  rcases hfew : fewM L with _ | _
  · go_wp2_with fail
    refine (few_any w1 A n c L (HO.out.below HW.out) hn false hfew).mono ?_
    rintro e w2 ⟨rfl, hb⟩
    replace HW := Lib.hid (HW.out.trans (hb.mono HW.out.size))
    clear hb
    go_wp2_with fail
    refine (awake_any _).mono ?_
    rintro e w5 ⟨rfl, hb⟩
    replace HW := Lib.hid (HW.out.trans (hb.mono HW.out.size))
    clear hb
    go_wp2
    go_ret
    exact ⟨rfl, HW.out⟩
  · go_wp2_with fail
    refine (few_any w1 A n c L (HO.out.below HW.out) hn true hfew).mono ?_
    rintro e w2 ⟨rfl, hb⟩
    replace HW := Lib.hid (HW.out.trans (hb.mono HW.out.size))
    clear hb
    by_cases h64 : 64 < m
    · have h64' : (64 : Int) < (m : Int) := by omega
      go_wp2_with fail
      refine (awake_any _).mono ?_
      rintro e w5 ⟨rfl, hb⟩
      replace HW := Lib.hid (HW.out.trans (hb.mono HW.out.size))
      clear hb
      go_wp2
      go_ret
      exact ⟨rfl, HW.out⟩
    · have h64' : ¬ (64 : Int) < (m : Int) := by omega
      go_wp2_with fail
      refine (run_any w2 A n c L (HO.out.below HW.out) hn hfew).mono ?_
      rintro e w3 ⟨p, q, r, t, s, rfl, hM, hR4, hx, hF, hb⟩
      have HM := Lib.hid hM
      have HN := Lib.hid hM.ne
      have HF := Lib.hid (show ∀ k, F4 p q r t k → w.heap.size ≤ k from fun k hk => Nat.le_trans HW.out.size (hF k hk))
      have HX := Lib.hid hx
      have HR4 := Lib.hid hR4
      replace HW := Lib.hid (HW.out.trans (hb.mono HW.out.size))
      clear hM hF hb hx hR4
      go_wp2_with fail
      refine (Restart_any w3 p q s HM.out.d).mono ?_
      rintro e w4 ⟨rfl, hd, hc⟩
      have HD := Lib.hid hd
      have HR := Lib.hid (HM.out.rk.pq HN.out hc)
      replace HW := Lib.hid (hc.below HW.out (fun k hk => HF.out k (F4_pq hk)) HW.out.size)
      clear hd hc HM
      go_wp2_with fail
      refine (RRestart_any (F4 p q r t) w4 r t s HR.out (.inr (.inr (.inl rfl)))).mono ?_
      rintro e w5 ⟨rfl, hr5, hc⟩
      replace HD := Lib.hid (HD.out.rt HN.out hc)
      replace HR := Lib.hid hr5
      replace HW := Lib.hid (hc.below HW.out (fun k hk => HF.out k (F4_rt hk)) HW.out.size)
      clear hr5 hc
      go_wp2_with fail
      refine (Arm_any w5 p q _ HD.out (1 + x % 10) y (by omega)).mono ?_
      rintro e w6 ⟨rfl, hd, hc⟩
      obtain ⟨s1, hs1, hs2⟩ : ∃ s1, s.Re.Ar (1 + x % 10) y = s1 ∧ (s1.f = false ∧ s1.a = v ∧ s1.b = b ∧ s1.R = s.R ∧ s1.x = s.x) := ⟨_, rfl, rfl, by show (1 + x % 10).toNat = v; rw [HV.out]; simp, HBB.out, rfl, rfl⟩
      rw [hs1] at hd
      replace HD := Lib.hid hd
      replace HR := Lib.hid (HR.out.pq HN.out hc)
      replace HW := Lib.hid (hc.below HW.out (fun k hk => HF.out k (F4_pq hk)) HW.out.size)
      have HS1 := Lib.hid hs2
      clear hd hc hs1 hs2
      have e12 := HV.out
      rw [HV.out]
      clear e12
      go_wp2
      go_loopw [13] (fun i wr => ∃ (k : Nat) (s2 : St), 1 ≤ k ∧ k ≤ v ∧ i = .int .i64 (k : Int) ∧ Dk wr p q s2 ∧ Rk (F4 p q r t) wr r t s.Re ∧ s2.f = false ∧ s2.a = v - (k - 1) ∧ s2.b = b ∧ s2.R = s.R ∧ s2.x ≤ 60 + k ∧ Below w.heap.size w wr) (fun i _ => v - (intOf i).toNat)
      case atStart => exact ⟨1, s1, Nat.le_refl _, hv0, rfl, HD.out, HR.out, HS1.out.1, by rw [HS1.out.2.1]; omega, HS1.out.2.2.1, HS1.out.2.2.2.1, by rw [HS1.out.2.2.2.2]; have := HX.out; omega, HW.out⟩
      case round =>
        clear HD HR HW HS1
        obtain ⟨k, s2, hk1, hkv, rfl, hD, hR, hf2, ha2, hb2, hR2, hx2, hB⟩ := hrel
        have HD := Lib.hid hD
        have HR := Lib.hid hR
        have HW := Lib.hid hB
        have HS := Lib.hid (show s2.f = false ∧ s2.a = v - (k - 1) ∧ s2.b = b ∧ s2.R = s.R ∧ s2.x ≤ 60 + k from ⟨hf2, ha2, hb2, hR2, hx2⟩)
        clear hD hR hB hf2 ha2 hb2 hR2 hx2
        by_cases hlt : k < v
        · have hki : (k : Int) < (v : Int) := by omega
          obtain ⟨j, hj, hj4⟩ : ∃ j : Nat, (k : Int) % 4 = (j : Int) ∧ j < 4 := ⟨k % 4, by omega, by omega⟩
          have hj0 : (0 : Int) ≤ (j : Int) := by omega
          have hji : (j : Int) < 4 := by omega
          obtain ⟨cap, hcap, c0, -⟩ := HR.out.cells
          obtain ⟨A9, c9, e9, h9, h9', b9, -⟩ := HR.out.sec j (show j < s.R.length by rw [HR4.out]; exact hj4)
          rw [show s.Re.R.length = 4 from HR4.out] at c0 hcap
          have CW := Lib.hid (Write_more wr p q s2 HD.out HS.out.1 (by rw [HS.out.2.1]; omega) (by have := HS.out.2.2.2.2; omega) j (by rw [HS.out.2.2.2.1, HR4.out]; exact hj4) A9 c9 (s.R.getD j []) (b9.mono (fun _ => F4_pq)) h9)
          clear b9
          go_wp2_with fail
          rw [hj]
          refine CW.out.mono ?_
          rintro e wA ⟨rfl, hd, hc⟩
          obtain ⟨s3, hs3, hs4⟩ : ∃ s3, ({ s2 with R := s2.R.set j (s.R.getD j []), a := s2.a - 1, x := s2.x + 1 } : St) = s3 ∧ (s3.f = false ∧ s3.a = v - k ∧ s3.b = b ∧ s3.R = s.R ∧ s3.x ≤ 60 + (k + 1)) := ⟨_, rfl, HS.out.1, by show s2.a - 1 = v - k; rw [HS.out.2.1]; omega, HS.out.2.2.1, by show s2.R.set j _ = s.R; rw [HS.out.2.2.2.1, set_self (by rw [HR4.out]; exact hj4)], by show s2.x + 1 ≤ _; have := HS.out.2.2.2.2; omega⟩
          rw [hs3] at hd
          replace HD := Lib.hid hd
          replace HR := Lib.hid (HR.out.pq HN.out hc)
          replace HW := Lib.hid (hc.below HW.out (fun k hk => HF.out k (F4_pq hk)) HW.out.size)
          have HS3 := Lib.hid hs4
          clear hd hc hs3 hs4 CW c0 e9
          go_wp2_with fail
          refine (Failed_any wA p q s3 HD.out).mono ?_
          rintro e wB ⟨rfl, rfl⟩
          rw [HS3.out.1]
          go_wp2
          go_roundw
          case rel => exact ⟨k + 1, s3, by omega, by omega, by go_num, HD.out, HR.out, HS3.out.1, by rw [HS3.out.2.1]; omega, HS3.out.2.2.1, HS3.out.2.2.2.1, HS3.out.2.2.2.2, HW.out⟩
          case measure => simp [intOf]; omega
        · obtain rfl : k = v := by omega
          have hvl : ¬ (k : Int) < (k : Int) := by omega
          go_wp2_with fail
          refine (sector_any wr D m d l (HI.out.below HW.out) (by omega)).mono ?_
          rintro e w7 ⟨rfl, hk7, hb7⟩
          replace HD := Lib.hid (HD.out.below hb7)
          replace HR := Lib.hid (HR.out.below hb7)
          replace HW := Lib.hid (HW.out.trans (hb7.mono HW.out.size))
          have CW := Lib.hid (Write_torn w7 p q s2 HD.out HS.out.1 (by rw [HS.out.2.1]; omega) 2 (by rw [HS.out.2.2.2.1, HR4.out]; decide) _ 64 (sec64 l) (bytes_of_blk (n := 64) hk7 (sec64_len _)) (Nat.le_refl _))
          clear hk7 hb7
          go_wp2_with fail
          refine CW.out.mono ?_
          rintro e w8 ⟨rfl, hd, hc⟩
          obtain ⟨T, hT⟩ : ∃ T, (sec64 l).take b ++ (s.R.getD 2 []).drop b = T := ⟨_, rfl⟩
          obtain ⟨s3, hs3, hs4⟩ : ∃ s3, ({ s2 with R := s2.R.set 2 ((sec64 l).take s2.b ++ (s2.R.getD 2 []).drop s2.b), f := true, a := 0 } : St) = s3 ∧ (s3.f = true ∧ s3.a = 0 ∧ s3.R = s.R.set 2 T ∧ s3.x ≤ 100) := ⟨_, rfl, rfl, rfl, by show s2.R.set 2 _ = _; rw [HS.out.2.2.1, HS.out.2.2.2.1, hT], by show s2.x ≤ 100; have := HS.out.2.2.2.2; omega⟩
          rw [hs3] at hd
          replace HD := Lib.hid hd
          replace HR := Lib.hid (HR.out.pq HN.out hc)
          replace HW := Lib.hid (hc.below HW.out (fun k hk => HF.out k (F4_pq hk)) HW.out.size)
          have HS3 := Lib.hid hs4
          have HT := Lib.hid hT
          clear hd hc hs3 hs4 CW hT
          go_wp2_with fail
          refine (Failed_any w8 p q s3 HD.out).mono ?_
          rintro e w9 ⟨rfl, rfl⟩
          rw [HS3.out.1]
          go_wp2_with fail
          refine (Restart_any w8 p q s3 HD.out).mono ?_
          rintro e w9 ⟨rfl, hd, hc⟩
          replace HD := Lib.hid hd
          replace HR := Lib.hid (HR.out.pq HN.out hc)
          replace HW := Lib.hid (hc.below HW.out (fun k hk => HF.out k (F4_pq hk)) HW.out.size)
          clear hd hc
          have H2 := Lib.hid (show 2 < s3.Re.R.length by show 2 < s3.R.length; rw [HS3.out.2.2.1, List.length_set, HR4.out]; decide)
          have CR := Lib.hid (Read_ok w9 p q _ HD.out rfl 2 H2.out)
          go_wp2_with fail
          refine CR.out.mono ?_
          rintro e wR ⟨g2, rfl, hg2, hk2, hb2⟩
          rw [show s3.Re.R.getD 2 [] = T by show s3.R.getD 2 [] = T; rw [HS3.out.2.2.1, List.getD_eq_getElem?_getD, List.getElem?_set_self (by rw [HR4.out]; decide)]; rfl] at hk2
          have hgp : ¬ PQ p q g2 := HD.out.fresh hg2
          replace HD := Lib.hid (HD.out.below hb2)
          replace HR := Lib.hid (HR.out.below hb2)
          replace HW := Lib.hid (HW.out.trans (hb2.mono HW.out.size))
          have HK2 := Lib.hid hk2
          clear hk2 hb2 hg2 CR
          obtain ⟨cap, hcap, c0, -⟩ := HR.out.cells
          obtain ⟨A9, c9, e9, h9, h9', b9, -⟩ := HR.out.sec 2 (show 2 < s.R.length by rw [HR4.out]; decide)
          rw [show s.Re.R.length = 4 from HR4.out] at c0 hcap
          obtain ⟨ob, oo, rfl⟩ := b9.at.some (by decide)
          have HB9 := Lib.hid b9.at
          have HOL := Lib.hid b9.1
          have HTL : Hid (T.length = 64) := Lib.hid (by rw [← HT.out, List.length_append, List.length_take, List.length_drop, sec64_len, show (s.R.getD 2 []).length = 64 from HOL.out]; omega)
          have HT1 : Hid (T.take b = (sec64 l).take b) := Lib.hid (by rw [← HT.out]; exact torn_take HOL.out (sec64_len _) (Nat.le_refl _) hb64)
          have HT2 : Hid (T.drop b = (s.R.getD 2 []).drop b) := Lib.hid (by rw [← HT.out]; exact torn_drop HOL.out (sec64_len _) hb64)
          clear b9
          have SE := Lib.hid (fun (W : World) (hW : Below wR.heap.size wR W) => show Calls Try.prog 23 #[.slice D m d] W (fun e w' => ∃ g, e = .returned (.slice (some ⟨g, 0, none⟩) 64 64) ∧ w'.cell? ⟨r, 0, none⟩ = some (.slice (some ⟨t, 0, none⟩) 4 cap) ∧ w'.cell? ⟨t, 2, none⟩ = some (.slice (some ⟨ob, oo, none⟩) 64 c9) ∧ BytesAt w' (some ⟨g, 0, none⟩) 64 (sec64 l) ∧ Below wR.heap.size wR w') from (sector_any W D m d l (HI.out.below (HW.out.trans (hW.mono HW.out.size))) (by omega)).mono fun e w' ⟨h1, h2, h3⟩ =>
            have hb := hW.trans (h3.mono hW.size)
            ⟨W.heap.size, h1, keepcell hb c0, keepcell hb e9, bytes_of_blk h2 (sec64_len _), hb⟩)
          have WW := Lib.hid (fun (W : World) (hW : Below wR.heap.size wR W) => show Calls Try.prog 22 #[.pointer (some ⟨p, 0, none⟩), .int .i64 2, .slice (some ⟨g2, 0, none⟩) 64 64] W (fun e w' => e = .returned (.int .i64 0) ∧ Chg (PQ p q) W w' ∧ w'.cell? ⟨r, 0, none⟩ = some (.slice (some ⟨t, 0, none⟩) 4 cap) ∧ w'.cell? ⟨t, 2, none⟩ = some (.slice (some ⟨ob, oo, none⟩) 64 c9)) from (Write_zero W p q s3.Re (HD.out.below hW) rfl HS3.out.2.1 (show s3.x < 1000000000 by have := HS3.out.2.2.2; omega) 2 H2.out (some ⟨g2, 0, none⟩) 64 T (ba_of_blk (n := 64) (HK2.out.below hW) HTL.out hgp) (Nat.le_refl _)).mono fun e w' ⟨h1, h2, h3⟩ => ⟨h1, h3,
            chg_cell h3 (Nat.lt_of_lt_of_le (block_lt_of_cell c0) hW.size) (fun e => by rcases e with e | e; (· exact HN.out.1 e); exact HN.out.2.1 e) (keepcell hW c0), chg_cell h3 (Nat.lt_of_lt_of_le (block_lt_of_cell e9) hW.size) (fun e => by rcases e with e | e; (· exact HN.out.2.2.1 e); exact HN.out.2.2.2 e) (keepcell hW e9)⟩)
          have hbi : ((b : Nat) : Int) ≤ 64 := by omega
          have hbi0 : (0 : Int) ≤ (b : Int) := by omega
          have hbc : ((b : Nat) : Int) ≤ (c9 : Int) := by omega
          by_cases hb63 : b < 64
          · obtain rfl : y = (b : Int) := by have := HBB.out; omega
            have hbl : (b : Int) < 64 := by omega
            have hbc9 : ¬ c9 = b := by omega
            have hb64' : ¬ 64 = b := by omega
            have hsub : ((b : Nat) : Int) ≤ 64 := by omega
            have S1 := Lib.hid (fun (W : World) (g3 : Nat) (hW : Below wR.heap.size wR W) (h3 : BytesAt W (some ⟨g3, 0, none⟩) 64 (sec64 l)) => Same_any W (some ⟨g2, 0, none⟩) (some ⟨g3, 0, none⟩) b 64 b 64 _ _ ((bytes_of_blk (n := 64) (HK2.out.below hW) HTL.out).take (k := b) hb64) (h3.take (k := b) hb64) true (by rw [HT1.out]; simp))
            have S2 := Lib.hid (fun (W : World) (hW : Below wR.heap.size wR W) => Same_any W (some ⟨g2, b, none⟩) (some ⟨ob, oo + b, none⟩) (64 - b) (64 - b) (64 - b) (c9 - b) (T.drop b) ((s.R.getD 2 []).drop b) (by have := (bytes_of_blk (n := 64) (HK2.out.below hW) HTL.out).drop (k := b) hb64; rw [Nat.zero_add] at this; exact this) ((HB9.out.below hW).drop (k := b) hb64) true (by rw [HT2.out]; simp))
            go_wp2_with fail
            go_region_held3 (fun w' => w'.cell? ⟨r, 0, none⟩ = some (.slice (some ⟨t, 0, none⟩) 4 cap) ∧ w'.cell? ⟨t, 2, none⟩ = some (.slice (some ⟨ob, oo, none⟩) 64 c9)) (first | exact ⟨c0, e9⟩ | exact ⟨d0, d9⟩ | exact ⟨f0, f9⟩) (first
              | (go_at_call 23; refine (SE.out _ ?hh).mono ?_; (case hh => exact below_drew (Below.refl _ _)); rintro e v1 ⟨g3, rfl, d0, d9, hbs, hb1⟩)
              | (go_at_call 18; with_reducible refine (S1.out _ _ hb1 hbs).mono ?_; rintro e v2 ⟨rfl, rfl⟩)
              | (go_at_call 18; with_reducible refine (S2.out _ hb1).mono ?_; rintro e v2 ⟨rfl, rfl⟩)
              | (go_at_call 22; refine (WW.out _ hb1).mono ?_; rintro e v3 ⟨rfl, hc3, f0, f9⟩))
            all_goals
              have HWZ := Lib.hid (hc3.below (HW.out.trans (hb1.mono HW.out.size)) (fun k hk => HF.out k (F4_pq hk)) (Nat.le_trans HW.out.size hb1.size))
              clear SE WW S1 S2 hbs hb1 hc3 d0 d9 f0 f9
              go_wp2
              go_ret
              exact ⟨rfl, HWZ.out⟩
          · obtain rfl : b = 64 := by omega
            have hy64 : (64 : Int) ≤ y := by have := HBB.out; omega
            have S1 := Lib.hid (fun (W : World) (g3 : Nat) (hW : Below wR.heap.size wR W) (h3 : BytesAt W (some ⟨g3, 0, none⟩) 64 (sec64 l)) => Same_any W (some ⟨g2, 0, none⟩) (some ⟨g3, 0, none⟩) 64 64 64 64 _ _ ((bytes_of_blk (n := 64) (HK2.out.below hW) HTL.out).take (k := 64) hb64) (h3.take (k := 64) hb64) true (by rw [HT1.out]; simp))
            have S2 := Lib.hid (fun (W : World) (hW : Below wR.heap.size wR W) (X Y : Option Addr) (e f : Nat) => Same_any W X Y 0 e 0 f [] [] (BytesAt.nil W X [] rfl) (BytesAt.nil W Y [] rfl) true (by simp))
            rcases (by omega : y = 64 ∨ ¬ y ≤ 64) with rfl | hyn
            · rcases (by omega : c9 = 64 ∨ 64 < c9) with rfl | hc9
              · skip
                go_wp2_with fail
                go_region_held3 (fun w' => w'.cell? ⟨r, 0, none⟩ = some (.slice (some ⟨t, 0, none⟩) 4 cap) ∧ w'.cell? ⟨t, 2, none⟩ = some (.slice (some ⟨ob, oo, none⟩) 64 64)) (first | exact ⟨c0, e9⟩ | exact ⟨d0, d9⟩ | exact ⟨f0, f9⟩) (first
                  | (go_at_call 23; refine (SE.out _ ?hh).mono ?_; (case hh => exact below_drew (Below.refl _ _)); rintro e v1 ⟨g3, rfl, d0, d9, hbs, hb1⟩)
                  | (go_at_call 18; with_reducible refine (S1.out _ _ hb1 hbs).mono ?_; rintro e v2 ⟨rfl, rfl⟩)
                  | (go_at_call 18; with_reducible refine (S2.out _ hb1 _ _ _ _).mono ?_; rintro e v2 ⟨rfl, rfl⟩)
                  | (go_at_call 22; refine (WW.out _ hb1).mono ?_; rintro e v3 ⟨rfl, hc3, f0, f9⟩))
                all_goals
                  have HWZ := Lib.hid (hc3.below (HW.out.trans (hb1.mono HW.out.size)) (fun k hk => HF.out k (F4_pq hk)) (Nat.le_trans HW.out.size hb1.size))
                  clear SE WW S1 S2 hbs hb1 hc3 d0 d9 f0 f9
                  go_wp2
                  go_ret
                  exact ⟨rfl, HWZ.out⟩
              · have hc9a : ¬ c9 = 64 := by omega
                have hc9b : ¬ (c9 : Int) = 64 := by omega
                have hc9c : (64 : Int) < (c9 : Int) := by omega
                have hc9d : ¬ (c9 : Int) ≤ 64 := by omega
                go_wp2_with fail
                go_region_held3 (fun w' => w'.cell? ⟨r, 0, none⟩ = some (.slice (some ⟨t, 0, none⟩) 4 cap) ∧ w'.cell? ⟨t, 2, none⟩ = some (.slice (some ⟨ob, oo, none⟩) 64 c9)) (first | exact ⟨c0, e9⟩ | exact ⟨d0, d9⟩ | exact ⟨f0, f9⟩) (first
                  | (go_at_call 23; refine (SE.out _ ?hh).mono ?_; (case hh => exact below_drew (Below.refl _ _)); rintro e v1 ⟨g3, rfl, d0, d9, hbs, hb1⟩)
                  | (go_at_call 18; with_reducible refine (S1.out _ _ hb1 hbs).mono ?_; rintro e v2 ⟨rfl, rfl⟩)
                  | (go_at_call 18; with_reducible refine (S2.out _ hb1 _ _ _ _).mono ?_; rintro e v2 ⟨rfl, rfl⟩)
                  | (go_at_call 22; refine (WW.out _ hb1).mono ?_; rintro e v3 ⟨rfl, hc3, f0, f9⟩))
                all_goals
                  have HWZ := Lib.hid (hc3.below (HW.out.trans (hb1.mono HW.out.size)) (fun k hk => HF.out k (F4_pq hk)) (Nat.le_trans HW.out.size hb1.size))
                  clear SE WW S1 S2 hbs hb1 hc3 d0 d9 f0 f9
                  go_wp2
                  go_ret
                  exact ⟨rfl, HWZ.out⟩
            · rcases (by omega : c9 = 64 ∨ 64 < c9) with rfl | hc9
              · skip
                go_wp2_with fail
                go_region_held3 (fun w' => w'.cell? ⟨r, 0, none⟩ = some (.slice (some ⟨t, 0, none⟩) 4 cap) ∧ w'.cell? ⟨t, 2, none⟩ = some (.slice (some ⟨ob, oo, none⟩) 64 64)) (first | exact ⟨c0, e9⟩ | exact ⟨d0, d9⟩ | exact ⟨f0, f9⟩) (first
                  | (go_at_call 23; refine (SE.out _ ?hh).mono ?_; (case hh => exact below_drew (Below.refl _ _)); rintro e v1 ⟨g3, rfl, d0, d9, hbs, hb1⟩)
                  | (go_at_call 18; with_reducible refine (S1.out _ _ hb1 hbs).mono ?_; rintro e v2 ⟨rfl, rfl⟩)
                  | (go_at_call 18; with_reducible refine (S2.out _ hb1 _ _ _ _).mono ?_; rintro e v2 ⟨rfl, rfl⟩)
                  | (go_at_call 22; refine (WW.out _ hb1).mono ?_; rintro e v3 ⟨rfl, hc3, f0, f9⟩))
                all_goals
                  have HWZ := Lib.hid (hc3.below (HW.out.trans (hb1.mono HW.out.size)) (fun k hk => HF.out k (F4_pq hk)) (Nat.le_trans HW.out.size hb1.size))
                  clear SE WW S1 S2 hbs hb1 hc3 d0 d9 f0 f9
                  go_wp2
                  go_ret
                  exact ⟨rfl, HWZ.out⟩
              · have hc9a : ¬ c9 = 64 := by omega
                have hc9b : ¬ (c9 : Int) = 64 := by omega
                have hc9c : (64 : Int) < (c9 : Int) := by omega
                have hc9d : ¬ (c9 : Int) ≤ 64 := by omega
                go_wp2_with fail
                go_region_held3 (fun w' => w'.cell? ⟨r, 0, none⟩ = some (.slice (some ⟨t, 0, none⟩) 4 cap) ∧ w'.cell? ⟨t, 2, none⟩ = some (.slice (some ⟨ob, oo, none⟩) 64 c9)) (first | exact ⟨c0, e9⟩ | exact ⟨d0, d9⟩ | exact ⟨f0, f9⟩) (first
                  | (go_at_call 23; refine (SE.out _ ?hh).mono ?_; (case hh => exact below_drew (Below.refl _ _)); rintro e v1 ⟨g3, rfl, d0, d9, hbs, hb1⟩)
                  | (go_at_call 18; with_reducible refine (S1.out _ _ hb1 hbs).mono ?_; rintro e v2 ⟨rfl, rfl⟩)
                  | (go_at_call 18; with_reducible refine (S2.out _ hb1 _ _ _ _).mono ?_; rintro e v2 ⟨rfl, rfl⟩)
                  | (go_at_call 22; refine (WW.out _ hb1).mono ?_; rintro e v3 ⟨rfl, hc3, f0, f9⟩))
                all_goals
                  have HWZ := Lib.hid (hc3.below (HW.out.trans (hb1.mono HW.out.size)) (fun k hk => HF.out k (F4_pq hk)) (Nat.le_trans HW.out.size hb1.size))
                  clear SE WW S1 S2 hbs hb1 hc3 d0 d9 f0 f9
                  go_wp2
                  go_ret
                  exact ⟨rfl, HWZ.out⟩

set_option maxRecDepth 100000 in
theorem diskArmed_lifted (os : Os) (started : os.Started) (H : Type) (enc : TypeId × Value → H) :
    ReturnsInHanded {} Try.checked os 5 .any (Rows.diskArmedSpec.pre6 enc Try.prog Try.f5 Rows.diskArmedRow.domain false) (Rows.diskArmedSpec.post enc Try.prog Try.f5 false true false false) := by
  refine law_lifted (C := Try.checked) (B := 4) Try.own started (by kernel_rfl) Try.func5
    (ChangeSpec.witness6 (enc := enc) (C := Try.checked) false ⟨#[], #[.slice none 0 0, .int .u8 0, .int .u8 0, .slice none 0 0], []⟩ 8 (by kernel_rfl) (by kernel_rfl) (by kernel_rfl) (by kernel_rfl))
    Try.laidOut (by kernel_rfl) rfl rfl rfl Try.underlying4 (fun ds h => match ds, h with | [_, _, _, _], _ => rfl) ?_
  intro W base args ds ps hval hA hlt hsz
  rw [Try.params5] at hA hval hsz
  obtain ⟨v0, vs0, d0, ds0, p0, q0, hargs, rfl, rfl, h0, r0⟩ := trodAll_cons hA
  obtain ⟨v1, vs1, d1, ds1, p1, q1, rfl, rfl, rfl, h1, r1⟩ := trodAll_cons r0
  obtain ⟨v2, vs2, d2, ds2, p2, q2, rfl, rfl, rfl, h2, r2⟩ := trodAll_cons r1
  obtain ⟨v3, vs3, d3, ds3, p3, q3, rfl, rfl, rfl, h3, r3⟩ := trodAll_cons r2
  obtain ⟨rfl, rfl, rfl⟩ := trodAll_nil r3
  obtain rfl : args = #[v0, v1, v2, v3] := by cases args; simp_all
  obtain ⟨A0, n0, c0, R0, rfl, k0, l0⟩ := open_Ops (hval 0 22 v0 rfl rfl) h0 (fun x hx => hlt x (by simp [hx]))
  obtain ⟨a1, rfl, rfl, rfl, w1⟩ := open_int Try.underlying5 (hval 1 5 v1 rfl rfl) h1
  obtain ⟨l1, g1⟩ := u8_bd w1
  obtain ⟨a2, rfl, rfl, rfl, w2⟩ := open_int Try.underlying5 (hval 2 5 v2 rfl rfl) h2
  obtain ⟨l2, g2⟩ := u8_bd w2
  obtain ⟨A3, n3, c3, R3, rfl, k3, l3, g3⟩ := open_bytesA (hval 3 34 v3 rfl rfl) h3 (fun x hx => hlt x (by simp [hx]))
  exact diskArmed_walk A0 n0 c0 R0 a1 a2 A3 n3 c3 R3 W k0 l0 l1 g1 l2 g2 k3 l3 g3

theorem diskArmed_over : Rows.diskArmedRow.holds Try.pinned (OpenSpec.ofChange Rows.diskArmedSpec) :=
  OpenClaim.holds_of_wide 5 Try.f5 rfl rfl rfl rfl rfl rfl rfl ⟨rfl, rfl, rfl, rfl, rfl⟩ rfl rfl rfl rfl rfl (by kernel_rfl) Try.func5 (by kernel_rfl)
    (of_decide_eq_true (by kernel_rfl)) (by unfold Func.isWrapper; first | (rw [if_pos (by decide +kernel)]; kernel_rfl) | (rw [if_neg (by decide +kernel)]; exact ⟨rfl, rfl⟩))
    (fun os started H enc _ => diskArmed_lifted os started H enc)

theorem diskArmed_proved : Rows.DiskArmedSaid := diskArmed_over
end Go.Proofs.Ythdkcmbdbdhedaa
