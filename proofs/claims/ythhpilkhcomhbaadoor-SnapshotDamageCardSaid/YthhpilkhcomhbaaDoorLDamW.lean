/- The walk of the law SnapshotDamage. -/
import Derived.Test.YthhpilkhcomhbaaDoorLm2
namespace Go.Proofs.YthhpilkhcomhbaaDoor
open Go.ChangeShapes Go.WideShapes Go.ChangeAt Go.RowKit Go.ChangeMaps

set_option maxRecDepth 100000 in
set_option maxHeartbeats 4000000 in
theorem dam_zero (S E T Y c : Nat) (A : Option Addr) (l : List UInt8) (w : World) (hok : okV S E 0) (hA : BytesAt w A 0 l) (hE32 : E < 4294967296) (hx0 : 0 ≤ 0) (hy0 : 0 ≤ 0) (hev : Env w) :
    Calls Tryd.prog 7 #[.agg #[.int .u8 (S : Int), .int .u32 (E : Int), .slice A 0 c], .int .u16 (T : Int), .int .u8 (Y : Int)] w fun e w' => e = .returned (.bool true) ∧ Below w.heap.size w w' := by
  have hln : l.length = 0 := hA.1
  obtain ⟨r, hr, r0, rf, rh, rx, rn, r64, ra, rb, rs⟩ := ver_facts hok hln hE32
  have HOK := Lib.hid hok
  have HR := Lib.hid hr
  have HRH := Lib.hid rh
  have HR64 := Lib.hid r64
  have HRS := Lib.hid rs
  have HRN := Lib.hid rn
  have HLN := Lib.hid hln
  have hS60 : S ≤ 60 := hok.2.1
  have hS7 : 7 ≤ S := hok.1
  have CF := Lib.hid (fun W => fresh_ok W S E 0 c A (by omega) hok)
  have HEV := Lib.hid hev
  have hbx : Below w.heap.size w (w.alloc (.cells #[.int .u8 (S : Int), .int .u32 (E : Int), .slice A 0 c] 49)) := (Below.refl _ _).alloc (Nat.le_refl _) _
  have HB := Lib.hid hbx
  replace HEV := Lib.hid (HEV.out.below hbx)
  have HX := Lib.hid (show Blk (w.alloc (.cells #[.int .u8 (S : Int), .int .u32 (E : Int), .slice A 0 c] 49)) w.heap.size 49 #[.int .u8 (S : Int), .int .u32 (E : Int), .slice A 0 c] from Blk.new w 49 _)
  have HA0 := Lib.hid (hA.below hbx)
  have hbs : w.heap.size < (w.alloc (.cells #[.int .u8 (S : Int), .int .u32 (E : Int), .slice A 0 c] 49)).heap.size := HX.out.lt
  have HE0 := Lib.hid hok.2.2.2.2
  clear hev hok hA hx0 hy0 hbx hr rh r64 rs rn hln
  go_enter Tryd.func7, Tryd.ntmps7
  go_wp2_with fail
  refine (CF.out _).mono ?_
  rintro e w1 ⟨p, q, rfl, hp, hq, hd, hb⟩
  have HPQ := Lib.hid (show ∀ k, PQ p q k → (w.alloc (.cells #[.int .u8 (S : Int), .int .u32 (E : Int), .slice A 0 c] 49)).heap.size ≤ k from fun k hk => by rcases hk with e | e <;> omega)
  have HPW := Lib.hid (show ∀ k, PQ p q k → w.heap.size ≤ k from fun k hk => Nat.le_trans (Nat.le_of_lt hbs) (HPQ.out k hk))
  have HNP := Lib.hid (show ¬ PQ p q 0 ∧ ¬ PQ p q w.heap.size from ⟨fun hk => by have := HPQ.out 0 hk; omega, fun hk => by have := HPQ.out _ hk; omega⟩)
  have HA := Lib.hid (BA.of_at HA0.out HPQ.out)
  replace HB := Lib.hid (HB.out.trans (hb.mono HB.out.size))
  replace HEV := Lib.hid (HEV.out.below hb)
  replace HX := Lib.hid (HX.out.below hb)
  replace HA := Lib.hid (HA.out.below hb)
  clear hb
  have HD := Lib.hid hd
  clear hd CF HA0 hbs hp hq
  go_wp2_with fail
  refine (awake_any _ HEV.out).mono ?_
  rintro e w2 ⟨rfl, hb⟩
  replace HB := Lib.hid (HB.out.trans (hb.mono HB.out.size))
  replace HEV := Lib.hid (HEV.out.below hb)
  replace HX := Lib.hid (HX.out.below hb)
  replace HA := Lib.hid (HA.out.below hb)
  replace HD := Lib.hid (HD.out.below hb)
  clear hb
  have e0 : w2.cell? ⟨w.heap.size, 2, none⟩ = some (.slice A 0 c) := HX.out.cell 2
  go_wp2_with fail
  refine (awake_any _ HEV.out).mono ?_
  rintro e w5 ⟨rfl, hb⟩
  replace HB := Lib.hid (HB.out.trans (hb.mono HB.out.size))
  replace HEV := Lib.hid (HEV.out.below hb)
  replace HX := Lib.hid (HX.out.below hb)
  replace HA := Lib.hid (HA.out.below hb)
  replace HD := Lib.hid (HD.out.below hb)
  clear hb
  go_wp2
  go_ret
  exact ⟨rfl, HB.out⟩
set_option maxRecDepth 100000 in
set_option maxHeartbeats 4000000 in
theorem snapshotDamage_walk (x0 y0 : Int) (A : Option Addr) (n c : Nat) (l : List UInt8) (t0 b0 : Int) (w : World) (hx0 : 0 ≤ x0 ∧ x0 ≤ 255) (hy0 : 0 ≤ y0 ∧ y0 ≤ 4294967295) (hA0 : BytesAt w A n l ∧ n ≤ c ∧ c ≤ 9223372036854775807) (ht0 : 0 ≤ t0) (ht1 : t0 ≤ 65535) (hb0 : 0 ≤ b0) (hb1 : b0 ≤ 255) (hev : Env w) :
    Calls Tryd.prog 7 #[.agg #[.int .u8 x0, .int .u32 y0, .slice A n c], .int .u16 t0, .int .u8 b0] w fun e w' => e = .returned (.bool true) ∧ Below w.heap.size w w' := by
  obtain ⟨S, rfl⟩ : ∃ S : Nat, x0 = S := ⟨x0.toNat, by omega⟩
  obtain ⟨E, rfl⟩ : ∃ E : Nat, y0 = E := ⟨y0.toNat, by omega⟩
  obtain ⟨hA, hnc, hcm⟩ := hA0
  have hln : l.length = n := hA.1
  have hE32 : E < 4294967296 := by omega
  obtain ⟨T, rfl⟩ : ∃ T : Nat, t0 = T := ⟨t0.toNat, by omega⟩
  obtain ⟨Y, rfl⟩ : ∃ Y : Nat, b0 = Y := ⟨b0.toNat, by omega⟩
  by_cases hok : okV S E n
  · rcases (show n = 0 ∨ (0 < n ∧ Y = 0) ∨ (0 < n ∧ 0 < Y) by omega) with hz | hz | hz
    · subst hz
      exact dam_zero S E T Y c A l w hok hA hE32 (Nat.le_refl _) (Nat.le_refl _) hev
    · obtain ⟨hn0, rfl⟩ := hz
      have hni : (0 : Int) < n := by omega
      have hnb : ((n : Int) == 0) = false := by simp; omega
      have hnn : ¬ n = 0 := by omega
      obtain ⟨r, hr, r0, rf, rh, rx, rn, r64, ra, rb, rs⟩ := ver_facts hok hln hE32
      have HOK := Lib.hid hok
      have HR := Lib.hid hr
      have HRH := Lib.hid rh
      have HR64 := Lib.hid r64
      have HRS := Lib.hid rs
      have HRN := Lib.hid rn
      have HLN := Lib.hid hln
      have hS60 : S ≤ 60 := hok.2.1
      have hS7 : 7 ≤ S := hok.1
      have hn600 : n ≤ 600 := hok.2.2.2.1
      have CF := Lib.hid (fun W => fresh_ok W S E n c A (by omega) hok)
      have HEV := Lib.hid hev
      have hbx : Below w.heap.size w (w.alloc (.cells #[.int .u8 (S : Int), .int .u32 (E : Int), .slice A n c] 49)) := (Below.refl _ _).alloc (Nat.le_refl _) _
      have HB := Lib.hid hbx
      replace HEV := Lib.hid (HEV.out.below hbx)
      have HX := Lib.hid (show Blk (w.alloc (.cells #[.int .u8 (S : Int), .int .u32 (E : Int), .slice A n c] 49)) w.heap.size 49 #[.int .u8 (S : Int), .int .u32 (E : Int), .slice A n c] from Blk.new w 49 _)
      have HA0 := Lib.hid (hA.below hbx)
      have hbs : w.heap.size < (w.alloc (.cells #[.int .u8 (S : Int), .int .u32 (E : Int), .slice A n c] 49)).heap.size := HX.out.lt
      have HE0 := Lib.hid hok.2.2.2.2
      clear hev hok hA hx0 hy0 hbx hr rh r64 rs rn hln
      go_enter Tryd.func7, Tryd.ntmps7
      go_wp2_with fail
      refine (CF.out _).mono ?_
      rintro e w1 ⟨p, q, rfl, hp, hq, hd, hb⟩
      have HPQ := Lib.hid (show ∀ k, PQ p q k → (w.alloc (.cells #[.int .u8 (S : Int), .int .u32 (E : Int), .slice A n c] 49)).heap.size ≤ k from fun k hk => by rcases hk with e | e <;> omega)
      have HPW := Lib.hid (show ∀ k, PQ p q k → w.heap.size ≤ k from fun k hk => Nat.le_trans (Nat.le_of_lt hbs) (HPQ.out k hk))
      have HNP := Lib.hid (show ¬ PQ p q 0 ∧ ¬ PQ p q w.heap.size from ⟨fun hk => by have := HPQ.out 0 hk; omega, fun hk => by have := HPQ.out _ hk; omega⟩)
      have HA := Lib.hid (BA.of_at HA0.out HPQ.out)
      replace HB := Lib.hid (HB.out.trans (hb.mono HB.out.size))
      replace HEV := Lib.hid (HEV.out.below hb)
      replace HX := Lib.hid (HX.out.below hb)
      replace HA := Lib.hid (HA.out.below hb)
      clear hb
      have HD := Lib.hid hd
      clear hd CF HA0 hbs hp hq
      go_wp2_with fail
      refine (awake_any _ HEV.out).mono ?_
      rintro e w2 ⟨rfl, hb⟩
      replace HB := Lib.hid (HB.out.trans (hb.mono HB.out.size))
      replace HEV := Lib.hid (HEV.out.below hb)
      replace HX := Lib.hid (HX.out.below hb)
      replace HA := Lib.hid (HA.out.below hb)
      replace HD := Lib.hid (HD.out.below hb)
      clear hb
      have e0 : w2.cell? ⟨w.heap.size, 2, none⟩ = some (.slice A n c) := HX.out.cell 2
      go_wp2_with fail
      refine (awake_any _ HEV.out).mono ?_
      rintro e w5 ⟨rfl, hb⟩
      replace HB := Lib.hid (HB.out.trans (hb.mono HB.out.size))
      replace HEV := Lib.hid (HEV.out.below hb)
      replace HX := Lib.hid (HX.out.below hb)
      replace HA := Lib.hid (HA.out.below hb)
      replace HD := Lib.hid (HD.out.below hb)
      clear hb
      go_wp2
      go_ret
      exact ⟨rfl, HB.out⟩
    · obtain ⟨hn0, hY0⟩ := hz
      have hni : (0 : Int) < n := by omega
      have hnb : ((n : Int) == 0) = false := by simp; omega
      have hnd : decide ((n : Int) = 0) = false := by simp; omega
      have hnn : ¬ n = 0 := by omega
      have hyb : ((Y : Int) == 0) = false := by simp; omega
      have hyn : ¬ Y = 0 := by omega
      obtain ⟨a, ha⟩ : ∃ a : Int, (areaOf S : Int) = a := ⟨_, rfl⟩
      have ha2 : 1 ≤ a ∧ a ≤ 16383 := by rw [← ha]; have := hok.1; have := hok.2.1; unfold areaOf; omega
      have CD := Lib.hid (fun W => Divide_ok W S hok.1 (by have := hok.2.1; omega))
      rw [ha] at CD
      unfold layV at CD
      obtain ⟨i, hi⟩ : ∃ i : Nat, (T : Int).tmod (n : Int) = (i : Int) ∧ i < n := ⟨T % n, by rw [Int.tmod_eq_emod_of_nonneg (by omega)]; exact (Int.natCast_emod T n).symm, Nat.mod_lt _ hn0⟩
      obtain ⟨e1, hin⟩ := hi
      obtain ⟨r, hr, r0, rf, rh, rx, rn, r64, ra, rb, rs⟩ := ver_facts hok hln hE32
      have HOK := Lib.hid hok
      have HR := Lib.hid hr
      have HRH := Lib.hid rh
      have HR64 := Lib.hid r64
      have HRS := Lib.hid rs
      have HRN := Lib.hid rn
      have HLN := Lib.hid hln
      have hS60 : S ≤ 60 := hok.2.1
      have hS7 : 7 ≤ S := hok.1
      have hn600 : n ≤ 600 := hok.2.2.2.1
      have CF := Lib.hid (fun W => fresh_ok W S E n c A (by omega) hok)
      have HEV := Lib.hid hev
      have hbx : Below w.heap.size w (w.alloc (.cells #[.int .u8 (S : Int), .int .u32 (E : Int), .slice A n c] 49)) := (Below.refl _ _).alloc (Nat.le_refl _) _
      have HB := Lib.hid hbx
      replace HEV := Lib.hid (HEV.out.below hbx)
      have HX := Lib.hid (show Blk (w.alloc (.cells #[.int .u8 (S : Int), .int .u32 (E : Int), .slice A n c] 49)) w.heap.size 49 #[.int .u8 (S : Int), .int .u32 (E : Int), .slice A n c] from Blk.new w 49 _)
      have HA0 := Lib.hid (hA.below hbx)
      have hbs : w.heap.size < (w.alloc (.cells #[.int .u8 (S : Int), .int .u32 (E : Int), .slice A n c] 49)).heap.size := HX.out.lt
      have HE0 := Lib.hid hok.2.2.2.2
      obtain ⟨k, sec, x, hkk, hk, hsec, hs64, hxx, hsr⟩ := dam_facts (y := UInt8.ofNat Y) rh hok.2.2.2.2 rs rn r64 hln hin (by intro h0; have := congrArg UInt8.toNat h0; rw [UInt8.toNat_ofNat', Nat.mod_eq_of_lt (by omega)] at this; simp at this; omega)
      obtain ⟨j, hj⟩ : ∃ j, i / 64 = j := ⟨_, rfl⟩
      obtain ⟨m, hm⟩ : ∃ m, i % 64 = m := ⟨_, rfl⟩
      rw [hj] at hkk
      rw [hm] at hxx hsr
      have hkI : (k : Int) = 3 + a + (j : Int) := by omega
      have e2 : (i : Int).tdiv 64 = (j : Int) := by rw [Int.tdiv_eq_ediv_of_nonneg (by omega)]; omega
      have e3 : (i : Int).tmod 64 = (m : Int) := by rw [Int.tmod_eq_emod_of_nonneg (by omega)]; omega
      have hj20 : (j : Int) ≤ 20 := by have := hok.2.2.2.1; omega
      have hm64 : (m : Int) < 64 := by omega
      have hm64n : m < 64 := by omega
      have hi600 : (i : Int) ≤ 600 := by have := hok.2.2.2.1; omega
      have e4 := xor_u8 x Y (by omega)
      obtain ⟨z, hz⟩ : ∃ z, x ^^^ UInt8.ofNat Y = z := ⟨_, rfl⟩
      rw [hz] at e4 hsr
      have HSEC := Lib.hid hsec
      have HXX := Lib.hid hxx
      have HSR := Lib.hid hsr
      have HS64 := Lib.hid hs64
      clear hj hm hsec hxx hsr hs64 hz hkk hin ha
      clear hev hok hA hx0 hy0 hbx hr rh r64 rs rn hln
      go_enter Tryd.func7, Tryd.ntmps7
      go_wp2_with fail
      refine (CF.out _).mono ?_
      rintro e w1 ⟨p, q, rfl, hp, hq, hd, hb⟩
      have HPQ := Lib.hid (show ∀ k, PQ p q k → (w.alloc (.cells #[.int .u8 (S : Int), .int .u32 (E : Int), .slice A n c] 49)).heap.size ≤ k from fun k hk => by rcases hk with e | e <;> omega)
      have HPW := Lib.hid (show ∀ k, PQ p q k → w.heap.size ≤ k from fun k hk => Nat.le_trans (Nat.le_of_lt hbs) (HPQ.out k hk))
      have HNP := Lib.hid (show ¬ PQ p q 0 ∧ ¬ PQ p q w.heap.size from ⟨fun hk => by have := HPQ.out 0 hk; omega, fun hk => by have := HPQ.out _ hk; omega⟩)
      have HA := Lib.hid (BA.of_at HA0.out HPQ.out)
      replace HB := Lib.hid (HB.out.trans (hb.mono HB.out.size))
      replace HEV := Lib.hid (HEV.out.below hb)
      replace HX := Lib.hid (HX.out.below hb)
      replace HA := Lib.hid (HA.out.below hb)
      clear hb
      have HD := Lib.hid hd
      clear hd CF HA0 hbs hp hq
      go_wp2_with fail
      refine (awake_any _ HEV.out).mono ?_
      rintro e w2 ⟨rfl, hb⟩
      replace HB := Lib.hid (HB.out.trans (hb.mono HB.out.size))
      replace HEV := Lib.hid (HEV.out.below hb)
      replace HX := Lib.hid (HX.out.below hb)
      replace HA := Lib.hid (HA.out.below hb)
      replace HD := Lib.hid (HD.out.below hb)
      clear hb
      have e0 : w2.cell? ⟨w.heap.size, 2, none⟩ = some (.slice A n c) := HX.out.cell 2
      have e00 : w2.cell? ⟨w.heap.size, 0, none⟩ = some (.int .u8 (S : Int)) := HX.out.cell 0
      go_wp2_with fail
      refine (CD.out _).mono ?_
      rintro e w3 ⟨rfl, hb⟩
      replace HB := Lib.hid (HB.out.trans (hb.mono HB.out.size))
      replace HEV := Lib.hid (HEV.out.below hb)
      replace HX := Lib.hid (HX.out.below hb)
      replace HA := Lib.hid (HA.out.below hb)
      replace HD := Lib.hid (HD.out.below hb)
      clear hb
      have HL := Lib.hid (Blk.new w3 24 #[.int .i64 0, .int .i64 1, .int .i64 2, .int .i64 3, .int .i64 (3 + a), .int .i64 a, .int .i64 (3 + 2 * a), .int .i64 ((S : Int) - (3 + 2 * a))])
      have hng : ¬ PQ p q w3.heap.size := HD.out.fresh (Nat.le_refl _)
      have HNG := Lib.hid hng
      have hb := (Below.refl w3.heap.size w3).alloc (Nat.le_refl _) (.cells #[.int .i64 0, .int .i64 1, .int .i64 2, .int .i64 3, .int .i64 (3 + a), .int .i64 a, .int .i64 (3 + 2 * a), .int .i64 ((S : Int) - (3 + 2 * a))] 24)
      clear e0 e00 hng
      replace HB := Lib.hid (HB.out.trans (hb.mono HB.out.size))
      replace HEV := Lib.hid (HEV.out.below hb)
      replace HX := Lib.hid (HX.out.below hb)
      replace HA := Lib.hid (HA.out.below hb)
      replace HD := Lib.hid (HD.out.below hb)
      clear hb
      go_wp2_with fail
      generalize w3.heap.size = gl at *
      generalize w3.alloc (.cells #[.int .i64 0, .int .i64 1, .int .i64 2, .int .i64 3, .int .i64 (3 + a), .int .i64 a, .int .i64 (3 + 2 * a), .int .i64 ((S : Int) - (3 + 2 * a))] 24) = w4 at *
      have hb : Below w4.heap.size w4 w4.drew := below_drew (Below.refl _ _)
      replace HB := Lib.hid (HB.out.trans (hb.mono HB.out.size))
      replace HEV := Lib.hid (HEV.out.below hb)
      replace HX := Lib.hid (HX.out.below hb)
      replace HA := Lib.hid (HA.out.below hb)
      replace HD := Lib.hid (HD.out.below hb)
      replace HL := Lib.hid (HL.out.below hb)
      clear hb
      refine wp_region_mix 6 (fun w' => w'.cell? ⟨w.heap.size, 1, none⟩ = some (.int .u32 (E : Int)) ∧ w'.cell? ⟨w.heap.size, 2, none⟩ = some (.slice A n c)) (by kernel_rfl) (by decide) ?_
      generalize w4.drew = D at *
      have hS0 : D.cell? ⟨w.heap.size, 1, none⟩ = some (.int .u32 (E : Int)) ∧ D.cell? ⟨w.heap.size, 2, none⟩ = some (.slice A n c) := ⟨HX.out.cell 1, HX.out.cell 2⟩
      have HDL := Lib.hid (show ∀ k, PQ p q k → k < D.heap.size from fun k hk => by
        rcases hk with e | e
        · rw [e]; exact HD.out.1.lt
        · rw [e]; exact HD.out.2.1.lt)
      refine wpM_take (i := 0) (oi := ⟨some 43, _, _, _, _, _⟩) (v := ?_) rfl (by decide +kernel) (by decide +kernel) (by decide +kernel) (fun _ _ _ h => h) (Or.inl ⟨by rfl, ?_⟩) hS0 ?_
      case refine_2 => (intro w hSw; (try dsimp only at hSw); go_simp; try (with_reducible rfl))
      try simp only [Act.put, List.setIfInBounds_toArray, List.set_cons_zero, List.set_cons_succ]
      refine wpM_take (i := 1) (oi := ⟨some 44, _, _, _, _, _⟩) (v := ?_) rfl (by decide +kernel) (by decide +kernel) (by decide +kernel) (fun _ _ _ h => h) (Or.inl ⟨by rfl, ?_⟩) hS0 ?_
      case refine_2 => (intro w hSw; (try dsimp only at hSw); go_simp; try (with_reducible rfl))
      try simp only [Act.put, List.setIfInBounds_toArray, List.set_cons_zero, List.set_cons_succ]
      refine wpM_take (i := 2) (oi := ⟨some 45, _, _, _, _, _⟩) (v := ?_) rfl (by decide +kernel) (by decide +kernel) (by decide +kernel) (fun _ _ _ h => h) (Or.inl ⟨by rfl, ?_⟩) hS0 ?_
      case refine_2 => (intro w hSw; (try dsimp only at hSw); go_simp; try (with_reducible rfl))
      try simp only [Act.put, List.setIfInBounds_toArray, List.set_cons_zero, List.set_cons_succ]
      refine wpM_take (i := 3) (oi := ⟨some 46, _, _, _, _, _⟩) (v := ?_) rfl (by decide +kernel) (by decide +kernel) (by decide +kernel) (fun _ _ _ h => h) (Or.inl ⟨by rfl, ?_⟩) hS0 ?_
      case refine_2 => (intro w hSw; (try dsimp only at hSw); go_simp; try (with_reducible rfl))
      try simp only [Act.put, List.setIfInBounds_toArray, List.set_cons_zero, List.set_cons_succ]
      refine wpM_take (i := 4) (oi := ⟨some 47, _, _, _, _, _⟩) (v := ?_) rfl (by decide +kernel) (by decide +kernel) (by decide +kernel) (fun _ _ _ h => h) (Or.inl ⟨by rfl, ?_⟩) hS0 ?_
      case refine_2 => (intro w hSw; (try dsimp only at hSw); go_simp; try (with_reducible rfl))
      try simp only [Act.put, List.setIfInBounds_toArray, List.set_cons_zero, List.set_cons_succ]
      refine wpM_step (i := 5) (o := ⟨some 48, _, _, _, _, _⟩) rfl (by decide +kernel) (by decide) (fun K hK => ?_)
      go_simp
      go_at_call 21
      refine (cp_any A n c l D HA.out.at (by omega)).mono ?_
      rintro e9 w9 ⟨v9, rfl, ho9, hb9⟩
      have hS1 : w9.cell? ⟨w.heap.size, 1, none⟩ = some (.int .u32 (E : Int)) ∧ w9.cell? ⟨w.heap.size, 2, none⟩ = some (.slice A n c) := ⟨keepcell hb9 hS0.1, keepcell hb9 hS0.2⟩
      refine hK.out _ _ hS1 ?_
      clear hK K
      try simp only [Act.put, List.setIfInBounds_toArray, List.set_cons_zero, List.set_cons_succ]
      refine wpM_done (by decide +kernel) ?_
      simp only [List.drop_succ_cons, List.drop_zero]
      obtain ⟨A9, c9, hv9, hba9, hc9, hcm9⟩ := own_bytes3 (F := PQ p q) ho9 HDL.out
      rw [HLN.out] at hv9 hba9 hc9
      have HBA9 := Lib.hid hba9
      subst hv9
      replace HB := Lib.hid (HB.out.trans (hb9.mono HB.out.size))
      replace HEV := Lib.hid (HEV.out.below hb9)
      replace HX := Lib.hid (HX.out.below hb9)
      replace HA := Lib.hid (HA.out.below hb9)
      replace HD := Lib.hid (HD.out.below hb9)
      replace HL := Lib.hid (HL.out.below hb9)
      clear hb9
      clear ho9 hba9 hS0 hS1 HDL
      go_wp2_with fail
      refine (SWrite_any w9 p q _ HD.out HNP.out.1 HEV.out E n c9 (by have : (St.new S).x = 0 := rfl; omega) hE32 A9 l HBA9.out (by omega) hc9 hcm9).mono ?_
      rintro e w10 ⟨rfl, hd, hc⟩
      rw [HR.out] at hd ⊢
      rw [r0]
      replace HB := Lib.hid (hc.below HB.out HPW.out HB.out.size)
      replace HEV := Lib.hid (HEV.out.chg hc HNP.out.1)
      replace HX := Lib.hid (HX.out.chg hc HNP.out.2)
      replace HA := Lib.hid (HA.out.chg hc)
      replace HL := Lib.hid (HL.out.chg hc HNG.out)
      replace HD := Lib.hid hd
      clear hd hc
      clear HBA9 hc9 hcm9
      have c2 : w10.cell? ⟨w.heap.size, 2, none⟩ = some (.slice A n c) := HX.out.cell 2
      have cl : w10.cell? ⟨gl, 4, none⟩ = some (.int .i64 (3 + a)) := HL.out.cell 4
      have CRD := Lib.hid (Read_ok w10 p q r.1 HD.out rf k (by rw [HRN.out]; exact hk))
      rw [hkI, HSEC.out] at CRD
      go_wp2_with fail
      refine CRD.out.mono ?_
      rintro e w11 ⟨g, rfl, hg, hkg, hb⟩
      have hgn : ¬ PQ p q g := HD.out.fresh hg
      have HNGG := Lib.hid hgn
      have HGW := Lib.hid (show w.heap.size < g ∧ 0 < g from ⟨Nat.lt_of_lt_of_le HX.out.lt hg, Nat.lt_of_lt_of_le HEV.out.big hg⟩)
      replace HB := Lib.hid (HB.out.trans (hb.mono HB.out.size))
      replace HEV := Lib.hid (HEV.out.below hb)
      replace HX := Lib.hid (HX.out.below hb)
      replace HA := Lib.hid (HA.out.below hb)
      replace HD := Lib.hid (HD.out.below hb)
      replace HL := Lib.hid (HL.out.below hb)
      clear hb
      have HKG := Lib.hid hkg
      have cx : w11.cell? ⟨g, m, none⟩ = some (.int .u8 (x.toNat : Int)) := by
        rw [HKG.out.cell m, List.getElem?_toArray]
        have hm : m < sec.length := (List.getElem?_eq_some_iff.1 HXX.out).1
        rw [bc_at _ _ hm]
        have := HXX.out
        rw [List.getElem?_eq_getElem hm] at this
        injection this with this
        rw [this]
      have fx : ∀ j, w11.frozen? ⟨g, j, none⟩ = false := fun j => Joins.unfrozen_of_block HKG.out j
      clear CRD hkg hg hgn c2 cl
      go_wp2_with fail
      have hkg2 := Joins.block_setCell HKG.out (i := m) (.int .u8 (z.toNat : Int))
      rw [bc_set] at hkg2
      have HKG2 := Lib.hid hkg2
      have hc : Chg (fun b => b = g) w11 (w11.setCell ⟨g, m, none⟩ (.int .u8 (z.toNat : Int))) := (Chg.refl _ _).set_ rfl
      obtain ⟨t, ht, tf, tR⟩ : ∃ t : St, r.1.Wr (3 + a + (j : Int)) (sec.set m z) = (t, 0) ∧ t.f = false ∧ t.R = r.1.R.set k (sec.set m z) := by
        rw [← hkI]
        refine ⟨⟨r.1.R.set k (sec.set m z), r.1.f, r.1.a - 1, r.1.b, r.1.x + 1⟩, ?_, rf, rfl⟩
        unfold St.Wr St.wr
        rw [if_neg (by rw [rf]; decide), if_pos ⟨by omega, by rw [HRN.out]; omega, by rw [List.length_set, HS64.out]⟩, if_neg (by rw [ra]; decide), Int.toNat_natCast]
      have HTR := Lib.hid (HSR.out t tf tR)
      replace HB := Lib.hid (hc.below HB.out (fun k hk => by have := HGW.out; omega) HB.out.size)
      replace HEV := Lib.hid (HEV.out.chg hc (by have := HGW.out; omega))
      replace HX := Lib.hid (HX.out.chg hc (by have := HGW.out; omega))
      replace HA := Lib.hid True.intro
      replace HD := Lib.hid (HD.out.chg hc (fun e => HNGG.out (.inl e.symm)) (fun e => HNGG.out (.inr e.symm)))
      have CW := Lib.hid (Write_any _ p q r.1 HD.out (by rw [rx]; have : nch n ≤ 20 := (by unfold nch; omega); omega) (3 + a + (j : Int)) (some ⟨g, 0, none⟩) 64 64 (sec.set m z) (ba_of_blk (n := 64) HKG2.out (by rw [List.length_set, HS64.out]) HNGG.out) (by decide))
      rw [ht] at CW
      clear ht tf tR hkg2 hc
      refine CW.out.mono ?_
      rintro e w12 ⟨rfl, hd, hc⟩
      replace HB := Lib.hid (hc.below HB.out HPW.out HB.out.size)
      replace HEV := Lib.hid (HEV.out.chg hc HNP.out.1)
      replace HD := Lib.hid hd
      clear hd hc CW
      have CR := Lib.hid (SRead_any w12 p q _ HD.out HNP.out.1 HEV.out)
      rw [HTR.out] at CR
      go_wp2_with fail
      refine CR.out.mono ?_
      rintro e w13 ⟨v13, rfl, ho13, hb⟩
      replace HB := Lib.hid (HB.out.trans (hb.mono HB.out.size))
      obtain ⟨A13, c13, rfl, -⟩ := own_bytes ho13
      clear hb ho13 CR
      go_wp2
      go_ret
      exact ⟨by simp, HB.out⟩
  · have CF := Lib.hid (fun W => fresh_no W S E n c A (by omega) (by omega) hok)
    have HEV := Lib.hid hev
    have hbx : Below w.heap.size w (w.alloc (.cells #[.int .u8 (S : Int), .int .u32 (E : Int), .slice A n c] 49)) := (Below.refl _ _).alloc (Nat.le_refl _) _
    have HB := Lib.hid hbx
    replace HEV := Lib.hid (HEV.out.below hbx)
    clear hev hok hA hx0 hy0 hbx ht0 ht1 hb0 hb1
    go_enter Tryd.func7, Tryd.ntmps7
    go_wp2_with fail
    refine (CF.out _).mono ?_
    rintro e w1 ⟨rfl, hb⟩
    replace HB := Lib.hid (HB.out.trans (hb.mono HB.out.size))
    replace HEV := Lib.hid (HEV.out.below hb)
    clear hb
    go_wp2_with fail
    refine (awake_any _ HEV.out).mono ?_
    rintro e w2 ⟨rfl, hb⟩
    replace HB := Lib.hid (HB.out.trans (hb.mono HB.out.size))
    replace HEV := Lib.hid (HEV.out.below hb)
    clear hb
    go_wp2_with fail
    refine (awake_any _ HEV.out).mono ?_
    rintro e w3 ⟨rfl, hb⟩
    replace HB := Lib.hid (HB.out.trans (hb.mono HB.out.size))
    replace HEV := Lib.hid (HEV.out.below hb)
    clear hb
    go_wp2
    go_ret
    exact ⟨rfl, HB.out⟩
end Go.Proofs.YthhpilkhcomhbaaDoor
