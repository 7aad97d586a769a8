/- The walk of the law SnapshotTorn. -/
import Derived.Test.YthhpilkhcomhbaaDoorLm2
namespace Go.Proofs.YthhpilkhcomhbaaDoor
open Go.ChangeShapes Go.WideShapes Go.ChangeAt Go.RowKit Go.ChangeMaps

set_option maxRecDepth 100000 in
set_option maxHeartbeats 4000000 in
theorem snapshotTorn_walk (x0 y0 : Int) (A : Option Addr) (n c : Nat) (l : List UInt8) (A2 : Option Addr) (n2 c2 : Nat) (l2 : List UInt8) (z0 z1 z2 : Int) (w : World) (hx0 : 0 ≤ x0 ∧ x0 ≤ 255) (hy0 : 0 ≤ y0 ∧ y0 ≤ 4294967295) (hA0 : BytesAt w A n l ∧ n ≤ c ∧ c ≤ 9223372036854775807) (hA2 : BytesAt w A2 n2 l2) (hnc2 : n2 ≤ c2) (hcm2 : c2 ≤ 9223372036854775807) (hX : (0 ≤ z0 ∧ z0 ≤ 255) ∧ (0 ≤ z1 ∧ z1 ≤ 255) ∧ (0 ≤ z2 ∧ z2 ≤ 255)) (hev : Env w) :
    Calls Tryd.prog 6 #[.agg #[.int .u8 x0, .int .u32 y0, .slice A n c], .slice A2 n2 c2, .agg #[.int .u8 z0, .int .u8 z1, .int .u8 z2]] w fun e w' => e = .returned (.bool true) ∧ Below w.heap.size w w' := by
  obtain ⟨S, rfl⟩ : ∃ S : Nat, x0 = S := ⟨x0.toNat, by omega⟩
  obtain ⟨E, rfl⟩ : ∃ E : Nat, y0 = E := ⟨y0.toNat, by omega⟩
  obtain ⟨hA, hnc, hcm⟩ := hA0
  have hln : l.length = n := hA.1
  have hE32 : E < 4294967296 := by omega
  obtain ⟨hX0, hX1, hX2⟩ := hX
  obtain ⟨X0, rfl⟩ : ∃ T : Nat, z0 = T := ⟨z0.toNat, by omega⟩
  obtain ⟨X1, rfl⟩ : ∃ T : Nat, z1 = T := ⟨z1.toNat, by omega⟩
  obtain ⟨X2, rfl⟩ : ∃ T : Nat, z2 = T := ⟨z2.toNat, by omega⟩
  by_cases hok : okV S E n
  · have hcap : capM (S : Int) = ((64 * areaOf S : Nat) : Int) := by unfold capM; rw [if_pos ⟨by have := hok.1; omega, by have := hok.2.1; omega⟩, Int.toNat_natCast]; omega
    have CC := Lib.hid (fun W => RCapacity_any W (S : Int))
    rw [hcap] at CC
    have hK : 64 * areaOf S ≤ 960 := by have := hok.2.1; unfold areaOf; omega
    obtain ⟨K, hKK⟩ : ∃ K, 64 * areaOf S = K := ⟨_, rfl⟩
    have hnK : n ≤ K := by rw [← hKK]; exact hok.2.2.1
    rw [hKK] at CC hK
    have HKK := Lib.hid hKK
    clear hKK hcap
    rcases (show K < n2 ∨ (n2 ≤ K ∧ 600 < n2) ∨ (n2 ≤ K ∧ n2 ≤ 600) by omega) with hz | hz | hz
    · have t1 : (K : Int) < n2 := by omega
      obtain ⟨r, hr, r0, rf, rh, rx, rn, r64, ra, rb, rs⟩ := ver_facts hok hln hE32
      have HOK := Lib.hid hok
      have HR := Lib.hid hr
      have HRH := Lib.hid rh
      have HR64 := Lib.hid r64
      have HRS := Lib.hid rs
      have HRN := Lib.hid rn
      have HLN := Lib.hid hln
      have hS60 : S ≤ 60 := hok.2.1
      have hS7 : 7 ≤ S := hok.1
      have hn600 : n ≤ 600 := hok.2.2.2.1
      have CF := Lib.hid (fun W => fresh_ok W S E n c A (by omega) hok)
      have HEV := Lib.hid hev
      have hbx : Below w.heap.size w ((w.alloc (.cells #[.int .u8 (S : Int), .int .u32 (E : Int), .slice A n c] 49)).alloc (.cells #[.int .u8 (X0 : Int), .int .u8 (X1 : Int), .int .u8 (X2 : Int)] 56)) := ((Below.refl _ w).alloc (Nat.le_refl _) _).alloc (by simp) _
      have HB := Lib.hid hbx
      replace HEV := Lib.hid (HEV.out.below hbx)
      have HX := Lib.hid (show Blk ((w.alloc (.cells #[.int .u8 (S : Int), .int .u32 (E : Int), .slice A n c] 49)).alloc (.cells #[.int .u8 (X0 : Int), .int .u8 (X1 : Int), .int .u8 (X2 : Int)] 56)) w.heap.size 49 #[.int .u8 (S : Int), .int .u32 (E : Int), .slice A n c] from (Blk.new w 49 _).alloc _)
      have HA0 := Lib.hid (hA.below hbx)
      have hbs : w.heap.size < ((w.alloc (.cells #[.int .u8 (S : Int), .int .u32 (E : Int), .slice A n c] 49)).alloc (.cells #[.int .u8 (X0 : Int), .int .u8 (X1 : Int), .int .u8 (X2 : Int)] 56)).heap.size := HX.out.lt
      have HE0 := Lib.hid hok.2.2.2.2
      have HY := Lib.hid (show Blk ((w.alloc (.cells #[.int .u8 (S : Int), .int .u32 (E : Int), .slice A n c] 49)).alloc (.cells #[.int .u8 (X0 : Int), .int .u8 (X1 : Int), .int .u8 (X2 : Int)] 56)) (w.heap.size + 1) 56 #[.int .u8 (X0 : Int), .int .u8 (X1 : Int), .int .u8 (X2 : Int)] from Blk.new_ (by simp) rfl)
      have HO0 := Lib.hid (hA2.below hbx)
      have HLN2 := Lib.hid hA2.1
      have hbs2 : w.heap.size + 1 < ((w.alloc (.cells #[.int .u8 (S : Int), .int .u32 (E : Int), .slice A n c] 49)).alloc (.cells #[.int .u8 (X0 : Int), .int .u8 (X1 : Int), .int .u8 (X2 : Int)] 56)).heap.size := HY.out.lt
      clear hev hok hA hx0 hy0 hbx hr rh r64 rs rn hln hA2 hX0 hX1 hX2
      go_enter Tryd.func6, Tryd.ntmps6
      go_wp2_with fail
      refine (CF.out _).mono ?_
      rintro e w1 ⟨p, q, rfl, hp, hq, hd, hb⟩
      have HPQ := Lib.hid (show ∀ k, PQ p q k → ((w.alloc (.cells #[.int .u8 (S : Int), .int .u32 (E : Int), .slice A n c] 49)).alloc (.cells #[.int .u8 (X0 : Int), .int .u8 (X1 : Int), .int .u8 (X2 : Int)] 56)).heap.size ≤ k from fun k hk => by rcases hk with e | e <;> omega)
      have HPW := Lib.hid (show ∀ k, PQ p q k → w.heap.size ≤ k from fun k hk => Nat.le_trans (Nat.le_of_lt hbs) (HPQ.out k hk))
      have HNP := Lib.hid (show ¬ PQ p q 0 ∧ ¬ PQ p q w.heap.size from ⟨fun hk => by have := HPQ.out 0 hk; omega, fun hk => by have := HPQ.out _ hk; omega⟩)
      have HA := Lib.hid (BA.of_at HA0.out HPQ.out)
      have HO := Lib.hid (BA.of_at HO0.out HPQ.out)
      have HNY := Lib.hid (show ¬ PQ p q (w.heap.size + 1) from fun hk => by have := HPQ.out _ hk; omega)
      replace HB := Lib.hid (HB.out.trans (hb.mono HB.out.size))
      replace HEV := Lib.hid (HEV.out.below hb)
      replace HX := Lib.hid (HX.out.below hb)
      replace HY := Lib.hid (HY.out.below hb)
      replace HA := Lib.hid (HA.out.below hb)
      replace HO := Lib.hid (HO.out.below hb)
      clear hb
      have HD := Lib.hid hd
      clear hd CF HA0 HO0 hbs hbs2 hp hq
      go_wp2_with fail
      refine (awake_any _ HEV.out).mono ?_
      rintro e w2 ⟨rfl, hb⟩
      replace HB := Lib.hid (HB.out.trans (hb.mono HB.out.size))
      replace HEV := Lib.hid (HEV.out.below hb)
      replace HX := Lib.hid (HX.out.below hb)
      replace HY := Lib.hid (HY.out.below hb)
      replace HA := Lib.hid (HA.out.below hb)
      replace HO := Lib.hid (HO.out.below hb)
      replace HD := Lib.hid (HD.out.below hb)
      clear hb
      have e00 : w2.cell? ⟨w.heap.size, 0, none⟩ = some (.int .u8 (S : Int)) := HX.out.cell 0
      go_wp2_with fail
      refine (CC.out _).mono ?_
      rintro e w4 ⟨rfl, hb⟩
      replace HB := Lib.hid (HB.out.trans (hb.mono HB.out.size))
      replace HEV := Lib.hid (HEV.out.below hb)
      replace HX := Lib.hid (HX.out.below hb)
      replace HY := Lib.hid (HY.out.below hb)
      replace HA := Lib.hid (HA.out.below hb)
      replace HO := Lib.hid (HO.out.below hb)
      replace HD := Lib.hid (HD.out.below hb)
      clear hb
      go_wp2_with fail
      refine (awake_any _ HEV.out).mono ?_
      rintro e w5 ⟨rfl, hb⟩
      replace HB := Lib.hid (HB.out.trans (hb.mono HB.out.size))
      replace HEV := Lib.hid (HEV.out.below hb)
      replace HX := Lib.hid (HX.out.below hb)
      replace HY := Lib.hid (HY.out.below hb)
      replace HA := Lib.hid (HA.out.below hb)
      replace HO := Lib.hid (HO.out.below hb)
      replace HD := Lib.hid (HD.out.below hb)
      clear hb
      go_wp2
      go_ret
      exact ⟨rfl, HB.out⟩
    · obtain ⟨hz1, hz2⟩ := hz
      have t1 : (n2 : Int) ≤ K := by omega
      have t2 : (600 : Int) < n2 := by omega
      obtain ⟨r, hr, r0, rf, rh, rx, rn, r64, ra, rb, rs⟩ := ver_facts hok hln hE32
      have HOK := Lib.hid hok
      have HR := Lib.hid hr
      have HRH := Lib.hid rh
      have HR64 := Lib.hid r64
      have HRS := Lib.hid rs
      have HRN := Lib.hid rn
      have HLN := Lib.hid hln
      have hS60 : S ≤ 60 := hok.2.1
      have hS7 : 7 ≤ S := hok.1
      have hn600 : n ≤ 600 := hok.2.2.2.1
      have CF := Lib.hid (fun W => fresh_ok W S E n c A (by omega) hok)
      have HEV := Lib.hid hev
      have hbx : Below w.heap.size w ((w.alloc (.cells #[.int .u8 (S : Int), .int .u32 (E : Int), .slice A n c] 49)).alloc (.cells #[.int .u8 (X0 : Int), .int .u8 (X1 : Int), .int .u8 (X2 : Int)] 56)) := ((Below.refl _ w).alloc (Nat.le_refl _) _).alloc (by simp) _
      have HB := Lib.hid hbx
      replace HEV := Lib.hid (HEV.out.below hbx)
      have HX := Lib.hid (show Blk ((w.alloc (.cells #[.int .u8 (S : Int), .int .u32 (E : Int), .slice A n c] 49)).alloc (.cells #[.int .u8 (X0 : Int), .int .u8 (X1 : Int), .int .u8 (X2 : Int)] 56)) w.heap.size 49 #[.int .u8 (S : Int), .int .u32 (E : Int), .slice A n c] from (Blk.new w 49 _).alloc _)
      have HA0 := Lib.hid (hA.below hbx)
      have hbs : w.heap.size < ((w.alloc (.cells #[.int .u8 (S : Int), .int .u32 (E : Int), .slice A n c] 49)).alloc (.cells #[.int .u8 (X0 : Int), .int .u8 (X1 : Int), .int .u8 (X2 : Int)] 56)).heap.size := HX.out.lt
      have HE0 := Lib.hid hok.2.2.2.2
      have HY := Lib.hid (show Blk ((w.alloc (.cells #[.int .u8 (S : Int), .int .u32 (E : Int), .slice A n c] 49)).alloc (.cells #[.int .u8 (X0 : Int), .int .u8 (X1 : Int), .int .u8 (X2 : Int)] 56)) (w.heap.size + 1) 56 #[.int .u8 (X0 : Int), .int .u8 (X1 : Int), .int .u8 (X2 : Int)] from Blk.new_ (by simp) rfl)
      have HO0 := Lib.hid (hA2.below hbx)
      have HLN2 := Lib.hid hA2.1
      have hbs2 : w.heap.size + 1 < ((w.alloc (.cells #[.int .u8 (S : Int), .int .u32 (E : Int), .slice A n c] 49)).alloc (.cells #[.int .u8 (X0 : Int), .int .u8 (X1 : Int), .int .u8 (X2 : Int)] 56)).heap.size := HY.out.lt
      clear hev hok hA hx0 hy0 hbx hr rh r64 rs rn hln hA2 hX0 hX1 hX2
      go_enter Tryd.func6, Tryd.ntmps6
      go_wp2_with fail
      refine (CF.out _).mono ?_
      rintro e w1 ⟨p, q, rfl, hp, hq, hd, hb⟩
      have HPQ := Lib.hid (show ∀ k, PQ p q k → ((w.alloc (.cells #[.int .u8 (S : Int), .int .u32 (E : Int), .slice A n c] 49)).alloc (.cells #[.int .u8 (X0 : Int), .int .u8 (X1 : Int), .int .u8 (X2 : Int)] 56)).heap.size ≤ k from fun k hk => by rcases hk with e | e <;> omega)
      have HPW := Lib.hid (show ∀ k, PQ p q k → w.heap.size ≤ k from fun k hk => Nat.le_trans (Nat.le_of_lt hbs) (HPQ.out k hk))
      have HNP := Lib.hid (show ¬ PQ p q 0 ∧ ¬ PQ p q w.heap.size from ⟨fun hk => by have := HPQ.out 0 hk; omega, fun hk => by have := HPQ.out _ hk; omega⟩)
      have HA := Lib.hid (BA.of_at HA0.out HPQ.out)
      have HO := Lib.hid (BA.of_at HO0.out HPQ.out)
      have HNY := Lib.hid (show ¬ PQ p q (w.heap.size + 1) from fun hk => by have := HPQ.out _ hk; omega)
      replace HB := Lib.hid (HB.out.trans (hb.mono HB.out.size))
      replace HEV := Lib.hid (HEV.out.below hb)
      replace HX := Lib.hid (HX.out.below hb)
      replace HY := Lib.hid (HY.out.below hb)
      replace HA := Lib.hid (HA.out.below hb)
      replace HO := Lib.hid (HO.out.below hb)
      clear hb
      have HD := Lib.hid hd
      clear hd CF HA0 HO0 hbs hbs2 hp hq
      go_wp2_with fail
      refine (awake_any _ HEV.out).mono ?_
      rintro e w2 ⟨rfl, hb⟩
      replace HB := Lib.hid (HB.out.trans (hb.mono HB.out.size))
      replace HEV := Lib.hid (HEV.out.below hb)
      replace HX := Lib.hid (HX.out.below hb)
      replace HY := Lib.hid (HY.out.below hb)
      replace HA := Lib.hid (HA.out.below hb)
      replace HO := Lib.hid (HO.out.below hb)
      replace HD := Lib.hid (HD.out.below hb)
      clear hb
      have e00 : w2.cell? ⟨w.heap.size, 0, none⟩ = some (.int .u8 (S : Int)) := HX.out.cell 0
      go_wp2_with fail
      refine (CC.out _).mono ?_
      rintro e w4 ⟨rfl, hb⟩
      replace HB := Lib.hid (HB.out.trans (hb.mono HB.out.size))
      replace HEV := Lib.hid (HEV.out.below hb)
      replace HX := Lib.hid (HX.out.below hb)
      replace HY := Lib.hid (HY.out.below hb)
      replace HA := Lib.hid (HA.out.below hb)
      replace HO := Lib.hid (HO.out.below hb)
      replace HD := Lib.hid (HD.out.below hb)
      clear hb
      go_wp2_with fail
      refine (awake_any _ HEV.out).mono ?_
      rintro e w5 ⟨rfl, hb⟩
      replace HB := Lib.hid (HB.out.trans (hb.mono HB.out.size))
      replace HEV := Lib.hid (HEV.out.below hb)
      replace HX := Lib.hid (HX.out.below hb)
      replace HY := Lib.hid (HY.out.below hb)
      replace HA := Lib.hid (HA.out.below hb)
      replace HO := Lib.hid (HO.out.below hb)
      replace HD := Lib.hid (HD.out.below hb)
      clear hb
      go_wp2
      go_ret
      exact ⟨rfl, HB.out⟩
    · obtain ⟨hz1, hz2⟩ := hz
      have t1 : (n2 : Int) ≤ K := by omega
      have t2 : (n2 : Int) ≤ 600 := by omega
      have t3 : decide (600 < (n2 : Int)) = false := by simp; omega
      have t4 : decide ((K : Int) < (n2 : Int)) = false := by simp; omega
      have t5 : decide (K < n2) = false := by simp; omega
      have t6 : decide (600 < n2) = false := by simp; omega
      obtain ⟨k, e1, hk5⟩ : ∃ k : Nat, (X0 : Int).tmod 6 = (k : Int) ∧ k ≤ 5 := ⟨X0 % 6, by rw [Int.tmod_eq_emod_of_nonneg (by omega)]; omega, by omega⟩
      obtain ⟨r, hr, r0, rf, rh, rx, rn, r64, ra, rb, rs⟩ := ver_facts hok hln hE32
      have HOK := Lib.hid hok
      have HR := Lib.hid hr
      have HRH := Lib.hid rh
      have HR64 := Lib.hid r64
      have HRS := Lib.hid rs
      have HRN := Lib.hid rn
      have HLN := Lib.hid hln
      have hS60 : S ≤ 60 := hok.2.1
      have hS7 : 7 ≤ S := hok.1
      have hn600 : n ≤ 600 := hok.2.2.2.1
      have CF := Lib.hid (fun W => fresh_ok W S E n c A (by omega) hok)
      have HEV := Lib.hid hev
      have hbx : Below w.heap.size w ((w.alloc (.cells #[.int .u8 (S : Int), .int .u32 (E : Int), .slice A n c] 49)).alloc (.cells #[.int .u8 (X0 : Int), .int .u8 (X1 : Int), .int .u8 (X2 : Int)] 56)) := ((Below.refl _ w).alloc (Nat.le_refl _) _).alloc (by simp) _
      have HB := Lib.hid hbx
      replace HEV := Lib.hid (HEV.out.below hbx)
      have HX := Lib.hid (show Blk ((w.alloc (.cells #[.int .u8 (S : Int), .int .u32 (E : Int), .slice A n c] 49)).alloc (.cells #[.int .u8 (X0 : Int), .int .u8 (X1 : Int), .int .u8 (X2 : Int)] 56)) w.heap.size 49 #[.int .u8 (S : Int), .int .u32 (E : Int), .slice A n c] from (Blk.new w 49 _).alloc _)
      have HA0 := Lib.hid (hA.below hbx)
      have hbs : w.heap.size < ((w.alloc (.cells #[.int .u8 (S : Int), .int .u32 (E : Int), .slice A n c] 49)).alloc (.cells #[.int .u8 (X0 : Int), .int .u8 (X1 : Int), .int .u8 (X2 : Int)] 56)).heap.size := HX.out.lt
      have HE0 := Lib.hid hok.2.2.2.2
      have HY := Lib.hid (show Blk ((w.alloc (.cells #[.int .u8 (S : Int), .int .u32 (E : Int), .slice A n c] 49)).alloc (.cells #[.int .u8 (X0 : Int), .int .u8 (X1 : Int), .int .u8 (X2 : Int)] 56)) (w.heap.size + 1) 56 #[.int .u8 (X0 : Int), .int .u8 (X1 : Int), .int .u8 (X2 : Int)] from Blk.new_ (by simp) rfl)
      have HO0 := Lib.hid (hA2.below hbx)
      have HLN2 := Lib.hid hA2.1
      have hbs2 : w.heap.size + 1 < ((w.alloc (.cells #[.int .u8 (S : Int), .int .u32 (E : Int), .slice A n c] 49)).alloc (.cells #[.int .u8 (X0 : Int), .int .u8 (X1 : Int), .int .u8 (X2 : Int)] 56)).heap.size := HY.out.lt
      clear hev hok hA hx0 hy0 hbx hr rh r64 rs rn hln hA2 hX0 hX1 hX2
      go_enter Tryd.func6, Tryd.ntmps6
      go_wp2_with fail
      refine (CF.out _).mono ?_
      rintro e w1 ⟨p, q, rfl, hp, hq, hd, hb⟩
      have HPQ := Lib.hid (show ∀ k, PQ p q k → ((w.alloc (.cells #[.int .u8 (S : Int), .int .u32 (E : Int), .slice A n c] 49)).alloc (.cells #[.int .u8 (X0 : Int), .int .u8 (X1 : Int), .int .u8 (X2 : Int)] 56)).heap.size ≤ k from fun k hk => by rcases hk with e | e <;> omega)
      have HPW := Lib.hid (show ∀ k, PQ p q k → w.heap.size ≤ k from fun k hk => Nat.le_trans (Nat.le_of_lt hbs) (HPQ.out k hk))
      have HNP := Lib.hid (show ¬ PQ p q 0 ∧ ¬ PQ p q w.heap.size from ⟨fun hk => by have := HPQ.out 0 hk; omega, fun hk => by have := HPQ.out _ hk; omega⟩)
      have HA := Lib.hid (BA.of_at HA0.out HPQ.out)
      have HO := Lib.hid (BA.of_at HO0.out HPQ.out)
      have HNY := Lib.hid (show ¬ PQ p q (w.heap.size + 1) from fun hk => by have := HPQ.out _ hk; omega)
      replace HB := Lib.hid (HB.out.trans (hb.mono HB.out.size))
      replace HEV := Lib.hid (HEV.out.below hb)
      replace HX := Lib.hid (HX.out.below hb)
      replace HY := Lib.hid (HY.out.below hb)
      replace HA := Lib.hid (HA.out.below hb)
      replace HO := Lib.hid (HO.out.below hb)
      clear hb
      have HD := Lib.hid hd
      clear hd CF HA0 HO0 hbs hbs2 hp hq
      go_wp2_with fail
      refine (awake_any _ HEV.out).mono ?_
      rintro e w2 ⟨rfl, hb⟩
      replace HB := Lib.hid (HB.out.trans (hb.mono HB.out.size))
      replace HEV := Lib.hid (HEV.out.below hb)
      replace HX := Lib.hid (HX.out.below hb)
      replace HY := Lib.hid (HY.out.below hb)
      replace HA := Lib.hid (HA.out.below hb)
      replace HO := Lib.hid (HO.out.below hb)
      replace HD := Lib.hid (HD.out.below hb)
      clear hb
      have e00 : w2.cell? ⟨w.heap.size, 0, none⟩ = some (.int .u8 (S : Int)) := HX.out.cell 0
      go_wp2_with fail
      refine (CC.out _).mono ?_
      rintro e w4 ⟨rfl, hb⟩
      replace HB := Lib.hid (HB.out.trans (hb.mono HB.out.size))
      replace HEV := Lib.hid (HEV.out.below hb)
      replace HX := Lib.hid (HX.out.below hb)
      replace HY := Lib.hid (HY.out.below hb)
      replace HA := Lib.hid (HA.out.below hb)
      replace HO := Lib.hid (HO.out.below hb)
      replace HD := Lib.hid (HD.out.below hb)
      clear hb
      clear e00
      have y0 : w4.cell? ⟨w.heap.size + 1, 0, none⟩ = some (.int .u8 (X0 : Int)) := HY.out.cell 0
      have hHO := Lib.hid (Ho.new hS7 hS60 l2)
      go_wp2_with fail
      clear y0
      go_loopw [9] (fun iv wr => ∃ (j i : Nat) (s : St), iv = .int .u32 (i : Int) ∧ i = j + 1 ∧ j ≤ k ∧ Ho s S j l2 ∧ s.a = 0 ∧ s.x ≤ 12 * j ∧ Dk wr p q s ∧ Chg (PQ p q) w4 wr) (fun iv _ => k + 2 - (intOf iv).toNat)
      case atStart => exact ⟨0, 1, _, rfl, rfl, by omega, hHO.out, rfl, Nat.le_refl _, HD.out, Chg.refl _ _⟩
      case round =>
        obtain ⟨j, i, s, rfl, hij, hjk, hho, hsa, hsx, hdk, hcg⟩ := hrel
        have HHO2 := Lib.hid hho
        replace HD := Lib.hid hdk
        replace HB := Lib.hid (hcg.below HB.out HPW.out HB.out.size)
        replace HEV := Lib.hid (HEV.out.chg hcg HNP.out.1)
        replace HX := Lib.hid (HX.out.chg hcg HNP.out.2)
        replace HY := Lib.hid (HY.out.chg hcg HNY.out)
        replace HA := Lib.hid (HA.out.chg hcg)
        replace HO := Lib.hid (HO.out.chg hcg)
        have HCG := Lib.hid hcg
        clear hho hdk hcg
        by_cases hlt : i ≤ k
        · have hlti : (i : Int) ≤ k := by omega
          have hi5 : (i : Int) ≤ 5 := by omega
          obtain ⟨rr, hrr, hrx, hr0, hrh, hra⟩ : ∃ rr, SW s i l2 = rr ∧ rr.1.x ≤ s.x + 12 ∧ rr.2 = 0 ∧ Ho rr.1 S i l2 ∧ rr.1.a = 0 := by
            obtain ⟨b1, b2⟩ := HHO2.out.write (d := l2) (n := n2) HLN2.out (by have := HKK.out; omega) (by omega) (by omega)
            rw [hij]
            rcases b2 with b2 | b2
            · exact ⟨_, rfl, b1, b2.1, b2.2.1, b2.2.2 hsa⟩
            · exact absurd hsa b2.2.1
          have HRR := Lib.hid hrr
          have HRH2 := Lib.hid hrh
          have HIJ := Lib.hid hij
          clear hrr hrh hij
          have HDL := Lib.hid (show ∀ k, PQ p q k → k < wr.heap.size from fun k hk => by
            rcases hk with e | e
            · rw [e]; exact HD.out.1.lt
            · rw [e]; exact HD.out.2.1.lt)
          go_wp2_with fail
          refine (cp_any A2 n2 c2 l2 wr HO.out.at (by omega)).mono ?_
          rintro e9 w9 ⟨v9, rfl, ho9, hb9⟩
          obtain ⟨A9, c9, hv9, hba9, hc9, hcm9⟩ := own_bytes3 (F := PQ p q) ho9 HDL.out
          rw [HLN2.out] at hv9 hba9 hc9
          have HBA9 := Lib.hid hba9
          subst hv9
          replace HD := Lib.hid (HD.out.below hb9)
          replace HEV := Lib.hid (HEV.out.below hb9)
          replace HCG := Lib.hid (HCG.out.trans (Chg.of_below hb9))
          clear ho9 hba9 hb9 HDL
          go_wp2_with fail
          refine (SWrite_any w9 p q s HD.out HNP.out.1 HEV.out i n2 c9 (by omega) (by omega) A9 l2 HBA9.out (by omega) hc9 hcm9).mono ?_
          rintro e w10 ⟨rfl, hd, hc⟩
          rw [HRR.out] at hd ⊢
          rw [hr0]
          have HD2 := Lib.hid hd
          replace HCG := Lib.hid (HCG.out.trans hc)
          clear hd hc HBA9 hc9 hcm9
          go_wp2
          go_roundw
          case rel =>
            exact ⟨i, i + 1, rr.1, by go_num, rfl, hlt, HRH2.out, hra, by have := HIJ.out; omega, HD2.out, HCG.out⟩
          case measure => simp [intOf]; omega
        · obtain rfl : j = k := by omega
          have hgti : (j : Int) < i := by omega
          have hgi : ¬ (i : Int) ≤ j := by omega
          clear hij hlt
          have y1 : wr.cell? ⟨w.heap.size + 1, 1, none⟩ = some (.int .u8 (X1 : Int)) := HY.out.cell 1
          have y2 : wr.cell? ⟨w.heap.size + 1, 2, none⟩ = some (.int .u8 (X2 : Int)) := HY.out.cell 2
          obtain ⟨a1, e2, ha11⟩ : ∃ a1 : Nat, (X1 : Int).tmod 12 = (a1 : Int) ∧ (a1 : Int) ≤ 11 := ⟨X1 % 12, by rw [Int.tmod_eq_emod_of_nonneg (by omega)]; omega, by omega⟩
          obtain ⟨b1, e3, hb64⟩ : ∃ b1 : Nat, (X2 : Int).tmod 65 = (b1 : Int) ∧ (b1 : Int) ≤ 64 := ⟨X2 % 65, by rw [Int.tmod_eq_emod_of_nonneg (by omega)]; omega, by omega⟩
          obtain ⟨jj, hjj⟩ : ∃ jj, j + 1 = jj := ⟨_, rfl⟩
          have e6 : IntKind.u32.wrap ((j : Int) + 1) = (jj : Int) := by rw [IntKind.wrap_u32]; omega
          have e6b : (j : Int) + 1 = (jj : Int) := by omega
          have e7 : ((jj : Int) == (j : Int)) = false := by simp; omega
          have e7b : decide ((jj : Int) = (j : Int)) = false := by simp; omega
          have e7c : (jj == j) = false := by simp; omega
          have e7d : ¬ jj = j := by omega
          have hj5 : (j : Int) ≤ 5 := by omega
          have HAR := Lib.hid (Arm_any wr p q s HD.out (1 + (a1 : Int)) (b1 : Int) (by omega))
          obtain ⟨s2, hs2, hs2x, hs2h⟩ : ∃ s2, s.Ar (1 + (a1 : Int)) (b1 : Int) = s2 ∧ s2.x = s.x ∧ Ho s2 S j l2 := by
            refine ⟨_, rfl, ?_, ?_⟩
            · unfold St.Ar; rw [if_neg (by rw [HHO2.out.f]; decide)]
            · have hf := HHO2.out.f
              unfold St.Ar
              rw [if_neg (by rw [hf]; decide)]
              exact ⟨has_R HHO2.out.h rfl, hf, HHO2.out.R, HHO2.out.r64, by simp; omega⟩
          rw [hs2] at HAR
          obtain ⟨rr, hrr, hro⟩ : ∃ rr, SW s2 jj l = rr ∧ ((SR rr.1.Re = (l, jj, 0) ∧ (rr.2 = 0 ∨ rr.2 = 15)) ∨ (rr.2 = 15 ∧ (j = 0 ∧ SR rr.1.Re = ([], 0, 4) ∨ 0 < j ∧ SR rr.1.Re = (l2, j, 0)))) := by
            obtain ⟨b1, b2⟩ := hs2h.write (d := l) (n := n) HLN.out (by have := HKK.out; omega) (by omega) (by omega)
            rw [← hjj]
            refine ⟨_, rfl, ?_⟩
            rcases b2 with b2 | b2
            · exact .inl ⟨read_of (has_R b2.2.1.h rfl) rfl (by omega), .inl b2.1⟩
            · rcases b2.2.2 with b3 | b3
              · refine .inr ⟨b2.1, ?_⟩
                have h4 := has_read b3.h b3.f
                rcases Nat.eq_zero_or_pos j with h0 | h0
                · rw [if_pos h0] at h4; exact .inl ⟨h0, h4⟩
                · rw [if_neg (by omega)] at h4; exact .inr ⟨h0, h4⟩
              · exact .inl ⟨read_of b3.h b3.f (by omega), .inr b2.1⟩
          have HRR := Lib.hid hrr
          have HRO := Lib.hid hro
          have HSX := Lib.hid (show s2.x ≤ 60 by omega)
          have HJ := Lib.hid hjj
          have hjj6 : jj ≤ 6 := by omega
          clear hs2 hs2x hs2h hrr hro hjj hsx
          go_wp2_with fail
          refine HAR.out.mono ?_
          rintro e w5 ⟨rfl, hd, hc⟩
          replace HB := Lib.hid (hc.below HB.out HPW.out HB.out.size)
          replace HEV := Lib.hid (HEV.out.chg hc HNP.out.1)
          replace HX := Lib.hid (HX.out.chg hc HNP.out.2)
          replace HA := Lib.hid (HA.out.chg hc)
          replace HY := Lib.hid (HY.out.chg hc HNY.out)
          replace HO := Lib.hid (HO.out.chg hc)
          replace HD := Lib.hid hd
          clear hd hc
          clear y1 y2 HAR HCG
          have x2 : w5.cell? ⟨w.heap.size, 2, none⟩ = some (.slice A n c) := HX.out.cell 2
          have HDL := Lib.hid (show ∀ k, PQ p q k → k < w5.heap.size from fun k hk => by
            rcases hk with e | e
            · rw [e]; exact HD.out.1.lt
            · rw [e]; exact HD.out.2.1.lt)
          go_wp2_with fail
          refine (cp_any A n c l w5 HA.out.at (by omega)).mono ?_
          rintro e9 w9 ⟨v9, rfl, ho9, hb9⟩
          obtain ⟨A9, c9, hv9, hba9, hc9, hcm9⟩ := own_bytes3 (F := PQ p q) ho9 HDL.out
          rw [HLN.out] at hv9 hba9 hc9
          have HBA9 := Lib.hid hba9
          subst hv9
          replace HB := Lib.hid (HB.out.trans (hb9.mono HB.out.size))
          replace HEV := Lib.hid (HEV.out.below hb9)
          replace HX := Lib.hid (HX.out.below hb9)
          replace HY := Lib.hid (HY.out.below hb9)
          replace HA := Lib.hid (HA.out.below hb9)
          replace HO := Lib.hid (HO.out.below hb9)
          replace HD := Lib.hid (HD.out.below hb9)
          clear hb9
          clear ho9 hba9 HDL x2
          go_wp2_with fail
          refine (SWrite_any w9 p q s2 HD.out HNP.out.1 HEV.out jj n c9 (by have := HSX.out; omega) (by omega) A9 l HBA9.out (by omega) hc9 hcm9).mono ?_
          rintro e w10 ⟨rfl, hd, hc⟩
          rw [HRR.out] at hd ⊢
          replace HB := Lib.hid (hc.below HB.out HPW.out HB.out.size)
          replace HEV := Lib.hid (HEV.out.chg hc HNP.out.1)
          replace HX := Lib.hid (HX.out.chg hc HNP.out.2)
          replace HA := Lib.hid (HA.out.chg hc)
          replace HY := Lib.hid (HY.out.chg hc HNY.out)
          replace HO := Lib.hid (HO.out.chg hc)
          replace HD := Lib.hid hd
          clear hd hc
          clear HBA9 hc9 hcm9
          go_wp2_with fail
          refine (Restart_any w10 p q _ HD.out).mono ?_
          rintro e w11 ⟨rfl, hd, hc⟩
          replace HB := Lib.hid (hc.below HB.out HPW.out HB.out.size)
          replace HEV := Lib.hid (HEV.out.chg hc HNP.out.1)
          replace HX := Lib.hid (HX.out.chg hc HNP.out.2)
          replace HA := Lib.hid (HA.out.chg hc)
          replace HY := Lib.hid (HY.out.chg hc HNY.out)
          replace HO := Lib.hid (HO.out.chg hc)
          replace HD := Lib.hid hd
          clear hd hc
          have CR := Lib.hid (SRead_any w11 p q _ HD.out HNP.out.1 HEV.out)
          rcases HRO.out with ⟨hsr, hz⟩ | ⟨hz, ⟨hj0, hsr⟩ | ⟨hj0, hsr⟩⟩
          · rw [hsr] at CR
            clear hsr
            rcases hz with hz | hz
            · rw [hz]
              go_wp2_with fail
              refine CR.out.mono ?_
              rintro e w12 ⟨v12, rfl, ho12, hb⟩
              replace HB := Lib.hid (HB.out.trans (hb.mono HB.out.size))
              replace HEV := Lib.hid (HEV.out.below hb)
              replace HX := Lib.hid (HX.out.below hb)
              replace HY := Lib.hid (HY.out.below hb)
              replace HA := Lib.hid (HA.out.below hb)
              replace HO := Lib.hid (HO.out.below hb)
              replace HD := Lib.hid (HD.out.below hb)
              clear hb
              clear CR
              obtain ⟨A12, c12, hv12, hb12⟩ := own_bytes ho12
              rw [HLN.out] at hv12 hb12
              subst hv12
              have hst := string_at (c := c12) hb12
              have hst2 := string_at (c := c) HA.out.at
              have x2 : w12.cell? ⟨w.heap.size, 2, none⟩ = some (.slice A n c) := HX.out.cell 2
              clear ho12 hb12
              go_wp2
              all_goals (go_ret; exact ⟨by simp, HB.out⟩)
            · rw [hz]
              go_wp2_with fail
              refine CR.out.mono ?_
              rintro e w12 ⟨v12, rfl, ho12, hb⟩
              replace HB := Lib.hid (HB.out.trans (hb.mono HB.out.size))
              replace HEV := Lib.hid (HEV.out.below hb)
              replace HX := Lib.hid (HX.out.below hb)
              replace HY := Lib.hid (HY.out.below hb)
              replace HA := Lib.hid (HA.out.below hb)
              replace HO := Lib.hid (HO.out.below hb)
              replace HD := Lib.hid (HD.out.below hb)
              clear hb
              clear CR
              obtain ⟨A12, c12, hv12, hb12⟩ := own_bytes ho12
              rw [HLN.out] at hv12 hb12
              subst hv12
              have hst := string_at (c := c12) hb12
              have hst2 := string_at (c := c) HA.out.at
              have x2 : w12.cell? ⟨w.heap.size, 2, none⟩ = some (.slice A n c) := HX.out.cell 2
              clear ho12 hb12
              go_wp2
              all_goals (go_ret; exact ⟨by simp, HB.out⟩)
          · rw [hz]
            rw [hsr] at CR
            clear hsr
            subst hj0
            go_wp2_with fail
            refine CR.out.mono ?_
            rintro e w12 ⟨v12, rfl, ho12, hb⟩
            replace HB := Lib.hid (HB.out.trans (hb.mono HB.out.size))
            replace HEV := Lib.hid (HEV.out.below hb)
            replace HX := Lib.hid (HX.out.below hb)
            replace HY := Lib.hid (HY.out.below hb)
            replace HA := Lib.hid (HA.out.below hb)
            replace HO := Lib.hid (HO.out.below hb)
            replace HD := Lib.hid (HD.out.below hb)
            clear hb
            clear CR
            obtain ⟨A12, c12, hv12, -⟩ := own_bytes ho12
            have hv12 : v12 = .slice A12 0 c12 := hv12
            subst hv12
            clear ho12
            go_wp2
            go_ret
            exact ⟨by simp, HB.out⟩
          · rw [hz]
            rw [hsr] at CR
            have hj1 : ((j : Int) == 0) = false := by simp; omega
            have hj2 : ¬ j = 0 := by omega
            clear hsr
            go_wp2_with fail
            refine CR.out.mono ?_
            rintro e w12 ⟨v12, rfl, ho12, hb⟩
            replace HB := Lib.hid (HB.out.trans (hb.mono HB.out.size))
            replace HEV := Lib.hid (HEV.out.below hb)
            replace HX := Lib.hid (HX.out.below hb)
            replace HY := Lib.hid (HY.out.below hb)
            replace HA := Lib.hid (HA.out.below hb)
            replace HO := Lib.hid (HO.out.below hb)
            replace HD := Lib.hid (HD.out.below hb)
            clear hb
            clear CR
            obtain ⟨A12, c12, hv12, hb12⟩ := own_bytes ho12
            rw [HLN2.out] at hv12 hb12
            subst hv12
            have hst := string_at (c := c12) hb12
            have hst2 := string_at (c := c2) HO.out.at
            clear ho12 hb12
            go_wp2
            go_ret
            exact ⟨by simp, HB.out⟩
  · have CF := Lib.hid (fun W => fresh_no W S E n c A (by omega) (by omega) hok)
    have HEV := Lib.hid hev
    have hbx : Below w.heap.size w ((w.alloc (.cells #[.int .u8 (S : Int), .int .u32 (E : Int), .slice A n c] 49)).alloc (.cells #[.int .u8 (X0 : Int), .int .u8 (X1 : Int), .int .u8 (X2 : Int)] 56)) := ((Below.refl _ w).alloc (Nat.le_refl _) _).alloc (by simp) _
    have HB := Lib.hid hbx
    replace HEV := Lib.hid (HEV.out.below hbx)
    clear hev hok hA hx0 hy0 hbx hA2 hX0 hX1 hX2
    go_enter Tryd.func6, Tryd.ntmps6
    go_wp2_with fail
    refine (CF.out _).mono ?_
    rintro e w1 ⟨rfl, hb⟩
    replace HB := Lib.hid (HB.out.trans (hb.mono HB.out.size))
    replace HEV := Lib.hid (HEV.out.below hb)
    clear hb
    go_wp2_with fail
    refine (awake_any _ HEV.out).mono ?_
    rintro e w2 ⟨rfl, hb⟩
    replace HB := Lib.hid (HB.out.trans (hb.mono HB.out.size))
    replace HEV := Lib.hid (HEV.out.below hb)
    clear hb
    go_wp2_with fail
    refine (awake_any _ HEV.out).mono ?_
    rintro e w3 ⟨rfl, hb⟩
    replace HB := Lib.hid (HB.out.trans (hb.mono HB.out.size))
    replace HEV := Lib.hid (HEV.out.below hb)
    clear hb
    go_wp2
    go_ret
    exact ⟨rfl, HB.out⟩
end Go.Proofs.YthhpilkhcomhbaaDoor
