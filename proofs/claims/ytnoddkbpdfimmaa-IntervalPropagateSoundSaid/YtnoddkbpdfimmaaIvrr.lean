/- Range of the reference. -/
import Derived.Test.YtnoddkbpdfimmaaIvrn
namespace Go.Proofs.Ytnoddkbpdfimmaa
open Go.ChangeShapes Go.WideShapes Go.ChangeAt Go.RowKit Go.ChangeMaps

theorem rrM_cons (R : List Iv) (x : Iv) (L : List Iv) (r : Iv) : rrM R (x :: L) r = rrM R L (if x.hi < 0 then ⟨r.lo + x.hi * (R.getD x.lo.toNat ⟨0, 0⟩).hi, r.hi + x.hi * (R.getD x.lo.toNat ⟨0, 0⟩).lo⟩ else ⟨r.lo + x.hi * (R.getD x.lo.toNat ⟨0, 0⟩).lo, r.hi + x.hi * (R.getD x.lo.toNat ⟨0, 0⟩).hi⟩) := rfl
set_option maxRecDepth 100000 in
set_option maxHeartbeats 2000000 in
theorem RRange_any (c : Int) (A : Option Addr) (n cap : Nat) (L : List Iv) (D : Option Addr) (m cap2 : Nat) (R : List Iv) (w : World) (h : Ivs w A n L) (h2 : Ivs w D m R) (hn : n ≤ 64) (hm : m ≤ 64) (hc : -1099511627776 ≤ c ∧ c ≤ 1099511627776) (hL : ∀ x ∈ L, CfOk m x) (hR : ∀ d ∈ R, d.bd 4294967296) :
    Calls Try.prog 31 #[.agg #[.int .i64 c, .slice A n cap], .slice D m cap2] w fun e w' => e = .returned (rrM R L ⟨c, c⟩).agg ∧ (rrM R L ⟨c, c⟩).bd 1152921504606846976 ∧ Below w.heap.size w w' := by
  obtain ⟨res, hres⟩ : ∃ res, rrM R L ⟨c, c⟩ = res := ⟨_, rfl⟩
  rw [hres]
  have HRES := Lib.hid hres
  have HL := Lib.hid h.len
  have HM := Lib.hid h2.len
  have HA := Lib.hid h.at
  have HD := Lib.hid h2.at
  have HLO := Lib.hid hL
  have HRO := Lib.hid hR
  have HC := Lib.hid hc
  clear h h2 hL hR hc hres
  obtain ⟨W0, hW0⟩ : ∃ W, W = ((w.alloc (.cells #[.int .i64 c, .slice A n cap] 56)).alloc (.cells #[.int .i64 0, .int .i64 0] 42)).alloc (.cells #[.int .i64 c, .int .i64 c] 42) := ⟨_, rfl⟩
  have HB := Lib.hid (show Below w.heap.size w W0 by rw [hW0]; exact (((Below.refl _ w).alloc (Nat.le_refl _) _).alloc (by simp) _).alloc (by simp; omega) _)
  have K2 := Lib.hid (show Blk W0 w.heap.size 56 #[.int .i64 c, .slice A n cap] by rw [hW0]; exact ((Blk.new _ _ _).alloc _).alloc _)
  have K4 := Lib.hid (show Blk W0 (w.heap.size + 1) 42 #[.int .i64 0, .int .i64 0] by rw [hW0]; exact (Blk.new_ (by simp) rfl : Blk ((w.alloc _).alloc _) _ _ _).alloc _)
  have K6 := Lib.hid (show Blk W0 (w.heap.size + 1 + 1) 42 #[.int .i64 c, .int .i64 c] by rw [hW0]; exact Blk.new_ (by simp) rfl)
  go_enter Try.func31, Try.ntmps31
  go_upto_region 2 with fail
  rw [← hW0]
  clear hW0
  go_wp2
  go_loopw [6] (fun s6 wr => ∃ (k : Nat) (r : Iv), s6 = .int .i64 (k : Int) ∧ k ≤ n ∧ rrM R (L.drop k) r = res ∧ r.bd (1099511627776 + (k : Int) * 4503599627370496) ∧ Blk wr w.heap.size 56 #[.int .i64 c, .slice A n cap] ∧ Blk wr (w.heap.size + 1) 42 #[.int .i64 0, .int .i64 0] ∧ Blk wr (w.heap.size + 1 + 1) 42 #[.int .i64 r.lo, .int .i64 r.hi] ∧ Below w.heap.size w wr) (fun s6 _ => n - (intOf s6).toNat)
  case atStart => exact ⟨0, ⟨c, c⟩, rfl, Nat.zero_le _, HRES.out, by have := HC.out; refine ⟨⟨?_, ?_⟩, ?_, ?_⟩ <;> simp only <;> omega, K2.out, K4.out, K6.out, HB.out⟩
  case round =>
    obtain ⟨k, r, rfl, hkn, hE, hbd, h2, h4, h6, hB⟩ := hrel
    have HE := Lib.hid hE
    have HBD := Lib.hid hbd
    have H2 := Lib.hid h2
    have H4 := Lib.hid h4
    have H6 := Lib.hid h6
    have HB := Lib.hid hB
    have hsz : w.heap.size + 1 + 1 < wr.heap.size := h6.lt
    have e0 : wr.cell? ⟨w.heap.size, 0, none⟩ = some (.int .i64 c) := h2.cell 0
    have e1 : wr.cell? ⟨w.heap.size, 1, none⟩ = some (.slice A n cap) := h2.cell 1
    clear hE hbd h2 h4 h6 hB K2 K4 K6
    by_cases hlt : k < n
    · have hki : (k : Int) < n := by omega
      have hk0 : (0 : Int) ≤ (k : Int) := by omega
      obtain ⟨b, off, rfl, hbl, hc⟩ := HA.out (by omega)
      have hi' : k < L.length := by rw [HL.out]; exact hlt
      obtain ⟨c0, c1⟩ := hc wr HB.out k hi'
      have HX := Lib.hid (HLO.out _ (List.getElem_mem hi'))
      have HDR := Lib.hid (show L.drop k = L[k] :: L.drop (k + 1) from (List.drop_eq_getElem_cons hi'))
      clear hc hbl
      generalize L[k] = x at *
      obtain ⟨x0, x1⟩ := x
      simp only at c0 c1
      rw [HDR.out] at HE
      obtain ⟨v, rfl⟩ : ∃ v : Nat, x0 = (v : Int) := ⟨x0.toNat, by have := HX.out.1.1; simp only at this; omega⟩
      have hv : v < m := by have := HX.out.1.2; simp only at this; omega
      have hvi : (v : Int) < m := by omega
      have hv0 : (0 : Int) ≤ (v : Int) := by omega
      obtain ⟨b2, off2, rfl, hbl2, hc2⟩ := HD.out (by omega)
      have hv' : v < R.length := by rw [HM.out]; exact hv
      obtain ⟨d0c, d1c⟩ := hc2 wr HB.out v hv'
      have HDB := Lib.hid (HRO.out _ (List.getElem_mem hv'))
      have HGD : Hid (R.getD v ⟨0, 0⟩ = R[v]) := Lib.hid (by simp [List.getD, List.getElem?_eq_getElem hv'])
      clear hc2 hbl2
      generalize R[v] = d at *
      obtain ⟨d0, d1⟩ := d
      simp only at d0c d1c
      have hx1b := HX.out.2
      simp only at hx1b
      have hp0b := mul_bd hx1b HDB.out.1
      have hp1b := mul_bd hx1b HDB.out.2
      simp only at hp0b hp1b
      have hw0 : IntKind.i64.wrap (x1 * d0) = x1 * d0 := by rw [IntKind.wrap_i64]; omega
      have hw1 : IntKind.i64.wrap (x1 * d1) = x1 * d1 := by rw [IntKind.wrap_i64]; omega
      generalize hp0 : x1 * d0 = p0 at *
      generalize hp1 : x1 * d1 = p1 at *
      obtain ⟨r0, r1⟩ := r
      obtain ⟨⟨a1, a2⟩, a3, a4⟩ := HBD.out
      simp only at a1 a2 a3 a4
      obtain ⟨X, hX⟩ : ∃ W, W = wr.alloc (.cells #[.int .i64 d0, .int .i64 d1] 42) := ⟨_, rfl⟩
      have X8 := Lib.hid (show Blk X wr.heap.size 42 #[.int .i64 d0, .int .i64 d1] by rw [hX]; exact Blk.new _ _ _)
      have X2 := Lib.hid (show Blk X w.heap.size 56 #[.int .i64 c, .slice (some ⟨b, off, none⟩) n cap] by rw [hX]; exact H2.out.alloc _)
      have X4 := Lib.hid (show Blk X (w.heap.size + 1) 42 #[.int .i64 0, .int .i64 0] by rw [hX]; exact H4.out.alloc _)
      have X6 := Lib.hid (show Blk X (w.heap.size + 1 + 1) 42 #[.int .i64 r0, .int .i64 r1] by rw [hX]; exact H6.out.alloc _)
      have XB := Lib.hid (show Below w.heap.size w X by rw [hX]; exact HB.out.alloc HB.out.size _)
      go_upto_region 7 with fail
      rw [← hX]
      clear hX e0 e1 c0 c1 d0c d1c
      have g0 : X.cell? ⟨wr.heap.size, 0, none⟩ = some (.int .i64 d0) := X8.out.cell 0
      have g1 : X.cell? ⟨wr.heap.size, 1, none⟩ = some (.int .i64 d1) := X8.out.cell 1
      have e3 : X.cell? ⟨w.heap.size + 1 + 1, 0, none⟩ = some (.int .i64 r0) := X6.out.cell 0
      have e4 : X.cell? ⟨w.heap.size + 1 + 1, 1, none⟩ = some (.int .i64 r1) := X6.out.cell 1
      by_cases hneg : x1 < 0
      · have HE1 := Lib.hid (show rrM R (L.drop (k + 1)) ⟨r0 + p1, r1 + p0⟩ = res by rw [← HE.out, rrM_cons, if_pos (show (Iv.mk (v : Int) x1).hi < 0 from hneg)]; simp only [Int.toNat_natCast, HGD.out, hp0, hp1])
        have hs0 : IntKind.i64.wrap (r0 + p1) = r0 + p1 := by rw [IntKind.wrap_i64]; omega
        have hs1 : IntKind.i64.wrap (r1 + p0) = r1 + p0 := by rw [IntKind.wrap_i64]; omega
        have HBN := Lib.hid (show (Iv.mk (r0 + p1) (r1 + p0)).bd (1099511627776 + ((k + 1 : Nat) : Int) * 4503599627370496) by refine ⟨⟨?_, ?_⟩, ?_, ?_⟩ <;> simp only <;> push_cast <;> omega)
        clear a1 a2 a3 a4
        have z6 : ∀ j, X.frozen? ⟨w.heap.size + 1 + 1, j, none⟩ = false := fun j => Joins.unfrozen_of_block X6.out _
        obtain ⟨W4, hW4⟩ : ∃ W, W = X.setCell ⟨w.heap.size + 1 + 1, 0, none⟩ (.int .i64 (r0 + p1)) := ⟨_, rfl⟩
        have S := store_step X6.out 0 (.int .i64 (r0 + p1))
        rw [← hW4] at S
        have V2 := Lib.hid (S.2.1 _ _ _ (by omega) X2.out)
        have V4 := Lib.hid (S.2.1 _ _ _ (by omega) X4.out)
        have V8 := Lib.hid (S.2.1 _ _ _ (by omega) X8.out)
        have V6 : Hid (Blk W4 (w.heap.size + 1 + 1) 42 #[.int .i64 (r0 + p1), .int .i64 r1]) := Lib.hid S.1
        have VB := Lib.hid (S.2.2 _ _ XB.out (by omega))
        clear S
        go_upto_region 9 with fail
        rw [← hW4]
        clear hW4 g0 g1 e3 e4 z6
        have g0 : W4.cell? ⟨wr.heap.size, 0, none⟩ = some (.int .i64 d0) := V8.out.cell 0
        have g1 : W4.cell? ⟨wr.heap.size, 1, none⟩ = some (.int .i64 d1) := V8.out.cell 1
        have e3 : W4.cell? ⟨w.heap.size + 1 + 1, 1, none⟩ = some (.int .i64 r1) := V6.out.cell 1
        have z6 : ∀ j, W4.frozen? ⟨w.heap.size + 1 + 1, j, none⟩ = false := fun j => Joins.unfrozen_of_block V6.out _
        have S := store_step V6.out 1 (.int .i64 (r1 + p0))
        have U2 := Lib.hid (S.2.1 _ _ _ (by omega) V2.out)
        have U4 := Lib.hid (S.2.1 _ _ _ (by omega) V4.out)
        have U6 : Hid (Blk (W4.setCell ⟨w.heap.size + 1 + 1, 1, none⟩ (.int .i64 (r1 + p0))) (w.heap.size + 1 + 1) 42 #[.int .i64 (r0 + p1), .int .i64 (r1 + p0)]) := Lib.hid S.1
        have UB := Lib.hid (S.2.2 _ _ VB.out (by omega))
        clear S
        go_wp2
        go_roundw
        case rel => exact ⟨k + 1, ⟨r0 + p1, r1 + p0⟩, by go_num, hlt, HE1.out, HBN.out, U2.out, U4.out, U6.out, UB.out⟩
        case measure => simp only [intOf]; omega
      · have HE1 := Lib.hid (show rrM R (L.drop (k + 1)) ⟨r0 + p0, r1 + p1⟩ = res by rw [← HE.out, rrM_cons, if_neg (show ¬ (Iv.mk (v : Int) x1).hi < 0 from hneg)]; simp only [Int.toNat_natCast, HGD.out, hp0, hp1])
        have hs0 : IntKind.i64.wrap (r0 + p0) = r0 + p0 := by rw [IntKind.wrap_i64]; omega
        have hs1 : IntKind.i64.wrap (r1 + p1) = r1 + p1 := by rw [IntKind.wrap_i64]; omega
        have HBN := Lib.hid (show (Iv.mk (r0 + p0) (r1 + p1)).bd (1099511627776 + ((k + 1 : Nat) : Int) * 4503599627370496) by refine ⟨⟨?_, ?_⟩, ?_, ?_⟩ <;> simp only <;> push_cast <;> omega)
        clear a1 a2 a3 a4
        have z6 : ∀ j, X.frozen? ⟨w.heap.size + 1 + 1, j, none⟩ = false := fun j => Joins.unfrozen_of_block X6.out _
        obtain ⟨W4, hW4⟩ : ∃ W, W = X.setCell ⟨w.heap.size + 1 + 1, 0, none⟩ (.int .i64 (r0 + p0)) := ⟨_, rfl⟩
        have S := store_step X6.out 0 (.int .i64 (r0 + p0))
        rw [← hW4] at S
        have V2 := Lib.hid (S.2.1 _ _ _ (by omega) X2.out)
        have V4 := Lib.hid (S.2.1 _ _ _ (by omega) X4.out)
        have V8 := Lib.hid (S.2.1 _ _ _ (by omega) X8.out)
        have V6 : Hid (Blk W4 (w.heap.size + 1 + 1) 42 #[.int .i64 (r0 + p0), .int .i64 r1]) := Lib.hid S.1
        have VB := Lib.hid (S.2.2 _ _ XB.out (by omega))
        clear S
        go_upto_region 11 with fail
        rw [← hW4]
        clear hW4 g0 g1 e3 e4 z6
        have g0 : W4.cell? ⟨wr.heap.size, 0, none⟩ = some (.int .i64 d0) := V8.out.cell 0
        have g1 : W4.cell? ⟨wr.heap.size, 1, none⟩ = some (.int .i64 d1) := V8.out.cell 1
        have e3 : W4.cell? ⟨w.heap.size + 1 + 1, 1, none⟩ = some (.int .i64 r1) := V6.out.cell 1
        have z6 : ∀ j, W4.frozen? ⟨w.heap.size + 1 + 1, j, none⟩ = false := fun j => Joins.unfrozen_of_block V6.out _
        have S := store_step V6.out 1 (.int .i64 (r1 + p1))
        have U2 := Lib.hid (S.2.1 _ _ _ (by omega) V2.out)
        have U4 := Lib.hid (S.2.1 _ _ _ (by omega) V4.out)
        have U6 : Hid (Blk (W4.setCell ⟨w.heap.size + 1 + 1, 1, none⟩ (.int .i64 (r1 + p1))) (w.heap.size + 1 + 1) 42 #[.int .i64 (r0 + p0), .int .i64 (r1 + p1)]) := Lib.hid S.1
        have UB := Lib.hid (S.2.2 _ _ VB.out (by omega))
        clear S
        go_wp2
        go_roundw
        case rel => exact ⟨k + 1, ⟨r0 + p0, r1 + p1⟩, by go_num, hlt, HE1.out, HBN.out, U2.out, U4.out, U6.out, UB.out⟩
        case measure => simp only [intOf]; omega
    · obtain rfl : k = n := by omega
      have hlt2 : ¬ ((k : Int) < (k : Int)) := by omega
      have HEN := Lib.hid (show r = res by have h := HE.out; rwa [List.drop_eq_nil_of_le (by rw [HL.out]; exact Nat.le_refl _)] at h)
      obtain ⟨r0, r1⟩ := r
      have f0 : wr.cell? ⟨w.heap.size + 1 + 1, 0, none⟩ = some (.int .i64 r0) := H6.out.cell 0
      have f1 : wr.cell? ⟨w.heap.size + 1 + 1, 1, none⟩ = some (.int .i64 r1) := H6.out.cell 1
      have z0 : wr.cell? ⟨w.heap.size + 1, 0, none⟩ = some (.int .i64 0) := H4.out.cell 0
      have z1 : wr.cell? ⟨w.heap.size + 1, 1, none⟩ = some (.int .i64 0) := H4.out.cell 1
      have z4 : ∀ j, wr.frozen? ⟨w.heap.size + 1, j, none⟩ = false := fun j => Joins.unfrozen_of_block H4.out _
      have s1 := store_step H4.out 0 (.int .i64 r0)
      have s2 := store_step s1.1 1 (.int .i64 r1)
      have HX := Lib.hid (s2.2.2 _ _ (s1.2.2 _ _ HB.out (by omega)) (show w.heap.size ≤ w.heap.size + 1 by omega))
      have HK := Lib.hid s2.1
      clear s1 s2
      go_wp2
      refine bodyPost_ret (results_c1 rfl _ _ _ (w.heap.size + 1) _ rfl (load42 HK.out rfl)) rfl ?_
      rw [← HEN.out]
      refine ⟨rfl, ?_, HX.out⟩
      obtain ⟨⟨a1, a2⟩, a3, a4⟩ := HBD.out
      refine ⟨⟨?_, ?_⟩, ?_, ?_⟩ <;> simp only at * <;> omega
end Go.Proofs.Ytnoddkbpdfimmaa
