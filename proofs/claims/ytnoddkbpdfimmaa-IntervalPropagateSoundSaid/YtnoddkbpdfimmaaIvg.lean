/- The range of a linear form. -/
import Derived.Test.YtnoddkbpdfimmaaIvf
import Derived.Deep.Cut
namespace Go.Proofs.Ytnoddkbpdfimmaa
open Go.ChangeShapes Go.WideShapes Go.ChangeAt Go.RowKit Go.ChangeMaps

theorem results_c2 {fn : Func} {p q : Tmp} {ty : TypeId} (h : fn.results = #[.cell p ty, .tmp q]) (tmps : Array Value) (P : Program) (w : World) (g : Nat) (X : Value)
    (hp : tmps.getD p undef = .pointer (some ⟨g, 0, none⟩)) (h1 : (loadVar ty ⟨g, 0, none⟩).run P w = .ok X w) : (results fn tmps).run P w = .ok (.tuple #[X, tmps.getD q undef]) w := by
  have hp' : tmps[p]?.getD undef = .pointer (some ⟨g, 0, none⟩) := by simpa using hp
  simp [results, h, hp', asAddr, h1, Result.andThen]
def rngM (R : List Iv) : List Iv → Iv → Option Iv
  | [], r => some r
  | x :: L, r => if x.hi = 0 then rngM R L r else if (R.getD x.lo.toNat ⟨0, 0⟩).emp then none else
      rngM R L ⟨r.lo + min (x.hi * (R.getD x.lo.toNat ⟨0, 0⟩).lo) (x.hi * (R.getD x.lo.toNat ⟨0, 0⟩).hi), r.hi + max (x.hi * (R.getD x.lo.toNat ⟨0, 0⟩).lo) (x.hi * (R.getD x.lo.toNat ⟨0, 0⟩).hi)⟩
def rngA (o : Option Iv) : Value := match o with
  | some r => .tuple #[r.agg, .bool true]
  | none => .tuple #[(Iv.mk 0 0).agg, .bool false]
/-- Coefficients: the variable is lo, the factor hi. -/
def CfOk (m : Nat) (x : Iv) : Prop := (0 ≤ x.lo ∧ x.lo < m) ∧ -1048576 ≤ x.hi ∧ x.hi ≤ 1048576
theorem mul_bd {x y X Y : Int} (hx : -X ≤ x ∧ x ≤ X) (hy : -Y ≤ y ∧ y ≤ Y) : -(X * Y) ≤ x * y ∧ x * y ≤ X * Y := by
  have h1 : x.natAbs ≤ X.natAbs := by omega
  have h2 : y.natAbs ≤ Y.natAbs := by omega
  have h3 := Nat.mul_le_mul h1 h2
  rw [← Int.natAbs_mul, ← Int.natAbs_mul] at h3
  have h4 : 0 ≤ X * Y := Int.mul_nonneg (by omega) (by omega)
  omega
set_option maxRecDepth 100000 in
set_option maxHeartbeats 1000000 in
theorem Range_any (c : Int) (A : Option Addr) (n cap : Nat) (L : List Iv) (D : Option Addr) (m cap2 : Nat) (R : List Iv) (w : World) (h : Ivs w A n L) (h2 : Ivs w D m R) (hn : n ≤ 64) (hm : m ≤ 64) (hc : -1099511627776 ≤ c ∧ c ≤ 1099511627776) (hL : ∀ x ∈ L, CfOk m x) (hR : ∀ d ∈ R, d.bd 4294967296) :
    Calls Try.prog 30 #[.agg #[.int .i64 c, .slice A n cap], .slice D m cap2] w fun e w' => e = .returned (rngA (rngM R L ⟨c, c⟩)) ∧ (∀ r, rngM R L ⟨c, c⟩ = some r → r.bd 1152921504606846976) ∧ Below w.heap.size w w' := by
  obtain ⟨res, hres⟩ : ∃ res, rngM R L ⟨c, c⟩ = res := ⟨_, rfl⟩
  rw [hres]
  have HRES := Lib.hid hres
  have HL := Lib.hid h.len
  have HM := Lib.hid h2.len
  have HA := Lib.hid h.at
  have HD := Lib.hid h2.at
  have HLO := Lib.hid hL
  have HRO := Lib.hid hR
  have CE := Lib.hid (fun (x : Iv) W => empty_any x W)
  have HC := Lib.hid hc
  clear h h2 hL hR hc hres
  obtain ⟨W0, hW0⟩ : ∃ W, W = ((w.alloc (.cells #[.int .i64 c, .slice A n cap] 56)).alloc (.cells #[.int .i64 0, .int .i64 0] 39)).alloc (.cells #[.int .i64 c, .int .i64 c] 39) := ⟨_, rfl⟩
  have HB := Lib.hid (show Below w.heap.size w W0 by rw [hW0]; exact (((Below.refl _ w).alloc (Nat.le_refl _) _).alloc (by simp) _).alloc (by simp; omega) _)
  have K2 := Lib.hid (show Blk W0 w.heap.size 56 #[.int .i64 c, .slice A n cap] by rw [hW0]; exact ((Blk.new _ _ _).alloc _).alloc _)
  have K4 := Lib.hid (show Blk W0 (w.heap.size + 1) 39 #[.int .i64 0, .int .i64 0] by rw [hW0]; exact (Blk.new_ (by simp) rfl : Blk ((w.alloc _).alloc _) _ _ _).alloc _)
  have K6 := Lib.hid (show Blk W0 (w.heap.size + 1 + 1) 39 #[.int .i64 c, .int .i64 c] by rw [hW0]; exact Blk.new_ (by simp) rfl)
  have e0 : W0.cell? ⟨w.heap.size, 0, none⟩ = some (.int .i64 c) := K2.out.cell 0
  have e1 : W0.cell? ⟨w.heap.size, 1, none⟩ = some (.slice A n cap) := K2.out.cell 1
  go_enter Try.func30, Try.ntmps30
  go_upto_region 2 with fail
  rw [← hW0]
  clear hW0
  go_wp2
  clear e0 e1
  go_loopw [18] (fun s18 wr => ∃ (k : Nat) (r : Iv), s18 = .int .i64 (k : Int) ∧ k ≤ n ∧ rngM R (L.drop k) r = res ∧ r.bd (1099511627776 + (k : Int) * 4503599627370496) ∧ Blk wr (w.heap.size + 1) 39 #[.int .i64 0, .int .i64 0] ∧ Blk wr (w.heap.size + 1 + 1) 39 #[.int .i64 r.lo, .int .i64 r.hi] ∧ Below w.heap.size w wr) (fun s18 _ => n - (intOf s18).toNat)
  case atStart => exact ⟨0, ⟨c, c⟩, rfl, Nat.zero_le _, HRES.out, by have := HC.out; refine ⟨⟨?_, ?_⟩, ?_, ?_⟩ <;> simp only <;> omega, K4.out, K6.out, HB.out⟩
  case round =>
    obtain ⟨k, r, rfl, hkn, hE, hbd, h4, h6, hB⟩ := hrel
    have HE := Lib.hid hE
    have HBD := Lib.hid hbd
    have H4 := Lib.hid h4
    have H6 := Lib.hid h6
    have HB := Lib.hid hB
    have hsz : w.heap.size + 1 + 1 < wr.heap.size := h6.lt
    clear hE hbd h4 h6 hB K2 K4 K6
    by_cases hlt : k < n
    · have hki : (k : Int) < n := by omega
      have hk0 : (0 : Int) ≤ (k : Int) := by omega
      obtain ⟨b, off, rfl, hbl, hc⟩ := HA.out (by omega)
      have hi' : k < L.length := by rw [HL.out]; exact hlt
      obtain ⟨c0, c1⟩ := hc wr HB.out k hi'
      have HX := Lib.hid (HLO.out _ (List.getElem_mem hi'))
      have HDR := Lib.hid (show L.drop k = L[k] :: L.drop (k + 1) from (List.drop_eq_getElem_cons hi'))
      clear hc hbl
      generalize L[k] = x at *
      obtain ⟨x0, x1⟩ := x
      simp only at c0 c1
      rw [HDR.out] at HE
      by_cases hx1 : x1 = 0
      · have HE1 := Lib.hid (show rngM R (L.drop (k + 1)) r = res by have := HE.out; unfold rngM at this; rwa [if_pos hx1] at this)
        subst hx1
        go_wp2
        go_roundw
        case rel =>
          refine ⟨k + 1, r, by go_num, hlt, HE1.out, ?_, H4.out.alloc _, H6.out.alloc _, HB.out.alloc HB.out.size _⟩
          have := HBD.out
          obtain ⟨⟨a1, a2⟩, a3, a4⟩ := this
          refine ⟨⟨?_, ?_⟩, ?_, ?_⟩ <;> push_cast <;> omega
        case measure => simp only [intOf]; omega
      · obtain ⟨v, rfl⟩ : ∃ v : Nat, x0 = (v : Int) := ⟨x0.toNat, by have := HX.out.1.1; simp only at this; omega⟩
        have hv : v < m := by have := HX.out.1.2; simp only at this; omega
        have hvi : (v : Int) < m := by omega
        have hv0 : (0 : Int) ≤ (v : Int) := by omega
        obtain ⟨b2, off2, rfl, hbl2, hc2⟩ := HD.out (by omega)
        have hv' : v < R.length := by rw [HM.out]; exact hv
        have hbl2' : b2 < wr.heap.size := Nat.lt_of_lt_of_le hbl2 HB.out.size
        obtain ⟨d0c, d1c⟩ := hc2 wr HB.out v hv'
        have HDB := Lib.hid (HRO.out _ (List.getElem_mem hv'))
        have HE0 := Lib.hid (show (if (R[v]).emp then none else rngM R (L.drop (k + 1)) ⟨r.lo + min (x1 * R[v].lo) (x1 * R[v].hi), r.hi + max (x1 * R[v].lo) (x1 * R[v].hi)⟩) = res by
          have h := HE.out
          unfold rngM at h
          rw [if_neg hx1] at h
          simpa [List.getD, List.getElem?_eq_getElem hv'] using h)
        clear hc2 hbl2
        generalize R[v] = d at *
        obtain ⟨d0, d1⟩ := d
        simp only at d0c d1c HE0
        have hx1b := HX.out.2
        simp only at hx1b
        have hp0b := mul_bd hx1b HDB.out.1
        have hp1b := mul_bd hx1b HDB.out.2
        simp only at hp0b hp1b
        have hw0 : IntKind.i64.wrap (x1 * d0) = x1 * d0 := by rw [IntKind.wrap_i64]; omega
        have hw1 : IntKind.i64.wrap (x1 * d1) = x1 * d1 := by rw [IntKind.wrap_i64]; omega
        generalize hp0 : x1 * d0 = p0 at *
        generalize hp1 : x1 * d1 = p1 at *
        obtain ⟨mn, hmn⟩ : ∃ z, (if p1 < p0 then p1 else p0) = z := ⟨_, rfl⟩
        obtain ⟨mx, hmx⟩ : ∃ z, (if p0 < p1 then p1 else p0) = z := ⟨_, rfl⟩
        have hmn2 : min p0 p1 = mn := by rw [← hmn, Int.min_def]; split <;> split <;> omega
        have hmx2 : max p0 p1 = mx := by rw [← hmx, Int.max_def]; split <;> split <;> omega
        rw [hmn2, hmx2] at HE0
        obtain ⟨r0, r1⟩ := r
        have hrb := HBD.out
        obtain ⟨⟨a1, a2⟩, a3, a4⟩ := hrb
        simp only at a1 a2 a3 a4
        have hmnb : -4503599627370496 ≤ mn ∧ mn ≤ 4503599627370496 := by rw [← hmn]; split <;> omega
        have hmxb : -4503599627370496 ≤ mx ∧ mx ≤ 4503599627370496 := by rw [← hmx]; split <;> omega
        have hs0 : IntKind.i64.wrap (r0 + mn) = r0 + mn := by rw [IntKind.wrap_i64]; omega
        have hs1 : IntKind.i64.wrap (r1 + mx) = r1 + mx := by rw [IntKind.wrap_i64]; omega
        have HBN := Lib.hid (show (Iv.mk (r0 + mn) (r1 + mx)).bd (1099511627776 + ((k + 1 : Nat) : Int) * 4503599627370496) by refine ⟨⟨?_, ?_⟩, ?_, ?_⟩ <;> simp only <;> push_cast <;> omega)
        clear a1 a2 a3 a4 hmnb hmxb hp0b hp1b hx1b
        have CEx := Lib.hid (fun W => CE.out ⟨d0, d1⟩ W)
        go_wp2_with fail
        refine (CEx.out _).mono ?_
        rintro e w3 ⟨rfl, hb⟩
        have Y8 : Hid (Blk w3 wr.heap.size 61 #[.int .i64 (v : Int), .int .i64 x1]) := Lib.hid (Blk.below hb ((Blk.new _ _ _).alloc _))
        have Y9 : Hid (Blk w3 (wr.heap.size + 1) 39 #[.int .i64 d0, .int .i64 d1]) := Lib.hid (Blk.below hb (Blk.new_ (by simp) rfl))
        have Y4 : Hid (Blk w3 (w.heap.size + 1) 39 #[.int .i64 0, .int .i64 0]) := Lib.hid (Blk.below hb ((H4.out.alloc _).alloc _))
        have Y6 : Hid (Blk w3 (w.heap.size + 1 + 1) 39 #[.int .i64 r0, .int .i64 r1]) := Lib.hid (Blk.below hb ((H6.out.alloc _).alloc _))
        have YB := Lib.hid (HB.out.trans ((((Below.refl wr.heap.size wr).alloc (Nat.le_refl _) _).alloc (by simp) _).trans (hb.mono (by simp; omega)) |>.mono HB.out.size))
        clear hb c0 c1 d0c d1c CEx
        have hs : wr.heap.size + 1 < w3.heap.size := Y9.out.lt
        cases hE : Iv.emp ⟨d0, d1⟩
        · have e0 : w3.cell? ⟨wr.heap.size, 1, none⟩ = some (.int .i64 x1) := Y8.out.cell 1
          have e1 : w3.cell? ⟨wr.heap.size + 1, 0, none⟩ = some (.int .i64 d0) := Y9.out.cell 0
          have e2 : w3.cell? ⟨wr.heap.size + 1, 1, none⟩ = some (.int .i64 d1) := Y9.out.cell 1
          have e3 : w3.cell? ⟨w.heap.size + 1 + 1, 0, none⟩ = some (.int .i64 r0) := Y6.out.cell 0
          have z6 : ∀ j, w3.frozen? ⟨w.heap.size + 1 + 1, j, none⟩ = false := fun j => Joins.unfrozen_of_block Y6.out _
          obtain ⟨W4, hW4⟩ : ∃ W, W = w3.setCell ⟨w.heap.size + 1 + 1, 0, none⟩ (.int .i64 (r0 + mn)) := ⟨_, rfl⟩
          have S := store_step Y6.out 0 (.int .i64 (r0 + mn))
          rw [← hW4] at S
          have V8 := Lib.hid (S.2.1 _ _ _ (by omega) Y8.out)
          have V9 := Lib.hid (S.2.1 _ _ _ (by omega) Y9.out)
          have V4 := Lib.hid (S.2.1 _ _ _ (by omega) Y4.out)
          have V6 : Hid (Blk W4 (w.heap.size + 1 + 1) 39 #[.int .i64 (r0 + mn), .int .i64 r1]) := Lib.hid S.1
          have VB := Lib.hid (S.2.2 _ _ YB.out (by omega))
          clear S
          go_upto_region 10 with fail
          rw [← hW4]
          clear hW4 e0 e1 e2 e3 z6
          have e0 : W4.cell? ⟨wr.heap.size, 1, none⟩ = some (.int .i64 x1) := V8.out.cell 1
          have e1 : W4.cell? ⟨wr.heap.size + 1, 0, none⟩ = some (.int .i64 d0) := V9.out.cell 0
          have e2 : W4.cell? ⟨wr.heap.size + 1, 1, none⟩ = some (.int .i64 d1) := V9.out.cell 1
          have e3 : W4.cell? ⟨w.heap.size + 1 + 1, 1, none⟩ = some (.int .i64 r1) := V6.out.cell 1
          have z6 : ∀ j, W4.frozen? ⟨w.heap.size + 1 + 1, j, none⟩ = false := fun j => Joins.unfrozen_of_block V6.out _
          have S := store_step V6.out 1 (.int .i64 (r1 + mx))
          have U4 := Lib.hid (S.2.1 _ _ _ (by omega) V4.out)
          have U6 : Hid (Blk (W4.setCell ⟨w.heap.size + 1 + 1, 1, none⟩ (.int .i64 (r1 + mx))) (w.heap.size + 1 + 1) 39 #[.int .i64 (r0 + mn), .int .i64 (r1 + mx)]) := Lib.hid S.1
          have UB := Lib.hid (S.2.2 _ _ VB.out (by omega))
          have HEN := Lib.hid (show rngM R (L.drop (k + 1)) ⟨r0 + mn, r1 + mx⟩ = res by rw [← HE0, hE]; rfl)
          clear S
          go_wp2
          go_roundw
          case rel => exact ⟨k + 1, ⟨r0 + mn, r1 + mx⟩, by go_num, hlt, HEN.out, HBN.out, U4.out, U6.out, UB.out⟩
          case measure => simp only [intOf]; omega
        · have HEN := Lib.hid (show none = res by rw [← HE0, hE]; rfl)
          have e2 : w3.cell? ⟨w.heap.size + 1, 0, none⟩ = some (.int .i64 0) := Y4.out.cell 0
          have e3 : w3.cell? ⟨w.heap.size + 1, 1, none⟩ = some (.int .i64 0) := Y4.out.cell 1
          have z4 : ∀ j, w3.frozen? ⟨w.heap.size + 1, j, none⟩ = false := fun j => Joins.unfrozen_of_block Y4.out _
          have s1 := store_step Y4.out 0 (.int .i64 0)
          have s2 := store_step s1.1 1 (.int .i64 0)
          have HX := Lib.hid (s2.2.2 _ _ (s1.2.2 _ _ YB.out (by omega)) (show w.heap.size ≤ w.heap.size + 1 by omega))
          have HK := Lib.hid s2.1
          clear s1 s2
          go_wp2
          refine bodyPost_ret (results_c2 rfl _ _ _ (w.heap.size + 1) _ rfl (load39 HK.out rfl)) rfl ?_
          rw [← HEN.out]
          exact ⟨rfl, fun r hr => (by cases hr), HX.out⟩
    · obtain rfl : k = n := by omega
      have HEN := Lib.hid (show some r = res by have h := HE.out; rwa [List.drop_eq_nil_of_le (by rw [HL.out]; exact Nat.le_refl _)] at h)
      have hlt2 : ¬ ((k : Int) < (k : Int)) := by omega
      obtain ⟨r0, r1⟩ := r
      have e0 : wr.cell? ⟨w.heap.size + 1 + 1, 0, none⟩ = some (.int .i64 r0) := H6.out.cell 0
      have e1 : wr.cell? ⟨w.heap.size + 1 + 1, 1, none⟩ = some (.int .i64 r1) := H6.out.cell 1
      have e2 : wr.cell? ⟨w.heap.size + 1, 0, none⟩ = some (.int .i64 0) := H4.out.cell 0
      have e3 : wr.cell? ⟨w.heap.size + 1, 1, none⟩ = some (.int .i64 0) := H4.out.cell 1
      have z4 : ∀ j, wr.frozen? ⟨w.heap.size + 1, j, none⟩ = false := fun j => Joins.unfrozen_of_block H4.out _
      have s1 := store_step H4.out 0 (.int .i64 r0)
      have s2 := store_step s1.1 1 (.int .i64 r1)
      have HX := Lib.hid (s2.2.2 _ _ (s1.2.2 _ _ HB.out (by omega)) (show w.heap.size ≤ w.heap.size + 1 by omega))
      have HK := Lib.hid s2.1
      clear s1 s2
      go_wp2
      refine bodyPost_ret (results_c2 rfl _ _ _ (w.heap.size + 1) _ rfl (load39 HK.out rfl)) rfl ?_
      rw [← HEN.out]
      refine ⟨rfl, fun r hr => ?_, HX.out⟩
      injection hr with hr
      subst hr
      obtain ⟨⟨a1, a2⟩, a3, a4⟩ := HBD.out
      refine ⟨⟨?_, ?_⟩, ?_, ?_⟩ <;> simp only at * <;> omega
end Go.Proofs.Ytnoddkbpdfimmaa
