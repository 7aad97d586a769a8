/- Constraints in memory; what makes them valid. -/
import Derived.Test.YthfolccofjaknaaCsa
namespace Go.Proofs.Ythfolccofjaknaa
open Go.ChangeShapes Go.WideShapes Go.ChangeAt Go.RowKit Go.ChangeMaps

def cfc (p : Int × Int) : List Value := [.int .i64 p.1, .int .i64 p.2]
theorem at2 {α : Type} {w : World} {A : Option Addr} {n : Nat} {f : α → List Value} (hf : ∀ a, (f a).length = 2) {Q : List α} (h : At w A n 2 (Q.flatMap f)) (hn : 0 < n) : ∃ b off, A = some ⟨b, off, none⟩ ∧ b < w.heap.size ∧ ∀ (W : World), Below w.heap.size w W → ∀ i (hi : i < Q.length) (x y : Value), f Q[i] = [x, y] →
    W.cell? ⟨b, off + i * 2, none⟩ = some x ∧ W.cell? ⟨b, off + i * 2 + 1, none⟩ = some y := by
  obtain ⟨b, off, e, hb, hc⟩ := h.2 hn
  refine ⟨b, off, e, hb, fun W hW i hi x y hq => ?_⟩
  have g : ∀ j u, j < 2 → (f Q[i])[j]? = some u → W.cell? ⟨b, off + i * 2 + j, none⟩ = some u := fun j u hj hu => by
    rw [Nat.add_assoc]
    exact keepcell hW (hc _ _ ((flat_get f 2 hf Q i j hi hj).trans hu))
  rw [hq] at g
  exact ⟨g 0 _ (by decide) rfl, g 1 _ (by decide) rfl⟩
structure Ct where
  k : Int
  A : Option Addr
  n : Nat
  c : Nat
  C : List (Int × Int)
  e : Bool
def Ct.cells (x : Ct) : List Value := [.int .i64 x.k, .slice x.A x.n x.c, .bool x.e]
def Ct.val (x : Ct) : Value := .agg #[.int .i64 x.k, .slice x.A x.n x.c, .bool x.e]
def i64b (z : Int) : Prop := -9223372036854775808 ≤ z ∧ z ≤ 9223372036854775807
def Ct.ok (w : World) (x : Ct) : Prop := At w x.A x.n 2 (x.C.flatMap cfc) ∧ x.n ≤ 9223372036854775807 ∧ i64b x.k ∧ ∀ p ∈ x.C, i64b p.1 ∧ i64b p.2
theorem Ct.ok.below {w w' : World} {x : Ct} (h : x.ok w) (hb : Below w.heap.size w w') : x.ok w' := ⟨At.below h.1 hb, h.2⟩
theorem Ct.ok.len {w : World} {x : Ct} (h : x.ok w) : x.C.length = x.n := by
  have := h.1.1
  rw [flat_len cfc 2 (fun _ => rfl)] at this
  omega
/-- The variables ascend, from a least one, below n. -/
def rgtL (n : Int) : Int → List (Int × Int) → Bool
  | _, [] => true
  | nx, p :: C => if p.1 < nx ∨ p.1 ≥ n then false else rgtL n (p.1 + 1) C
def okC (C : List (Int × Int)) (n : Int) : Bool := rgtL n 0 C && (decide (0 ≤ n) && decide (n ≤ 512))
theorem rgtL_bound (n : Int) : ∀ (C : List (Int × Int)) (nx : Int), rgtL n nx C = true → ∀ p ∈ C, nx ≤ p.1 ∧ p.1 < n
  | [], _, _, p, hp => by cases hp
  | q :: C, nx, h, p, hp => by
    rw [rgtL] at h
    split at h
    · cases h
    · rename_i hc
      rcases List.mem_cons.1 hp with rfl | hp
      · omega
      · have := rgtL_bound n C _ h p hp
        omega
theorem rgtL_drop {n nx : Int} {C : List (Int × Int)} {k : Nat} (hk : k < C.length) : rgtL n nx (C.drop k) = if C[k].1 < nx ∨ C[k].1 ≥ n then false else rgtL n (C[k].1 + 1) (C.drop (k + 1)) := by
  rw [List.drop_eq_getElem_cons hk, rgtL]
set_option maxRecDepth 100000 in
set_option maxHeartbeats 4000000 in
theorem valid_any (w : World) (x : Ct) (m : Int) (h : x.ok w) (hm : i64b m) : Calls Try.prog 43 #[x.val, .int .i64 m] w fun e w' => e = .returned (.bool (okC x.C m)) ∧ Below w.heap.size w w' := by
  obtain ⟨k0, A, n, c, C, eq⟩ := x
  obtain ⟨r, hr⟩ : ∃ r, okC C m = r := ⟨_, rfl⟩
  dsimp only
  rw [hr]
  have HR := Lib.hid hr
  have HL := Lib.hid (show C.length = n from h.len)
  have HA := Lib.hid (show At w A n 2 (C.flatMap cfc) from h.1)
  have hn : n ≤ 9223372036854775807 := h.2.1
  obtain ⟨hm0, hm1⟩ := hm
  clear hr h
  unfold Ct.val
  dsimp only
  obtain ⟨kx, hkx⟩ : ∃ kx, kx = w.heap.size := ⟨_, rfl⟩
  obtain ⟨W1, hW1⟩ : ∃ W1, W1 = w.alloc (.cells #[.int .i64 k0, .slice A n c, .bool eq] 28) := ⟨_, rfl⟩
  have HB1 := Lib.hid (show Below w.heap.size w W1 by rw [hW1]; exact (Below.refl _ _).alloc (Nat.le_refl _) _)
  have KX := Lib.hid (show Blk W1 kx 28 #[.int .i64 k0, .slice A n c, .bool eq] by rw [hW1]; exact Blk.new_ hkx rfl)
  go_enter Try.func43, Try.ntmps43
  go_upto_region 1 with fail
  rw [← hkx, ← hW1]
  clear hkx hW1
  by_cases hneg : m < 0
  · have HRF := Lib.hid (show r = false by rw [← HR.out]; unfold okC; rw [decide_eq_false (show ¬ (0 ≤ m) by omega), Bool.false_and, Bool.and_false])
    go_wp2
    go_ret
    exact ⟨by rw [HRF.out]; rfl, HB1.out⟩
  by_cases hbig : m > 512
  · have HRF := Lib.hid (show r = false by rw [← HR.out]; unfold okC; rw [decide_eq_false (show ¬ (m ≤ 512) by omega), Bool.and_false, Bool.and_false])
    go_wp2
    go_ret
    exact ⟨by rw [HRF.out]; rfl, HB1.out⟩
  have HRR := Lib.hid (show rgtL m 0 C = r by rw [← HR.out]; unfold okC; rw [decide_eq_true (show 0 ≤ m by omega), decide_eq_true (show m ≤ 512 by omega), Bool.and_true, Bool.and_true])
  have c1 : W1.cell? ⟨kx, 1, none⟩ = some (.slice A n c) := KX.out.cell 1
  go_wp2
  clear c1
  go_loopw [5, 18] (fun s5 s18 wr => ∃ (k : Nat) (nx : Int), s18 = .int .i64 (k : Int) ∧ s5 = .int .i64 nx ∧ k ≤ n ∧ 0 ≤ nx ∧ nx ≤ 512 ∧ rgtL m nx (C.drop k) = r ∧ Below W1.heap.size W1 wr) (fun _ s18 _ => n - (intOf s18).toNat)
  case atStart => exact ⟨0, 0, rfl, rfl, Nat.zero_le _, Int.le_refl _, by decide, by rw [List.drop_zero]; exact HRR.out, Below.refl _ _⟩
  case round =>
    obtain ⟨k, nx, rfl, rfl, hkn, hx0, hx1, hdr, hB⟩ := hrel
    generalize wr = X0 at *
    have HDR := Lib.hid hdr
    have HB := Lib.hid (HB1.out.trans (hB.mono HB1.out.size))
    have HBX := Lib.hid hB
    clear hdr hB
    by_cases hlt : k < n
    · have hki : (k : Int) < (n : Int) := by omega
      have hk0 : (0 : Int) ≤ (k : Int) := by omega
      have hkC : k < C.length := by rw [HL.out]; exact hlt
      obtain ⟨bA, off, rfl, -, hc⟩ := at2 (f := cfc) (fun _ => rfl) HA.out (show 0 < n by omega)
      obtain ⟨d0, d1⟩ := hc X0 HB.out k hkC _ _ rfl
      have HST := Lib.hid (rgtL_drop (n := m) (nx := nx) hkC)
      clear hc
      generalize C[k] = p at *
      obtain ⟨pv, pn⟩ := p
      dsimp only at HST d0 d1
      obtain ⟨k7, hk7⟩ : ∃ k7, k7 = X0.heap.size := ⟨_, rfl⟩
      obtain ⟨X1, hX1⟩ : ∃ X1, X1 = X0.alloc (.cells #[.int .i64 pv, .int .i64 pn] 71) := ⟨_, rfl⟩
      have hb1 : Below X0.heap.size X0 X1 := by rw [hX1]; exact (Below.refl _ _).alloc (Nat.le_refl _) _
      have K7 := Lib.hid (show Blk X1 k7 71 #[.int .i64 pv, .int .i64 pn] by rw [hX1]; exact Blk.new_ hk7 rfl)
      have HB2 := Lib.hid (HB.out.trans (hb1.mono HB.out.size))
      have HBX2 := Lib.hid (HBX.out.trans (hb1.mono HBX.out.size))
      clear hb1
      go_upto_region 7 with fail
      rw [← hk7, ← hX1]
      clear hk7 hX1 d0 d1
      have e0 : X1.cell? ⟨k7, 0, none⟩ = some (.int .i64 pv) := K7.out.cell 0
      by_cases hv0 : pv < nx
      · have HRF := Lib.hid (show r = false by rw [← HDR.out, HST.out, if_pos (Or.inl hv0)])
        have hd0 : decide (pv < nx) = true := decide_eq_true hv0
        go_wp2
        go_ret
        exact ⟨by rw [HRF.out]; rfl, HB2.out⟩
      by_cases hv1 : pv ≥ m
      · have HRF := Lib.hid (show r = false by rw [← HDR.out, HST.out, if_pos (Or.inr hv1)])
        have hd0 : decide (pv < nx) = false := decide_eq_false hv0
        have hd1 : decide (m ≤ pv) = true := decide_eq_true hv1
        go_wp2
        go_ret
        exact ⟨by rw [HRF.out]; rfl, HB2.out⟩
      have HNX := Lib.hid (show rgtL m (pv + 1) (C.drop (k + 1)) = r by rw [← HDR.out, HST.out, if_neg (by omega)])
      have hd0 : decide (pv < nx) = false := decide_eq_false hv0
      have hd1 : decide (m ≤ pv) = false := decide_eq_false hv1
      have hwp : IntKind.i64.wrap (pv + 1) = pv + 1 := IntWalk.i64_in _ (by omega)
      go_wp2
      go_roundw
      case rel => exact ⟨k + 1, pv + 1, by go_num, rfl, hlt, by omega, by omega, HNX.out, HBX2.out⟩
      case measure => simp [intOf]; omega
    · obtain rfl : k = n := by omega
      have hlt2 : ¬ ((k : Int) < (k : Int)) := by omega
      have HRT := Lib.hid (show r = true by
        rw [← HDR.out, List.drop_of_length_le (by rw [HL.out]; exact Nat.le_refl _)]
        rfl)
      go_wp2
      go_ret
      exact ⟨by rw [HRT.out]; rfl, HB.out⟩
set_option maxRecDepth 100000 in
set_option maxHeartbeats 4000000 in
theorem Right_any (w : World) (x : Ct) (m : Int) (h : x.ok w) (hm : i64b m) : Calls Try.prog 36 #[x.val, .int .i64 m] w fun e w' => e = .returned (.bool (okC x.C m)) ∧ Below w.heap.size w w' := by
  obtain ⟨k0, A, n, c, C, eq⟩ := x
  obtain ⟨r, hr⟩ : ∃ r, okC C m = r := ⟨_, rfl⟩
  dsimp only
  rw [hr]
  have HR := Lib.hid hr
  have HL := Lib.hid (show C.length = n from h.len)
  have HA := Lib.hid (show At w A n 2 (C.flatMap cfc) from h.1)
  have hn : n ≤ 9223372036854775807 := h.2.1
  obtain ⟨hm0, hm1⟩ := hm
  clear hr h
  unfold Ct.val
  dsimp only
  obtain ⟨kx, hkx⟩ : ∃ kx, kx = w.heap.size := ⟨_, rfl⟩
  obtain ⟨W1, hW1⟩ : ∃ W1, W1 = w.alloc (.cells #[.int .i64 k0, .slice A n c, .bool eq] 28) := ⟨_, rfl⟩
  have HB1 := Lib.hid (show Below w.heap.size w W1 by rw [hW1]; exact (Below.refl _ _).alloc (Nat.le_refl _) _)
  have KX := Lib.hid (show Blk W1 kx 28 #[.int .i64 k0, .slice A n c, .bool eq] by rw [hW1]; exact Blk.new_ hkx rfl)
  go_enter Try.func36, Try.ntmps36
  go_upto_region 1 with fail
  rw [← hkx, ← hW1]
  clear hkx hW1
  obtain ⟨rr, hrr⟩ : ∃ x, rgtL m 0 C = x := ⟨_, rfl⟩
  have HRR := Lib.hid hrr
  have HRF := Lib.hid (show rr = false → r = false from fun e => by rw [← HR.out]; unfold okC; rw [hrr, e, Bool.false_and])
  have HRT := Lib.hid (show rr = true → r = (decide (0 ≤ m) && decide (m ≤ 512)) from fun e => by rw [← HR.out]; unfold okC; rw [hrr, e, Bool.true_and])
  clear hrr
  have c1 : W1.cell? ⟨kx, 1, none⟩ = some (.slice A n c) := KX.out.cell 1
  go_wp2
  go_loopw [5] (fun s5 wr => ∃ (k : Nat) (nx : Int), s5 = .int .i64 (k : Int) ∧ k ≤ n ∧ 0 ≤ nx ∧ (k = 0 → nx = 0) ∧ (∀ (h : 0 < k) (h2 : k - 1 < C.length), nx = C[k - 1].1 + 1) ∧ rgtL m nx (C.drop k) = rr ∧ wr = W1) (fun s5 _ => n - (intOf s5).toNat)
  case atStart => exact ⟨0, 0, rfl, Nat.zero_le _, Int.le_refl _, fun _ => rfl, fun h => absurd h (Nat.lt_irrefl _), by rw [List.drop_zero]; exact HRR.out, rfl⟩
  case round =>
    obtain ⟨k, nx, rfl, hkn, hx0, hz, hp, hdr, hwr⟩ := hrel
    replace hwr := hwr.symm
    subst hwr
    have HDR := Lib.hid hdr
    have HZ := Lib.hid hz
    have HPV := Lib.hid hp
    clear hdr hz hp
    by_cases hlt : k < n
    · have hki : (k : Int) < (n : Int) := by omega
      have hk0 : (0 : Int) ≤ (k : Int) := by omega
      have hkC : k < C.length := by rw [HL.out]; exact hlt
      obtain ⟨bA, off, rfl, -, hc⟩ := at2 (f := cfc) (fun _ => rfl) HA.out (show 0 < n by omega)
      have HCC := Lib.hid (fun i hi => hc W1 HB1.out i hi _ _ rfl)
      obtain ⟨d0, d1⟩ := hc W1 HB1.out k hkC _ _ rfl
      have HST := Lib.hid (rgtL_drop (n := m) (nx := nx) hkC)
      have HNP := Lib.hid (show ∀ v, C[k].1 = v → ∀ (h2 : k + 1 - 1 < C.length), v + 1 = C[k + 1 - 1].1 + 1 from fun v hv h2 => by subst hv; rfl)
      clear hc
      obtain ⟨pv, hpv⟩ : ∃ x, C[k].1 = x := ⟨_, rfl⟩
      rw [hpv] at HST
      replace HNP := Lib.hid (HNP.out pv hpv)
      simp only [hpv] at d0
      clear hpv d1
      by_cases hneg : pv < 0
      · have HRF1 := Lib.hid (HRF.out (by rw [← HDR.out, HST.out, if_pos (Or.inl (by omega))]))
        have hd0 : decide (pv < 0) = true := decide_eq_true hneg
        go_wp2
        go_ret
        exact ⟨by rw [HRF1.out]; rfl, HB1.out⟩
      have hd0 : decide (pv < 0) = false := decide_eq_false hneg
      by_cases hv1 : pv ≥ m
      · have HRF1 := Lib.hid (HRF.out (by rw [← HDR.out, HST.out, if_pos (Or.inr hv1)]))
        have hd1 : decide (m ≤ pv) = true := decide_eq_true hv1
        go_wp2
        go_ret
        exact ⟨by rw [HRF1.out]; rfl, HB1.out⟩
      have hd1 : decide (m ≤ pv) = false := decide_eq_false hv1
      by_cases hkz : k = 0
      · have hnx := HZ.out hkz
        have HNX := Lib.hid (show rgtL m (pv + 1) (C.drop (k + 1)) = rr by rw [← HDR.out, HST.out, if_neg (by omega)])
        have hkg : ¬ ((k : Int) > 0) := by omega
        have hkd : decide ((0 : Int) < (k : Int)) = false := decide_eq_false hkg
        have HKZ := Lib.hid hkz
        clear hkz hnx
        go_wp2
        go_roundw
        case rel => exact ⟨k + 1, pv + 1, by go_num, hlt, by omega, fun h => absurd h (Nat.succ_ne_zero _), fun _ h2 => HNP.out h2, HNX.out, by trivial⟩
        case measure => simp [intOf]; omega
      · have hkp : 0 < k := by omega
        have hkC1 : k - 1 < C.length := by omega
        have hnx := HPV.out hkp hkC1
        obtain ⟨f0, -⟩ := HCC.out (k - 1) hkC1
        obtain ⟨pp, hpp⟩ : ∃ x, C[k - 1].1 = x := ⟨_, rfl⟩
        rw [hpp] at hnx
        simp only [hpp] at f0
        have hkg : (k : Int) > 0 := by omega
        have hkd : decide ((0 : Int) < (k : Int)) = true := decide_eq_true hkg
        obtain ⟨k1, hk1⟩ : ∃ k1, k - 1 = k1 := ⟨_, rfl⟩
        rw [hk1] at f0
        have hki1 : (k : Int) - 1 = (k1 : Int) := by omega
        have hw1 : IntKind.i64.wrap ((k : Int) - 1) = (k1 : Int) := by rw [hki1]; exact IntWalk.i64_in _ (by omega)
        have hk1n : (k1 : Int) < (n : Int) := by omega
        have hk10 : (0 : Int) ≤ (k1 : Int) := by omega
        have HK1 := Lib.hid hk1
        clear hpp hk1 hkz
        by_cases hle : pv ≤ pp
        · have HRF1 := Lib.hid (HRF.out (by rw [← HDR.out, HST.out, if_pos (Or.inl (by omega))]))
          have hd2 : decide (pv ≤ pp) = true := decide_eq_true hle
          clear hnx
          go_wp2
          go_ret
          exact ⟨by rw [HRF1.out]; rfl, HB1.out⟩
        · have hd2 : decide (pv ≤ pp) = false := decide_eq_false hle
          have HNX := Lib.hid (show rgtL m (pv + 1) (C.drop (k + 1)) = rr by rw [← HDR.out, HST.out, if_neg (by omega)])
          clear hnx
          go_wp2
          go_roundw
          case rel => exact ⟨k + 1, pv + 1, by go_num, hlt, by omega, fun h => absurd h (Nat.succ_ne_zero _), fun _ h2 => HNP.out h2, HNX.out, by trivial⟩
          case measure => simp [intOf]; omega
    · obtain rfl : k = n := by omega
      have hlt2 : ¬ ((k : Int) < (k : Int)) := by omega
      have HRES := Lib.hid (HRT.out (by
        rw [← HDR.out, List.drop_of_length_le (by rw [HL.out]; exact Nat.le_refl _)]
        rfl))
      by_cases hm2 : m ≥ 0
      · have hd0 : decide (0 ≤ m) = true := decide_eq_true hm2
        by_cases hm3 : m ≤ 512
        · have hd1 : decide (m ≤ 512) = true := decide_eq_true hm3
          have HF := Lib.hid (show r = true by rw [HRES.out, hd0, hd1]; rfl)
          go_wp2
          go_ret
          exact ⟨by rw [HF.out]; rfl, HB1.out⟩
        · have hd1 : decide (m ≤ 512) = false := decide_eq_false hm3
          have HF := Lib.hid (show r = false by rw [HRES.out, hd0, hd1]; rfl)
          go_wp2
          go_ret
          exact ⟨by rw [HF.out]; rfl, HB1.out⟩
      · have hd0 : decide (0 ≤ m) = false := decide_eq_false hm2
        have HF := Lib.hid (show r = false by rw [HRES.out, hd0]; rfl)
        go_wp2
        go_ret
        exact ⟨by rw [HF.out]; rfl, HB1.out⟩
end Go.Proofs.Ythfolccofjaknaa
