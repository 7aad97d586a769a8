/- Contradictory, isSystem, negated. -/
import Derived.Test.YthfolccofjaknaaCda
import Derived.Test.YthfolccofjaknaaMA
namespace Go.Proofs.Ythfolccofjaknaa
open Go.ChangeShapes Go.WideShapes Go.ChangeAt Go.RowKit Go.ChangeMaps

theorem sign_ne {z : Int} (h : z ≠ 0) : ¬ (z.sign = 0) := fun e => h (Int.sign_eq_zero_iff_zero.1 e)
theorem sign_lt {z : Int} : z.sign < 0 ↔ z < 0 := Int.sign_neg_iff
set_option maxRecDepth 100000 in
set_option maxHeartbeats 2000000 in
theorem Contradictory_any (w : World) (q : Iq) (N : Nat) (h : q.ok w N) : Calls Try.prog 27 #[q.val] w fun e w' => e = .returned (.bool (badM q.m)) ∧ Below w.heap.size w w' := by
  obtain ⟨A, n, c, L, b⟩ := q
  obtain ⟨r, hr⟩ : ∃ r, badM (Iq.m ⟨A, n, c, L, b⟩) = r := ⟨_, rfl⟩
  rw [hr]
  have HE := Lib.hid (show r = (L.all (fun x => decide (x.z = 0)) && decide (b.z < 0)) by rw [← hr]; unfold badM Iq.m; simp [List.all_map]; rfl)
  clear hr
  have hn : n ≤ 9223372036854775807 := h.1.2.1
  have HL := Lib.hid h.1.len
  have HA := Lib.hid h.1.at
  have HO := Lib.hid h.1.2.2
  have HBG := Lib.hid h.2
  unfold Iq.val
  dsimp only
  obtain ⟨kx, hkx⟩ : ∃ kx, kx = w.heap.size := ⟨_, rfl⟩
  obtain ⟨W1, hW1⟩ : ∃ W1, W1 = w.alloc (.cells #[.slice A n c, .bool b.neg, .slice b.A b.n b.c] 44) := ⟨_, rfl⟩
  have HB1 := Lib.hid (show Below w.heap.size w W1 by rw [hW1]; exact (Below.refl _ _).alloc (Nat.le_refl _) _)
  have KX := Lib.hid (show Blk W1 kx 44 #[.slice A n c, .bool b.neg, .slice b.A b.n b.c] by rw [hW1]; exact Blk.new_ hkx rfl)
  clear h
  have c0 : W1.cell? ⟨kx, 0, none⟩ = some (.slice A n c) := KX.out.cell 0
  go_enter Try.func27, Try.ntmps27
  go_upto_region 1 with fail
  rw [← hkx, ← hW1]
  clear hkx hW1
  go_wp2
  clear c0
  go_loopw [8] (fun s8 wr => ∃ k : Nat, s8 = .int .i64 (k : Int) ∧ k ≤ n ∧ (L.take k).all (fun x => decide (x.z = 0)) = true ∧ Below W1.heap.size W1 wr) (fun s8 _ => n - (intOf s8).toNat)
  case atStart => exact ⟨0, rfl, Nat.zero_le _, rfl, Below.refl _ _⟩
  case round =>
    obtain ⟨k, rfl, hkn, hall, hB⟩ := hrel
    have HALL := Lib.hid hall
    have HBB := Lib.hid hB
    have HB := Lib.hid (HB1.out.trans (hB.mono HB1.out.size))
    clear hall hB
    by_cases hlt : k < n
    · have hki : (k : Int) < (n : Int) := by omega
      have hk0 : (0 : Int) ≤ (k : Int) := by omega
      have hkL : k < L.length := by rw [HL.out]; exact hlt
      obtain ⟨bA, off, rfl, -, hc⟩ := HA.out (by omega)
      obtain ⟨c0, c1⟩ := hc wr HB.out k hkL
      have hbk := HO.out _ (List.getElem_mem hkL)
      have HST := Lib.hid (show (L.take (k + 1)).all (fun x => decide (x.z = 0)) = decide (L[k].z = 0) by rw [List.take_succ_eq_append_getElem hkL, List.all_append, HALL.out]; simp)
      have HBAD := Lib.hid (show L[k].z ≠ 0 → r = false from fun hz => by
        rw [HE.out, List.all_eq_false.2 ⟨L[k], List.getElem_mem hkL, by simpa using hz⟩, Bool.false_and])
      clear hc
      generalize L[k] = x at *
      have hb2 : Below wr.heap.size wr (wr.alloc (.cells #[.bool x.neg, .slice x.A x.n x.c] 37)) := (Below.refl _ _).alloc (Nat.le_refl _) _
      have HB2 := Lib.hid (HB.out.trans (hb2.mono HB.out.size))
      have HBB2 := Lib.hid (HBB.out.trans (hb2.mono HBB.out.size))
      have CS := Lib.hid (Sign_any x.val x.z N (wr.alloc (.cells #[.bool x.neg, .slice x.A x.n x.c] 37)) (hbk.below HB2.out))
      unfold Bg.val at CS
      clear hb2 hbk
      go_wp2_with fail
      clear c0 c1
      refine CS.out.mono ?_
      rintro e3 w3 ⟨rfl, hb3⟩
      have HB3 := Lib.hid (HB2.out.trans (hb3.mono HB2.out.size))
      have HBB3 := Lib.hid (HBB2.out.trans (hb3.mono HBB2.out.size))
      clear hb3 CS
      by_cases hz : x.z = 0
      · have HST := Lib.hid (HST.out.trans (by rw [decide_eq_true hz]))
        have hs : x.z.sign = 0 := by rw [hz]; rfl
        rw [hs]
        clear hs hz
        go_wp2
        go_roundw
        case rel => exact ⟨k + 1, by go_num, hlt, HST.out, HBB3.out⟩
        case measure => simp [intOf]; omega
      · have HR := Lib.hid (HBAD.out hz)
        have hs := sign_ne hz
        have hs2 : (x.z.sign == 0) = false := by simpa using hs
        generalize x.z.sign = sg at *
        go_wp2
        go_ret
        exact ⟨by rw [HR.out]; rfl, HB3.out⟩
    · obtain rfl : k = n := by omega
      have hlt2 : ¬ ((k : Int) < (k : Int)) := by omega
      have HR := Lib.hid (show r = decide (b.z < 0) by
        have := HALL.out
        rw [List.take_of_length_le (by rw [HL.out]; exact Nat.le_refl _)] at this
        rw [HE.out, this, Bool.true_and])
      have KX2 := Lib.hid (KX.out.below HBB.out)
      have c1 : wr.cell? ⟨kx, 1, none⟩ = some (.bool b.neg) := KX2.out.cell 1
      have c2 : wr.cell? ⟨kx, 2, none⟩ = some (.slice b.A b.n b.c) := KX2.out.cell 2
      have CS := Lib.hid (Sign_any b.val b.z N wr (HBG.out.below HB.out))
      unfold Bg.val at CS
      go_wp2_with fail
      clear c1 c2
      refine CS.out.mono ?_
      rintro e3 w3 ⟨rfl, hb3⟩
      have HB3 := Lib.hid (HB.out.trans (hb3.mono HB.out.size))
      clear hb3 CS
      have HSG := Lib.hid (show decide (b.z.sign < 0) = decide (b.z < 0) by simp [sign_lt])
      generalize b.z.sign = sg at *
      go_wp2
      go_ret
      exact ⟨by rw [HR.out, ← HSG.out]; rfl, HB3.out⟩

set_option maxRecDepth 100000 in
set_option maxHeartbeats 2000000 in
theorem isSystem_any (w : World) (A : Option Addr) (n c : Nat) (Q : List Iq) (N : Nat) (h : Ineqs w A n Q N) : Calls Try.prog 51 #[.slice A n c] w fun e w' => e = .returned (.bool (sysM (Q.map Iq.m))) ∧ Below w.heap.size w w' := by
  obtain ⟨r, hr⟩ : ∃ r, sysM (Q.map Iq.m) = r := ⟨_, rfl⟩
  rw [hr]
  have HL := Lib.hid h.len
  have hn : n ≤ 9223372036854775807 := h.2.1
  have HE := Lib.hid (show ∀ (h0 : 0 < Q.length), r = Q.all (fun q => decide (q.n = Q[0].n)) from fun h0 => by
    rw [← hr]
    unfold sysM
    rw [List.all_map]
    have hw : widthM (Q.map Iq.m) = Q[0].n := by
      obtain ⟨x, Q', rfl⟩ : ∃ x Q', Q = x :: Q' := by cases Q with | nil => cases h0 | cons x Q' => exact ⟨x, Q', rfl⟩
      show (x.L.map Bg.z).length = x.n
      rw [List.length_map]
      exact (h.2.2 x List.mem_cons_self).1.len
    rw [hw]
    refine Bool.eq_iff_iff.2 ?_
    simp only [List.all_eq_true, Function.comp, decide_eq_true_eq]
    constructor
    · intro hq x hx
      have := hq x hx
      unfold Iq.m at this
      rw [List.length_map, (h.2.2 x hx).1.len] at this
      exact this
    · intro hq x hx
      unfold Iq.m
      rw [List.length_map, (h.2.2 x hx).1.len]
      exact hq x hx)
  have HE0 := Lib.hid (show Q.length = 0 → r = true from fun h0 => by
    rw [← hr, List.eq_nil_of_length_eq_zero h0]
    rfl)
  have HAT := Lib.hid h.1
  clear h hr
  go_enter Try.func51, Try.ntmps51
  go_wp2
  go_loopw [7] (fun s7 wr => ∃ k : Nat, s7 = .int .i64 (k : Int) ∧ k ≤ n ∧ (∀ (h0 : 0 < Q.length), (Q.take k).all (fun q => decide (q.n = Q[0].n)) = true) ∧ Below w.heap.size w wr) (fun s7 _ => n - (intOf s7).toNat)
  case atStart => exact ⟨0, rfl, Nat.zero_le _, fun _ => rfl, Below.refl _ _⟩
  case round =>
    obtain ⟨k, rfl, hkn, hall, hB⟩ := hrel
    have HALL := Lib.hid hall
    have HB := Lib.hid hB
    clear hall hB
    by_cases hlt : k < n
    · have hki : (k : Int) < (n : Int) := by omega
      have hk0 : (0 : Int) ≤ (k : Int) := by omega
      have h0n : (0 : Int) < (n : Int) := by omega
      have h0nn : 0 < n := by omega
      have hkL : k < Q.length := by rw [HL.out]; exact hlt
      have h0L : 0 < Q.length := by omega
      obtain ⟨bA, off, rfl, -, hc⟩ := at3 (fun _ => rfl) HAT.out (show 0 < n by omega)
      obtain ⟨c0, c1, c2⟩ := hc wr HB.out k hkL _ _ _ rfl
      have HC := Lib.hid hc
      have HST := Lib.hid (show (Q.take (k + 1)).all (fun q => decide (q.n = Q[0].n)) = decide (Q[k].n = Q[0].n) by rw [List.take_succ_eq_append_getElem hkL, List.all_append, HALL.out h0L]; simp)
      have HBAD := Lib.hid (show Q[k].n ≠ Q[0].n → r = false from fun hz => by
        rw [HE.out h0L]
        exact List.all_eq_false.2 ⟨Q[k], List.getElem_mem hkL, by simpa using hz⟩)
      obtain ⟨W2, hW2⟩ : ∃ W2, W2 = wr.alloc (.cells #[.slice Q[k].A Q[k].n Q[k].c, .bool Q[k].b.neg, .slice Q[k].b.A Q[k].b.n Q[k].b.c] 44) := ⟨_, rfl⟩
      obtain ⟨kx, hkx⟩ : ∃ kx, kx = wr.heap.size := ⟨_, rfl⟩
      have hb2 : Below wr.heap.size wr W2 := by rw [hW2]; exact (Below.refl _ _).alloc (Nat.le_refl _) _
      have HB2 := Lib.hid (HB.out.trans (hb2.mono HB.out.size))
      have KX := Lib.hid (show Blk W2 kx 44 #[.slice Q[k].A Q[k].n Q[k].c, .bool Q[k].b.neg, .slice Q[k].b.A Q[k].b.n Q[k].b.c] by rw [hW2]; exact Blk.new_ hkx rfl)
      clear hb2 hc
      obtain ⟨d0, -, -⟩ := HC.out W2 HB2.out 0 h0L _ _ _ rfl
      rw [Nat.zero_mul, Nat.add_zero] at d0
      have e0 : W2.cell? ⟨kx, 0, none⟩ = some (.slice Q[k].A Q[k].n Q[k].c) := KX.out.cell 0
      go_upto_region 4 with fail
      rw [← hkx, ← hW2]
      clear hkx hW2 c0 c1 c2
      have hb0 : Below W2.heap.size W2 W2.drew := below_drew (Below.refl _ _)
      have d0n := keepcell hb0 d0
      obtain ⟨xn, hxn⟩ : ∃ x, Q[k].n = x := ⟨_, rfl⟩
      obtain ⟨yn, hyn⟩ : ∃ x, Q[0].n = x := ⟨_, rfl⟩
      have HXY := Lib.hid (show (xn = yn → ∀ (_ : 0 < Q.length), (Q.take (k + 1)).all (fun q => decide (q.n = Q[0].n)) = true) ∧ (xn ≠ yn → r = false) from ⟨fun e _ => by rw [HST.out]; exact decide_eq_true (by rw [hxn, hyn, e]), fun e => HBAD.out (by rw [hxn, hyn]; exact e)⟩)
      rw [hxn] at e0 ⊢
      rw [hyn] at d0 d0n
      clear HST HBAD hxn hyn
      by_cases heq : xn = yn
      · have HST := Lib.hid (HXY.out.1 heq)
        subst heq
        refine wp_region_mixE (fun w' => Below W2.heap.size W2 w') (by kernel_rfl) ?_
        have HB3 := Lib.hid (HB2.out.trans (hb0.mono HB2.out.size))
        generalize W2.drew = W3 at hb0 HB3 d0n ⊢
        refine wpE_take (i := 0) (oi := ⟨some 11, _, _, _, _, _⟩) (v := ?_) rfl (by decide +kernel) (by decide +kernel) (by decide +kernel) (fun _ _ _ h => h) (Or.inl ⟨by rfl, ?_⟩) hb0 ?_
        case refine_2 =>
          intro w' hSw
          have d0' := keepcell hSw d0
          have e0' := keepcell hSw e0
          go_simp
          try (with_reducible rfl)
        try simp only [Act.put, List.setIfInBounds_toArray, List.set_cons_zero, List.set_cons_succ]
        refine wpE_take (i := 1) (oi := ⟨some 12, _, _, _, _, _⟩) (v := ?_) rfl (by decide +kernel) (by decide +kernel) (by decide +kernel) (fun _ _ _ h => h) (Or.inl ⟨by rfl, ?_⟩) hb0 ?_
        case refine_2 =>
          intro w' hSw
          have d0' := keepcell hSw d0
          have e0' := keepcell hSw e0
          go_simp
          try (with_reducible rfl)
        try simp only [Act.put, List.setIfInBounds_toArray, List.set_cons_zero, List.set_cons_succ]
        refine wpE_take (i := 2) (oi := ⟨some 13, _, _, _, _, _⟩) (v := ?_) rfl (by decide +kernel) (by decide +kernel) (by decide +kernel) (fun _ _ _ h => h) (Or.inl ⟨by rfl, ?_⟩) hb0 ?_
        case refine_2 =>
          intro w' hSw
          have d0' := keepcell hSw d0
          have e0' := keepcell hSw e0
          go_simp
          try (with_reducible rfl)
        try simp only [Act.put, List.setIfInBounds_toArray, List.set_cons_zero, List.set_cons_succ]
        refine wpE_take (i := 3) (oi := ⟨some 14, _, _, _, _, _⟩) (v := ?_) rfl (by decide +kernel) (by decide +kernel) (by decide +kernel) (fun _ _ _ h => h) (Or.inl ⟨by rfl, ?_⟩) hb0 ?_
        case refine_2 =>
          intro w' hSw
          have d0' := keepcell hSw d0
          have e0' := keepcell hSw e0
          go_simp
          try (with_reducible rfl)
        try simp only [Act.put, List.setIfInBounds_toArray, List.set_cons_zero, List.set_cons_succ]
        refine wpE_take (i := 4) (oi := ⟨some 15, _, _, _, _, _⟩) (v := ?_) rfl (by decide +kernel) (by decide +kernel) (by decide +kernel) (fun _ _ _ h => h) (Or.inl ⟨by rfl, ?_⟩) hb0 ?_
        case refine_2 =>
          intro w' hSw
          have d0' := keepcell hSw d0
          have e0' := keepcell hSw e0
          go_simp
          try (with_reducible rfl)
        try simp only [Act.put, List.setIfInBounds_toArray, List.set_cons_zero, List.set_cons_succ]
        refine wpE_take (i := 5) (oi := ⟨some 16, _, _, _, _, _⟩) (v := ?_) rfl (by decide +kernel) (by decide +kernel) (by decide +kernel) (fun _ _ _ h => h) (Or.inl ⟨by rfl, ?_⟩) hb0 ?_
        case refine_2 =>
          intro w' hSw
          have d0' := keepcell hSw d0
          have e0' := keepcell hSw e0
          go_simp
          try (with_reducible rfl)
        try simp only [Act.put, List.setIfInBounds_toArray, List.set_cons_zero, List.set_cons_succ]
        refine wpE_take (i := 6) (oi := ⟨some 17, _, _, _, _, _⟩) (v := ?_) rfl (by decide +kernel) (by decide +kernel) (by decide +kernel) (fun _ _ _ h => h) (Or.inl ⟨by rfl, ?_⟩) hb0 ?_
        case refine_2 =>
          intro w' hSw
          have d0' := keepcell hSw d0
          have e0' := keepcell hSw e0
          go_simp
          try (with_reducible rfl)
        try simp only [Act.put, List.setIfInBounds_toArray, List.set_cons_zero, List.set_cons_succ]
        refine wpE_take (i := 7) (oi := ⟨some 18, _, _, _, _, _⟩) (v := ?_) rfl (by decide +kernel) (by decide +kernel) (by decide +kernel) (fun _ _ _ h => h) (Or.inl ⟨by rfl, ?_⟩) hb0 ?_
        case refine_2 =>
          intro w' hSw
          have d0' := keepcell hSw d0
          have e0' := keepcell hSw e0
          go_simp
          try (with_reducible rfl)
        try simp only [Act.put, List.setIfInBounds_toArray, List.set_cons_zero, List.set_cons_succ]
        refine wpE_take (i := 8) (oi := ⟨some 19, _, _, _, _, _⟩) (v := .bool false) rfl (by decide +kernel) (by decide +kernel) (by decide +kernel) (fun _ _ _ h => h) (Or.inl ⟨by rfl, ?_⟩) hb0 ?_
        case refine_1 =>
          intro w' hSw
          go_simp
          try (with_reducible rfl)
        try simp only [Act.put, List.setIfInBounds_toArray, List.set_cons_zero, List.set_cons_succ]
        refine wpE_done (by decide +kernel) ?_
        clear d0 d0n e0 hb0
        go_wp2
        go_roundw
        case rel => exact ⟨k + 1, by go_num, hlt, HST.out, HB3.out⟩
        case measure => simp [intOf]; omega
      · have HR := Lib.hid (HXY.out.2 heq)
        have hne2 : ¬ ((xn : Int) = (yn : Int)) := by omega
        have hne : ((xn : Int) == (yn : Int)) = false := by simp only [beq_eq_false_iff_ne, ne_eq]; omega
        refine wp_region_mixE (fun w' => Below W2.heap.size W2 w') (by kernel_rfl) ?_
        have HB3 := Lib.hid (HB2.out.trans (hb0.mono HB2.out.size))
        generalize W2.drew = W3 at hb0 HB3 d0n ⊢
        refine wpE_take (i := 0) (oi := ⟨some 11, _, _, _, _, _⟩) (v := ?_) rfl (by decide +kernel) (by decide +kernel) (by decide +kernel) (fun _ _ _ h => h) (Or.inl ⟨by rfl, ?_⟩) hb0 ?_
        case refine_2 =>
          intro w' hSw
          have d0' := keepcell hSw d0
          have e0' := keepcell hSw e0
          go_simp
          try (with_reducible rfl)
        try simp only [Act.put, List.setIfInBounds_toArray, List.set_cons_zero, List.set_cons_succ]
        refine wpE_take (i := 1) (oi := ⟨some 12, _, _, _, _, _⟩) (v := ?_) rfl (by decide +kernel) (by decide +kernel) (by decide +kernel) (fun _ _ _ h => h) (Or.inl ⟨by rfl, ?_⟩) hb0 ?_
        case refine_2 =>
          intro w' hSw
          have d0' := keepcell hSw d0
          have e0' := keepcell hSw e0
          go_simp
          try (with_reducible rfl)
        try simp only [Act.put, List.setIfInBounds_toArray, List.set_cons_zero, List.set_cons_succ]
        refine wpE_take (i := 2) (oi := ⟨some 13, _, _, _, _, _⟩) (v := ?_) rfl (by decide +kernel) (by decide +kernel) (by decide +kernel) (fun _ _ _ h => h) (Or.inl ⟨by rfl, ?_⟩) hb0 ?_
        case refine_2 =>
          intro w' hSw
          have d0' := keepcell hSw d0
          have e0' := keepcell hSw e0
          go_simp
          try (with_reducible rfl)
        try simp only [Act.put, List.setIfInBounds_toArray, List.set_cons_zero, List.set_cons_succ]
        refine wpE_take (i := 3) (oi := ⟨some 14, _, _, _, _, _⟩) (v := ?_) rfl (by decide +kernel) (by decide +kernel) (by decide +kernel) (fun _ _ _ h => h) (Or.inl ⟨by rfl, ?_⟩) hb0 ?_
        case refine_2 =>
          intro w' hSw
          have d0' := keepcell hSw d0
          have e0' := keepcell hSw e0
          go_simp
          try (with_reducible rfl)
        try simp only [Act.put, List.setIfInBounds_toArray, List.set_cons_zero, List.set_cons_succ]
        refine wpE_take (i := 4) (oi := ⟨some 15, _, _, _, _, _⟩) (v := ?_) rfl (by decide +kernel) (by decide +kernel) (by decide +kernel) (fun _ _ _ h => h) (Or.inl ⟨by rfl, ?_⟩) hb0 ?_
        case refine_2 =>
          intro w' hSw
          have d0' := keepcell hSw d0
          have e0' := keepcell hSw e0
          go_simp
          try (with_reducible rfl)
        try simp only [Act.put, List.setIfInBounds_toArray, List.set_cons_zero, List.set_cons_succ]
        refine wpE_take (i := 5) (oi := ⟨some 16, _, _, _, _, _⟩) (v := ?_) rfl (by decide +kernel) (by decide +kernel) (by decide +kernel) (fun _ _ _ h => h) (Or.inl ⟨by rfl, ?_⟩) hb0 ?_
        case refine_2 =>
          intro w' hSw
          have d0' := keepcell hSw d0
          have e0' := keepcell hSw e0
          go_simp
          try (with_reducible rfl)
        try simp only [Act.put, List.setIfInBounds_toArray, List.set_cons_zero, List.set_cons_succ]
        refine wpE_take (i := 6) (oi := ⟨some 17, _, _, _, _, _⟩) (v := ?_) rfl (by decide +kernel) (by decide +kernel) (by decide +kernel) (fun _ _ _ h => h) (Or.inl ⟨by rfl, ?_⟩) hb0 ?_
        case refine_2 =>
          intro w' hSw
          have d0' := keepcell hSw d0
          have e0' := keepcell hSw e0
          go_simp
          try (with_reducible rfl)
        try simp only [Act.put, List.setIfInBounds_toArray, List.set_cons_zero, List.set_cons_succ]
        refine wpE_take (i := 7) (oi := ⟨some 18, _, _, _, _, _⟩) (v := ?_) rfl (by decide +kernel) (by decide +kernel) (by decide +kernel) (fun _ _ _ h => h) (Or.inl ⟨by rfl, ?_⟩) hb0 ?_
        case refine_2 =>
          intro w' hSw
          have d0' := keepcell hSw d0
          have e0' := keepcell hSw e0
          go_simp
          try (with_reducible rfl)
        try simp only [Act.put, List.setIfInBounds_toArray, List.set_cons_zero, List.set_cons_succ]
        refine wpE_take (i := 8) (oi := ⟨some 19, _, _, _, _, _⟩) (v := .bool true) rfl (by decide +kernel) (by decide +kernel) (by decide +kernel) (fun _ _ _ h => h) (Or.inl ⟨by rfl, ?_⟩) hb0 ?_
        case refine_1 =>
          intro w' hSw
          go_simp
          try (with_reducible rfl)
        try simp only [Act.put, List.setIfInBounds_toArray, List.set_cons_zero, List.set_cons_succ]
        refine wpE_done (by decide +kernel) ?_
        clear d0 d0n e0 hb0
        go_wp2
        go_ret
        exact ⟨by rw [HR.out]; rfl, HB3.out⟩
    · obtain rfl : k = n := by omega
      have hlt2 : ¬ ((k : Int) < (k : Int)) := by omega
      have HR := Lib.hid (show r = true by
        by_cases h0 : 0 < Q.length
        · rw [HE.out h0]
          have := HALL.out h0
          rw [List.take_of_length_le (by rw [HL.out]; exact Nat.le_refl _)] at this
          exact this
        · exact HE0.out (by omega))
      go_wp2
      go_ret
      exact ⟨by rw [HR.out]; rfl, HB.out⟩
end Go.Proofs.Ythfolccofjaknaa
