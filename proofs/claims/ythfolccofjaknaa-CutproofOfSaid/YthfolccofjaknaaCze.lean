/- The reference's zero and Even. -/
import Derived.Test.YthfolccofjaknaaCsa
import Derived.Test.YthfolccofjaknaaCng
import Derived.Test.YthfolccofjaknaaCap
import Derived.Test.YthfolccofjaknaaCsu
import Derived.Test.YthfolccofjaknaaMA
namespace Go.Proofs.Ythfolccofjaknaa
open Go.ChangeShapes Go.WideShapes Go.ChangeAt Go.RowKit Go.ChangeMaps

def ZrP (w : World) (n : Nat) (e : Ending) (w' : World) : Prop := ∃ g, e = .returned (Iq.val ⟨some ⟨g, 0, none⟩, n, n, List.replicate n Bg.zero, Bg.zero⟩) ∧ Rw w' w.heap.size g (List.replicate n Bg.zero) 0 ∧ Below w.heap.size w w'
set_option maxRecDepth 100000 in
set_option maxHeartbeats 4000000 in
theorem zero_any (w : World) (n : Nat) (hn : n ≤ 1000000) : Calls Try.prog 47 #[.int .i64 (n : Int)] w (ZrP w n) := by
  have hmk := make42 n hn
  obtain ⟨k2, hk2⟩ : ∃ k, k = w.heap.size := ⟨_, rfl⟩
  obtain ⟨W1, hW1⟩ : ∃ W1, W1 = w.alloc (.cells #[.slice none 0 0, .bool false, .slice none 0 0] 44) := ⟨_, rfl⟩
  have HB1 := Lib.hid (show Below w.heap.size w W1 by rw [hW1]; exact (Below.refl _ _).alloc (Nat.le_refl _) _)
  have K2 := Lib.hid (show Blk W1 k2 44 #[.slice none 0 0, .bool false, .slice none 0 0] by rw [hW1]; exact Blk.new_ hk2 rfl)
  have hk2w : w.heap.size ≤ k2 := by omega
  have hk2l : k2 < W1.heap.size := K2.out.lt
  obtain ⟨g, hg⟩ : ∃ g, g = W1.heap.size := ⟨_, rfl⟩
  obtain ⟨W2, hW2⟩ : ∃ W2, W2 = W1.alloc (.cells ((List.replicate n Bg.zero).flatMap Bg.cells).toArray 37) := ⟨_, rfl⟩
  have hb2 : Below W1.heap.size W1 W2 := by rw [hW2]; exact (Below.refl _ _).alloc (Nat.le_refl _) _
  have HB2 := Lib.hid (HB1.out.trans (hb2.mono HB1.out.size))
  have HR := Lib.hid (Rw.make hW2 hg (show w.heap.size ≤ g by have := HB1.out.size; omega))
  have K22 := Lib.hid (K2.out.below hb2)
  obtain ⟨W3, hW3⟩ : ∃ W3, W3 = W1.setCell ⟨k2, 0, none⟩ (.slice (some ⟨g, 0, none⟩) n n) := ⟨_, rfl⟩
  have HEQ := Lib.hid (show (W1.setCell ⟨k2, 0, none⟩ (.slice (some ⟨g, 0, none⟩) n n)).alloc (.cells ((List.replicate n Bg.zero).flatMap Bg.cells).toArray 37) = W2.setCell ⟨k2, 0, none⟩ (.slice (some ⟨g, 0, none⟩) n n) by rw [hW2]; exact (World.setCell_alloc_past _ _ _ _ hk2l).symm)
  clear hb2
  go_enter Try.func47, Try.ntmps47
  go_upto_region 1 with fail
  rw [← hk2, ← hW1]
  clear hk2 hW1
  have KR := Lib.hid (K22.out.setRow (ds := #[.slice (some ⟨g, 0, none⟩) n n, .bool false, .slice none 0 0]))
  have HRF := Lib.hid (show Rw (W2.setRow k2 #[.slice (some ⟨g, 0, none⟩) n n, .bool false, .slice none 0 0]) w.heap.size g (List.replicate n Bg.zero) 0 from ⟨HR.out.1, HR.out.2.1.row_other K22.out (by decide) _, fun b hb => (HR.out.2.2 b hb).rowT K22.out (by decide) _⟩)
  have HBF := Lib.hid (row_below HB2.out hk2w HB2.out.size (#[.slice (some ⟨g, 0, none⟩) n n, .bool false, .slice none 0 0]))
  rw [hW2] at K22
  rw [hW2, hg] at KR HRF HBF
  clear hW2 hW3 HEQ
  go_wp2_with ((refine wpList_store_row (o := ⟨none, _, _, _, _, _⟩) rfl 44 _ _ rfl k2 #[.slice (some ⟨W1.heap.size, 0, none⟩) n n, .bool false, .slice none 0 0] rfl rfl 44 _ K22.out (by kernel_rfl) rfl (by simp [Value.oneCell']) ?_))
  refine bodyPost_ret (results_c1 rfl _ _ _ k2 _ rfl (load44 KR.out rfl)) rfl ?_
  exact ⟨W1.heap.size, rfl, HRF.out, HBF.out⟩
set_option maxRecDepth 100000 in
set_option maxHeartbeats 4000000 in
theorem REven_any (w : World) (A : Option Addr) (n c : Nat) (Q : List Iq) (N : Nat) (h : Ineqs w A n Q N) : Calls Try.prog 53 #[.slice A n c] w fun e w' => e = .returned (.bool (sysM (Q.map Iq.m))) ∧ Below w.heap.size w w' := by
  obtain ⟨r, hr⟩ : ∃ r, sysM (Q.map Iq.m) = r := ⟨_, rfl⟩
  rw [hr]
  have HL := Lib.hid h.len
  have hn : n ≤ 9223372036854775807 := h.2.1
  have HE := Lib.hid (show ∀ (h0 : 0 < Q.length), r = Q.all (fun q => decide (q.n = Q[0].n)) from fun h0 => by
    rw [← hr]
    unfold sysM
    rw [List.all_map]
    have hw : widthM (Q.map Iq.m) = Q[0].n := by
      obtain ⟨x, Q', rfl⟩ : ∃ x Q', Q = x :: Q' := by cases Q with | nil => cases h0 | cons x Q' => exact ⟨x, Q', rfl⟩
      show (x.L.map Bg.z).length = x.n
      rw [List.length_map]
      exact (h.2.2 x List.mem_cons_self).1.len
    rw [hw]
    refine Bool.eq_iff_iff.2 ?_
    simp only [List.all_eq_true, Function.comp, decide_eq_true_eq]
    constructor
    · intro hq x hx
      have := hq x hx
      unfold Iq.m at this
      rw [List.length_map, (h.2.2 x hx).1.len] at this
      exact this
    · intro hq x hx
      unfold Iq.m
      rw [List.length_map, (h.2.2 x hx).1.len]
      exact hq x hx)
  have HE0 := Lib.hid (show Q.length = 0 → r = true from fun h0 => by
    rw [← hr, List.eq_nil_of_length_eq_zero h0]
    rfl)
  have HAT := Lib.hid h.1
  clear h hr
  go_enter Try.func53, Try.ntmps53
  go_wp2
  go_loopw [3] (fun s3 wr => ∃ k : Nat, s3 = .int .i64 (k : Int) ∧ k ≤ n ∧ (∀ (h0 : 0 < Q.length), (Q.take k).all (fun q => decide (q.n = Q[0].n)) = true) ∧ Below w.heap.size w wr) (fun s3 _ => n - (intOf s3).toNat)
  case atStart => exact ⟨0, rfl, Nat.zero_le _, fun _ => rfl, Below.refl _ _⟩
  case round =>
    obtain ⟨k, rfl, hkn, hall, hB⟩ := hrel
    generalize wr = X0 at *
    have HALL := Lib.hid hall
    have HB := Lib.hid hB
    clear hall hB
    by_cases hlt : k < n
    · have hki : (k : Int) < (n : Int) := by omega
      have hk0 : (0 : Int) ≤ (k : Int) := by omega
      have h0n : (0 : Int) < (n : Int) := by omega
      have h0nn : 0 < n := by omega
      have hkL : k < Q.length := by rw [HL.out]; exact hlt
      have h0L : 0 < Q.length := by omega
      obtain ⟨bA, off, rfl, -, hc⟩ := at3 (fun _ => rfl) HAT.out (show 0 < n by omega)
      obtain ⟨c0, -, -⟩ := hc X0 HB.out k hkL _ _ _ rfl
      obtain ⟨d0, -, -⟩ := hc X0 HB.out 0 h0L _ _ _ rfl
      rw [Nat.zero_mul, Nat.add_zero] at d0
      have HST := Lib.hid (show (Q.take (k + 1)).all (fun q => decide (q.n = Q[0].n)) = decide (Q[k].n = Q[0].n) by rw [List.take_succ_eq_append_getElem hkL, List.all_append, HALL.out h0L]; simp)
      have HBAD := Lib.hid (show Q[k].n ≠ Q[0].n → r = false from fun hz => by
        rw [HE.out h0L]
        exact List.all_eq_false.2 ⟨Q[k], List.getElem_mem hkL, by simpa using hz⟩)
      clear hc
      go_upto_region 4 with fail
      have hb0 : Below X0.heap.size X0 X0.drew := below_drew (Below.refl _ _)
      refine wp_region_mixE (fun w' => Below X0.heap.size X0 w') (by kernel_rfl) ?_
      generalize X0.drew = z0 at hb0 ⊢
      refine wpE_take (i := 0) (oi := ⟨some 10, _, _, _, _, _⟩) (v := ?_) rfl (by decide +kernel) (by decide +kernel) (by decide +kernel) (fun _ _ _ h => h) (Or.inl ⟨by rfl, ?_⟩) hb0 ?_
      case refine_2 =>
          intro w' hSw
          have c0' := keepcell hSw c0
          have d0' := keepcell hSw d0
          go_simp
          try (with_reducible rfl)
      try simp only [Act.put, List.setIfInBounds_toArray, List.set_cons_zero, List.set_cons_succ]
      refine wpE_take (i := 1) (oi := ⟨some 11, _, _, _, _, _⟩) (v := ?_) rfl (by decide +kernel) (by decide +kernel) (by decide +kernel) (fun _ _ _ h => h) (Or.inl ⟨by rfl, ?_⟩) hb0 ?_
      case refine_2 =>
          intro w' hSw
          have c0' := keepcell hSw c0
          have d0' := keepcell hSw d0
          go_simp
          try (with_reducible rfl)
      try simp only [Act.put, List.setIfInBounds_toArray, List.set_cons_zero, List.set_cons_succ]
      refine wpE_take (i := 2) (oi := ⟨some 12, _, _, _, _, _⟩) (v := ?_) rfl (by decide +kernel) (by decide +kernel) (by decide +kernel) (fun _ _ _ h => h) (Or.inl ⟨by rfl, ?_⟩) hb0 ?_
      case refine_2 =>
          intro w' hSw
          have c0' := keepcell hSw c0
          have d0' := keepcell hSw d0
          go_simp
          try (with_reducible rfl)
      try simp only [Act.put, List.setIfInBounds_toArray, List.set_cons_zero, List.set_cons_succ]
      refine wpE_take (i := 3) (oi := ⟨some 13, _, _, _, _, _⟩) (v := ?_) rfl (by decide +kernel) (by decide +kernel) (by decide +kernel) (fun _ _ _ h => h) (Or.inl ⟨by rfl, ?_⟩) hb0 ?_
      case refine_2 =>
          intro w' hSw
          have c0' := keepcell hSw c0
          have d0' := keepcell hSw d0
          go_simp
          try (with_reducible rfl)
      try simp only [Act.put, List.setIfInBounds_toArray, List.set_cons_zero, List.set_cons_succ]
      refine wpE_take (i := 4) (oi := ⟨some 14, _, _, _, _, _⟩) (v := ?_) rfl (by decide +kernel) (by decide +kernel) (by decide +kernel) (fun _ _ _ h => h) (Or.inl ⟨by rfl, ?_⟩) hb0 ?_
      case refine_2 =>
          intro w' hSw
          have c0' := keepcell hSw c0
          have d0' := keepcell hSw d0
          go_simp
          try (with_reducible rfl)
      try simp only [Act.put, List.setIfInBounds_toArray, List.set_cons_zero, List.set_cons_succ]
      refine wpE_take (i := 5) (oi := ⟨some 15, _, _, _, _, _⟩) (v := ?_) rfl (by decide +kernel) (by decide +kernel) (by decide +kernel) (fun _ _ _ h => h) (Or.inl ⟨by rfl, ?_⟩) hb0 ?_
      case refine_2 =>
          intro w' hSw
          have c0' := keepcell hSw c0
          have d0' := keepcell hSw d0
          go_simp
          try (with_reducible rfl)
      try simp only [Act.put, List.setIfInBounds_toArray, List.set_cons_zero, List.set_cons_succ]
      refine wpE_take (i := 6) (oi := ⟨some 16, _, _, _, _, _⟩) (v := ?_) rfl (by decide +kernel) (by decide +kernel) (by decide +kernel) (fun _ _ _ h => h) (Or.inl ⟨by rfl, ?_⟩) hb0 ?_
      case refine_2 =>
          intro w' hSw
          have c0' := keepcell hSw c0
          have d0' := keepcell hSw d0
          go_simp
          try (with_reducible rfl)
      try simp only [Act.put, List.setIfInBounds_toArray, List.set_cons_zero, List.set_cons_succ]
      refine wpE_take (i := 7) (oi := ⟨some 17, _, _, _, _, _⟩) (v := ?_) rfl (by decide +kernel) (by decide +kernel) (by decide +kernel) (fun _ _ _ h => h) (Or.inl ⟨by rfl, ?_⟩) hb0 ?_
      case refine_2 =>
          intro w' hSw
          have c0' := keepcell hSw c0
          have d0' := keepcell hSw d0
          go_simp
          try (with_reducible rfl)
      try simp only [Act.put, List.setIfInBounds_toArray, List.set_cons_zero, List.set_cons_succ]
      refine wpE_take (i := 8) (oi := ⟨some 18, _, _, _, _, _⟩) (v := ?_) rfl (by decide +kernel) (by decide +kernel) (by decide +kernel) (fun _ _ _ h => h) (Or.inl ⟨by rfl, ?_⟩) hb0 ?_
      case refine_2 =>
          intro w' hSw
          have c0' := keepcell hSw c0
          have d0' := keepcell hSw d0
          go_simp
          try (with_reducible rfl)
      try simp only [Act.put, List.setIfInBounds_toArray, List.set_cons_zero, List.set_cons_succ]
      refine wpE_take (i := 9) (oi := ⟨some 19, _, _, _, _, _⟩) (v := ?_) rfl (by decide +kernel) (by decide +kernel) (by decide +kernel) (fun _ _ _ h => h) (Or.inl ⟨by rfl, ?_⟩) hb0 ?_
      case refine_2 =>
          intro w' hSw
          have c0' := keepcell hSw c0
          have d0' := keepcell hSw d0
          go_simp
          try (with_reducible rfl)
      try simp only [Act.put, List.setIfInBounds_toArray, List.set_cons_zero, List.set_cons_succ]
      refine wpE_take (i := 10) (oi := ⟨some 20, _, _, _, _, _⟩) (v := ?_) rfl (by decide +kernel) (by decide +kernel) (by decide +kernel) (fun _ _ _ h => h) (Or.inl ⟨by rfl, ?_⟩) hb0 ?_
      case refine_2 =>
          intro w' hSw
          have c0' := keepcell hSw c0
          have d0' := keepcell hSw d0
          go_simp
          try (with_reducible rfl)
      try simp only [Act.put, List.setIfInBounds_toArray, List.set_cons_zero, List.set_cons_succ]
      refine wpE_take (i := 11) (oi := ⟨some 21, _, _, _, _, _⟩) (v := ?_) rfl (by decide +kernel) (by decide +kernel) (by decide +kernel) (fun _ _ _ h => h) (Or.inl ⟨by rfl, ?_⟩) hb0 ?_
      case refine_2 =>
          intro w' hSw
          have c0' := keepcell hSw c0
          have d0' := keepcell hSw d0
          go_simp
          try (with_reducible rfl)
      try simp only [Act.put, List.setIfInBounds_toArray, List.set_cons_zero, List.set_cons_succ]
      refine wpE_done (by decide +kernel) ?_
      clear c0 d0
      have HBz := Lib.hid (HB.out.trans (hb0.mono HB.out.size))
      by_cases hq : Q[k].n = Q[0].n
      · have hqb : ((Q[k].n : Int) == (Q[0].n : Int)) = true := by simp [hq]
        have HST1 := Lib.hid (HST.out.trans (decide_eq_true hq))
        clear hq
        obtain ⟨q1, hq1⟩ : ∃ x, Q[k].n = x := ⟨_, rfl⟩
        obtain ⟨q0, hq0⟩ : ∃ x, Q[0].n = x := ⟨_, rfl⟩
        rw [hq1, hq0] at hqb
        rw [hq1, hq0]
        clear hq1 hq0
        go_wp2
        go_roundw
        case rel => exact ⟨k + 1, by go_num, hlt, fun _ => HST1.out, HBz.out⟩
        case measure => simp [intOf]; omega
      · have hqb : ((Q[k].n : Int) == (Q[0].n : Int)) = false := by simp; omega
        have HR := Lib.hid (HBAD.out hq)
        clear hq
        go_wp2
        go_ret
        exact ⟨by rw [HR.out]; rfl, HBz.out⟩
    · obtain rfl : k = n := by omega
      have hlt2 : ¬ ((k : Int) < (k : Int)) := by omega
      have HR := Lib.hid (show r = true by
        by_cases h0 : Q.length = 0
        · exact HE0.out h0
        · have := HALL.out (by omega)
          rw [List.take_of_length_le (by rw [HL.out]; exact Nat.le_refl _)] at this
          rw [HE.out (by omega), this])
      go_wp2
      go_ret
      exact ⟨by rw [HR.out]; rfl, HB.out⟩
end Go.Proofs.Ythfolccofjaknaa
