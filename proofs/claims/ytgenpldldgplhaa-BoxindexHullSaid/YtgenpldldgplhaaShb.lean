/- The least box that contains two boxes of as many sides. -/
import Derived.Test.YtgenpldldgplhaaSow
import Derived.Test.YtgenpldldgplhaaSwi
import Derived.Test.YtgenpldldgplhaaMix
import Derived.Handy
namespace Go.Proofs.Ytgenpldldgplhaa
open Go.ChangeShapes Go.WideShapes Go.ChangeAt Go.RowKit Go.ChangeMaps

def hullL (R S : List Sd) : List Sd := List.zipWith withM R S
set_option maxRecDepth 100000 in
set_option maxHeartbeats 2000000 in
theorem Hull_both (t u : Int) (A : Option Addr) (n c : Nat) (R : List Sd) (A2 : Option Addr) (c2 : Nat) (S T : List Sd) (hT : T = hullL R S) (w : World) (h : Sds w A n R) (h2 : Sds w A2 n S) (hn : n ≤ 1000) (hz : ¬ n = 0) :
    Calls Try.prog 19 #[.agg #[.int .i64 t, .slice A n c], .agg #[.int .i64 u, .slice A2 n c2]] w fun e w' => ∃ A' c', e = .returned (.agg #[.int .i64 t, .slice A' n c']) ∧ Sds w' A' n T ∧ Below w.heap.size w w' := by
  obtain ⟨i0, hi, hz0, hz1, hz2⟩ := info_parts Try.info56
  have hzz : ((n : Int) == 0) = false := by simp; omega
  have HL := Lib.hid h.len
  have HM := Lib.hid h2.len
  have HN := Lib.hid (show T.length = n by rw [hT]; unfold hullL; rw [List.length_zipWith, h.len, h2.len, Nat.min_self])
  have HA := Lib.hid h.at
  have HA2 := Lib.hid h2.at
  have HTT := Lib.hid hT
  clear h h2 hT
  obtain ⟨W0, hW0⟩ : ∃ W0, W0 = ((((w.alloc (.cells #[.int .i64 t, .slice A n c] 40)).alloc (.cells #[.int .i64 u, .slice A2 n c2] 40)).alloc (.cells #[.int .i64 0, .slice none 0 0] 40)).alloc (.cells #[.int .i64 t, .slice none 0 0] 40)) := ⟨_, rfl⟩
  have HB0 := Lib.hid (show Below w.heap.size w W0 by rw [hW0]; exact ((((Below.refl _ w).alloc (Nat.le_refl _) _).alloc (by simp) _).alloc (by simp; omega) _).alloc (by simp; omega) _)
  have HX := Lib.hid (show Blk W0 (w.heap.size + 1) 40 #[.int .i64 u, .slice A2 n c2] by rw [hW0]; exact ((Blk.new_ (by simp) rfl : Blk (((w.alloc _).alloc _)) _ _ _).alloc _).alloc _)
  have HZ1 := Lib.hid (show Blk W0 (w.heap.size + 2) 40 #[.int .i64 0, .slice none 0 0] by rw [hW0]; exact (Blk.new_ (by simp) rfl : Blk ((((w.alloc _).alloc _)).alloc _) _ _ _).alloc _)
  have HZ2 := Lib.hid (show Blk W0 (w.heap.size + 3) 40 #[.int .i64 t, .slice none 0 0] by rw [hW0]; exact Blk.new_ (by simp) rfl)
  have HS0 := Lib.hid (show W0.heap.size = w.heap.size + 4 by rw [hW0]; simp)
  go_enter Try.func19, Try.ntmps19
  go_wp2
  rw [← hW0]
  clear hW0
  go_loopw [14] (fun iv wr => ∃ (k : Nat) (v : Value), iv = .int .i64 (k : Int) ∧ k ≤ n ∧ Blk wr (w.heap.size + 1) 40 #[.int .i64 u, .slice A2 n c2] ∧ Blk wr (w.heap.size + 2) 40 #[.int .i64 0, .slice none 0 0] ∧ Blk wr (w.heap.size + 3) 40 #[.int .i64 t, v] ∧ wr.ownsRow (w.heap.size + 4) 56 6 v k ((T.take k).flatMap Sd.cells) ∧ Below w.heap.size w wr) (fun iv _ => n - (intOf iv).toNat)
  case atStart => exact ⟨0, .slice none 0 0, rfl, Nat.zero_le _, HX.out, HZ1.out, HZ2.out, World.ownsRow_nil _ _ _ _, HB0.out⟩
  case round =>
    obtain ⟨k, v, rfl, hkn, hY, hR, hK, hO, hB⟩ := hrel
    have HY := Lib.hid hY
    have HR := Lib.hid hR
    have HK := Lib.hid hK
    have HO := Lib.hid hO
    have HB := Lib.hid hB
    clear hY hR hO hB
    by_cases hlt : k < n
    · have hki : (k : Int) < n := by omega
      obtain ⟨b, off, rfl, hbl, hc⟩ := HA.out (by omega)
      obtain ⟨b2, off2, rfl, hbl2, hcc⟩ := HA2.out (by omega)
      have hi1 : k < R.length := by rw [HL.out]; exact hlt
      have hi2 : k < S.length := by rw [HM.out]; exact hlt
      have hi3 : k < T.length := by rw [HN.out]; exact hlt
      obtain ⟨y0, y1, y2, y3, y4, y5⟩ := hc wr HB.out k hi1
      have HC2 := Lib.hid (fun W hW => hcc W hW k hi2)
      have HT := Lib.hid (take_flat T k hi3)
      have HV := Lib.hid (show T[k] = withM R[k] S[k] by simp only [HTT.out, hullL, List.getElem_zipWith])
      rw [HV.out] at HT
      have HW := Lib.hid (fun W => with_any R[k] S[k] W)
      clear hc hcc HV
      generalize R[k] = x at *
      generalize S[k] = z at *
      generalize withM x z = y at *
      obtain ⟨nu, ot, lo, hi', fr, to⟩ := x
      obtain ⟨nu2, ot2, lo2, hi2', fr2, to2⟩ := z
      obtain ⟨nu3, ot3, lo3, hi3', fr3, to3⟩ := y
      unfold Sd.agg at HW
      dsimp only at *
      have hrl : w.heap.size + 3 < wr.heap.size := hK.lt
      clear hK
      go_wp2_with fail
      have HBW := Lib.hid (HB.out.alloc (o := .cells #[.bool nu, .bool ot, .int .i64 lo, .int .i64 hi', .string fr, .string to] 56) HB.out.size)
      have HX1 := Lib.hid (show Blk (wr.alloc (.cells #[.bool nu, .bool ot, .int .i64 lo, .int .i64 hi', .string fr, .string to] 56)) wr.heap.size 56 #[.bool nu, .bool ot, .int .i64 lo, .int .i64 hi', .string fr, .string to] from Blk.new _ _ _)
      have HK1 := Lib.hid (HK.out.alloc (.cells #[.bool nu, .bool ot, .int .i64 lo, .int .i64 hi', .string fr, .string to] 56))
      have HY1 := Lib.hid (HY.out.alloc (.cells #[.bool nu, .bool ot, .int .i64 lo, .int .i64 hi', .string fr, .string to] 56))
      have HR1 := Lib.hid (HR.out.alloc (.cells #[.bool nu, .bool ot, .int .i64 lo, .int .i64 hi', .string fr, .string to] 56))
      have HO1 := Lib.hid (HO.out.alloc (.cells #[.bool nu, .bool ot, .int .i64 lo, .int .i64 hi', .string fr, .string to] 56))
      have HSZ := Lib.hid (show (wr.alloc (.cells #[.bool nu, .bool ot, .int .i64 lo, .int .i64 hi', .string fr, .string to] 56)).heap.size = wr.heap.size + 1 by simp)
      generalize wr.alloc (.cells #[.bool nu, .bool ot, .int .i64 lo, .int .i64 hi', .string fr, .string to] 56) = W1 at *
      have hcd : Below W1.heap.size W1 W1.drew := below_drew (Below.refl _ _)
      refine wp_region_mix 10 (fun w' => Below W1.heap.size W1 w') (by kernel_rfl) (by decide) ?_
      refine wpM_take (i := 0) (oi := ⟨some 19, _, _, _, _, _⟩) (v := ?_) rfl (by decide +kernel) (by decide +kernel) (by decide +kernel) (fun _ _ _ h => h) (Or.inl ⟨by rfl, ?_⟩) hcd ?_
      case refine_2 =>
        intro w' hSw
        have s1 : w'.cell? ⟨w.heap.size + 1 + 1 + 1, 1, none⟩ = some v := keepcell hSw (HK1.out.cell 1)
        have s2 : w'.cell? ⟨w.heap.size + 1, 1, none⟩ = some (.slice (some ⟨b2, off2, none⟩) n c2) := keepcell hSw (HY1.out.cell 1)
        have t0 : w'.cell? ⟨wr.heap.size, 0, none⟩ = some (.bool nu) := keepcell hSw (HX1.out.cell 0)
        have t1 : w'.cell? ⟨wr.heap.size, 1, none⟩ = some (.bool ot) := keepcell hSw (HX1.out.cell 1)
        have t2 : w'.cell? ⟨wr.heap.size, 2, none⟩ = some (.int .i64 lo) := keepcell hSw (HX1.out.cell 2)
        have t3 : w'.cell? ⟨wr.heap.size, 3, none⟩ = some (.int .i64 hi') := keepcell hSw (HX1.out.cell 3)
        have t4 : w'.cell? ⟨wr.heap.size, 4, none⟩ = some (.string fr) := keepcell hSw (HX1.out.cell 4)
        have t5 : w'.cell? ⟨wr.heap.size, 5, none⟩ = some (.string to) := keepcell hSw (HX1.out.cell 5)
        obtain ⟨z0, z1, z2, z3, z4, z5⟩ := HC2.out w' (HBW.out.trans (hSw.mono HBW.out.size))
        go_simp
        try (with_reducible rfl)
      try simp only [Act.put, List.setIfInBounds_toArray, List.set_cons_zero, List.set_cons_succ]
      refine wpM_take (i := 1) (oi := ⟨some 20, _, _, _, _, _⟩) (v := ?_) rfl (by decide +kernel) (by decide +kernel) (by decide +kernel) (fun _ _ _ h => h) (Or.inl ⟨by rfl, ?_⟩) hcd ?_
      case refine_2 =>
        intro w' hSw
        have s1 : w'.cell? ⟨w.heap.size + 1 + 1 + 1, 1, none⟩ = some v := keepcell hSw (HK1.out.cell 1)
        have s2 : w'.cell? ⟨w.heap.size + 1, 1, none⟩ = some (.slice (some ⟨b2, off2, none⟩) n c2) := keepcell hSw (HY1.out.cell 1)
        have t0 : w'.cell? ⟨wr.heap.size, 0, none⟩ = some (.bool nu) := keepcell hSw (HX1.out.cell 0)
        have t1 : w'.cell? ⟨wr.heap.size, 1, none⟩ = some (.bool ot) := keepcell hSw (HX1.out.cell 1)
        have t2 : w'.cell? ⟨wr.heap.size, 2, none⟩ = some (.int .i64 lo) := keepcell hSw (HX1.out.cell 2)
        have t3 : w'.cell? ⟨wr.heap.size, 3, none⟩ = some (.int .i64 hi') := keepcell hSw (HX1.out.cell 3)
        have t4 : w'.cell? ⟨wr.heap.size, 4, none⟩ = some (.string fr) := keepcell hSw (HX1.out.cell 4)
        have t5 : w'.cell? ⟨wr.heap.size, 5, none⟩ = some (.string to) := keepcell hSw (HX1.out.cell 5)
        obtain ⟨z0, z1, z2, z3, z4, z5⟩ := HC2.out w' (HBW.out.trans (hSw.mono HBW.out.size))
        go_simp
        try (with_reducible rfl)
      try simp only [Act.put, List.setIfInBounds_toArray, List.set_cons_zero, List.set_cons_succ]
      refine wpM_take (i := 2) (oi := ⟨some 21, _, _, _, _, _⟩) (v := ?_) rfl (by decide +kernel) (by decide +kernel) (by decide +kernel) (fun _ _ _ h => h) (Or.inl ⟨by rfl, ?_⟩) hcd ?_
      case refine_2 =>
        intro w' hSw
        have s1 : w'.cell? ⟨w.heap.size + 1 + 1 + 1, 1, none⟩ = some v := keepcell hSw (HK1.out.cell 1)
        have s2 : w'.cell? ⟨w.heap.size + 1, 1, none⟩ = some (.slice (some ⟨b2, off2, none⟩) n c2) := keepcell hSw (HY1.out.cell 1)
        have t0 : w'.cell? ⟨wr.heap.size, 0, none⟩ = some (.bool nu) := keepcell hSw (HX1.out.cell 0)
        have t1 : w'.cell? ⟨wr.heap.size, 1, none⟩ = some (.bool ot) := keepcell hSw (HX1.out.cell 1)
        have t2 : w'.cell? ⟨wr.heap.size, 2, none⟩ = some (.int .i64 lo) := keepcell hSw (HX1.out.cell 2)
        have t3 : w'.cell? ⟨wr.heap.size, 3, none⟩ = some (.int .i64 hi') := keepcell hSw (HX1.out.cell 3)
        have t4 : w'.cell? ⟨wr.heap.size, 4, none⟩ = some (.string fr) := keepcell hSw (HX1.out.cell 4)
        have t5 : w'.cell? ⟨wr.heap.size, 5, none⟩ = some (.string to) := keepcell hSw (HX1.out.cell 5)
        obtain ⟨z0, z1, z2, z3, z4, z5⟩ := HC2.out w' (HBW.out.trans (hSw.mono HBW.out.size))
        go_simp
        try (with_reducible rfl)
      try simp only [Act.put, List.setIfInBounds_toArray, List.set_cons_zero, List.set_cons_succ]
      refine wpM_take (i := 3) (oi := ⟨some 22, _, _, _, _, _⟩) (v := ?_) rfl (by decide +kernel) (by decide +kernel) (by decide +kernel) (fun _ _ _ h => h) (Or.inl ⟨by rfl, ?_⟩) hcd ?_
      case refine_2 =>
        intro w' hSw
        have s1 : w'.cell? ⟨w.heap.size + 1 + 1 + 1, 1, none⟩ = some v := keepcell hSw (HK1.out.cell 1)
        have s2 : w'.cell? ⟨w.heap.size + 1, 1, none⟩ = some (.slice (some ⟨b2, off2, none⟩) n c2) := keepcell hSw (HY1.out.cell 1)
        have t0 : w'.cell? ⟨wr.heap.size, 0, none⟩ = some (.bool nu) := keepcell hSw (HX1.out.cell 0)
        have t1 : w'.cell? ⟨wr.heap.size, 1, none⟩ = some (.bool ot) := keepcell hSw (HX1.out.cell 1)
        have t2 : w'.cell? ⟨wr.heap.size, 2, none⟩ = some (.int .i64 lo) := keepcell hSw (HX1.out.cell 2)
        have t3 : w'.cell? ⟨wr.heap.size, 3, none⟩ = some (.int .i64 hi') := keepcell hSw (HX1.out.cell 3)
        have t4 : w'.cell? ⟨wr.heap.size, 4, none⟩ = some (.string fr) := keepcell hSw (HX1.out.cell 4)
        have t5 : w'.cell? ⟨wr.heap.size, 5, none⟩ = some (.string to) := keepcell hSw (HX1.out.cell 5)
        obtain ⟨z0, z1, z2, z3, z4, z5⟩ := HC2.out w' (HBW.out.trans (hSw.mono HBW.out.size))
        go_simp
        try (with_reducible rfl)
      try simp only [Act.put, List.setIfInBounds_toArray, List.set_cons_zero, List.set_cons_succ]
      refine wpM_take (i := 4) (oi := ⟨some 23, _, _, _, _, _⟩) (v := ?_) rfl (by decide +kernel) (by decide +kernel) (by decide +kernel) (fun _ _ _ h => h) (Or.inl ⟨by rfl, ?_⟩) hcd ?_
      case refine_2 =>
        intro w' hSw
        have s1 : w'.cell? ⟨w.heap.size + 1 + 1 + 1, 1, none⟩ = some v := keepcell hSw (HK1.out.cell 1)
        have s2 : w'.cell? ⟨w.heap.size + 1, 1, none⟩ = some (.slice (some ⟨b2, off2, none⟩) n c2) := keepcell hSw (HY1.out.cell 1)
        have t0 : w'.cell? ⟨wr.heap.size, 0, none⟩ = some (.bool nu) := keepcell hSw (HX1.out.cell 0)
        have t1 : w'.cell? ⟨wr.heap.size, 1, none⟩ = some (.bool ot) := keepcell hSw (HX1.out.cell 1)
        have t2 : w'.cell? ⟨wr.heap.size, 2, none⟩ = some (.int .i64 lo) := keepcell hSw (HX1.out.cell 2)
        have t3 : w'.cell? ⟨wr.heap.size, 3, none⟩ = some (.int .i64 hi') := keepcell hSw (HX1.out.cell 3)
        have t4 : w'.cell? ⟨wr.heap.size, 4, none⟩ = some (.string fr) := keepcell hSw (HX1.out.cell 4)
        have t5 : w'.cell? ⟨wr.heap.size, 5, none⟩ = some (.string to) := keepcell hSw (HX1.out.cell 5)
        obtain ⟨z0, z1, z2, z3, z4, z5⟩ := HC2.out w' (HBW.out.trans (hSw.mono HBW.out.size))
        go_simp
        try (with_reducible rfl)
      try simp only [Act.put, List.setIfInBounds_toArray, List.set_cons_zero, List.set_cons_succ]
      refine wpM_take (i := 5) (oi := ⟨some 24, _, _, _, _, _⟩) (v := ?_) rfl (by decide +kernel) (by decide +kernel) (by decide +kernel) (fun _ _ _ h => h) (Or.inl ⟨by rfl, ?_⟩) hcd ?_
      case refine_2 =>
        intro w' hSw
        have s1 : w'.cell? ⟨w.heap.size + 1 + 1 + 1, 1, none⟩ = some v := keepcell hSw (HK1.out.cell 1)
        have s2 : w'.cell? ⟨w.heap.size + 1, 1, none⟩ = some (.slice (some ⟨b2, off2, none⟩) n c2) := keepcell hSw (HY1.out.cell 1)
        have t0 : w'.cell? ⟨wr.heap.size, 0, none⟩ = some (.bool nu) := keepcell hSw (HX1.out.cell 0)
        have t1 : w'.cell? ⟨wr.heap.size, 1, none⟩ = some (.bool ot) := keepcell hSw (HX1.out.cell 1)
        have t2 : w'.cell? ⟨wr.heap.size, 2, none⟩ = some (.int .i64 lo) := keepcell hSw (HX1.out.cell 2)
        have t3 : w'.cell? ⟨wr.heap.size, 3, none⟩ = some (.int .i64 hi') := keepcell hSw (HX1.out.cell 3)
        have t4 : w'.cell? ⟨wr.heap.size, 4, none⟩ = some (.string fr) := keepcell hSw (HX1.out.cell 4)
        have t5 : w'.cell? ⟨wr.heap.size, 5, none⟩ = some (.string to) := keepcell hSw (HX1.out.cell 5)
        obtain ⟨z0, z1, z2, z3, z4, z5⟩ := HC2.out w' (HBW.out.trans (hSw.mono HBW.out.size))
        go_simp
        try (with_reducible rfl)
      try simp only [Act.put, List.setIfInBounds_toArray, List.set_cons_zero, List.set_cons_succ]
      refine wpM_take (i := 6) (oi := ⟨some 25, _, _, _, _, _⟩) (v := ?_) rfl (by decide +kernel) (by decide +kernel) (by decide +kernel) (fun _ _ _ h => h) (Or.inl ⟨by rfl, ?_⟩) hcd ?_
      case refine_2 =>
        intro w' hSw
        have s1 : w'.cell? ⟨w.heap.size + 1 + 1 + 1, 1, none⟩ = some v := keepcell hSw (HK1.out.cell 1)
        have s2 : w'.cell? ⟨w.heap.size + 1, 1, none⟩ = some (.slice (some ⟨b2, off2, none⟩) n c2) := keepcell hSw (HY1.out.cell 1)
        have t0 : w'.cell? ⟨wr.heap.size, 0, none⟩ = some (.bool nu) := keepcell hSw (HX1.out.cell 0)
        have t1 : w'.cell? ⟨wr.heap.size, 1, none⟩ = some (.bool ot) := keepcell hSw (HX1.out.cell 1)
        have t2 : w'.cell? ⟨wr.heap.size, 2, none⟩ = some (.int .i64 lo) := keepcell hSw (HX1.out.cell 2)
        have t3 : w'.cell? ⟨wr.heap.size, 3, none⟩ = some (.int .i64 hi') := keepcell hSw (HX1.out.cell 3)
        have t4 : w'.cell? ⟨wr.heap.size, 4, none⟩ = some (.string fr) := keepcell hSw (HX1.out.cell 4)
        have t5 : w'.cell? ⟨wr.heap.size, 5, none⟩ = some (.string to) := keepcell hSw (HX1.out.cell 5)
        obtain ⟨z0, z1, z2, z3, z4, z5⟩ := HC2.out w' (HBW.out.trans (hSw.mono HBW.out.size))
        go_simp
        try (with_reducible rfl)
      try simp only [Act.put, List.setIfInBounds_toArray, List.set_cons_zero, List.set_cons_succ]
      refine wpM_take (i := 7) (oi := ⟨some 26, _, _, _, _, _⟩) (v := ?_) rfl (by decide +kernel) (by decide +kernel) (by decide +kernel) (fun _ _ _ h => h) (Or.inl ⟨by rfl, ?_⟩) hcd ?_
      case refine_2 =>
        intro w' hSw
        have s1 : w'.cell? ⟨w.heap.size + 1 + 1 + 1, 1, none⟩ = some v := keepcell hSw (HK1.out.cell 1)
        have s2 : w'.cell? ⟨w.heap.size + 1, 1, none⟩ = some (.slice (some ⟨b2, off2, none⟩) n c2) := keepcell hSw (HY1.out.cell 1)
        have t0 : w'.cell? ⟨wr.heap.size, 0, none⟩ = some (.bool nu) := keepcell hSw (HX1.out.cell 0)
        have t1 : w'.cell? ⟨wr.heap.size, 1, none⟩ = some (.bool ot) := keepcell hSw (HX1.out.cell 1)
        have t2 : w'.cell? ⟨wr.heap.size, 2, none⟩ = some (.int .i64 lo) := keepcell hSw (HX1.out.cell 2)
        have t3 : w'.cell? ⟨wr.heap.size, 3, none⟩ = some (.int .i64 hi') := keepcell hSw (HX1.out.cell 3)
        have t4 : w'.cell? ⟨wr.heap.size, 4, none⟩ = some (.string fr) := keepcell hSw (HX1.out.cell 4)
        have t5 : w'.cell? ⟨wr.heap.size, 5, none⟩ = some (.string to) := keepcell hSw (HX1.out.cell 5)
        obtain ⟨z0, z1, z2, z3, z4, z5⟩ := HC2.out w' (HBW.out.trans (hSw.mono HBW.out.size))
        go_simp
        try (with_reducible rfl)
      try simp only [Act.put, List.setIfInBounds_toArray, List.set_cons_zero, List.set_cons_succ]
      refine wpM_step (i := 8) (o := ⟨some 27, _, _, _, _, _⟩) rfl (by decide +kernel) (by decide) (fun K hK => ?_)
      go_simp
      refine (HW.out _).mono ?_
      rintro e w2 ⟨rfl, hb2⟩
      have hd2 : Below W1.heap.size W1 w2 := hcd.trans (hb2.mono (Nat.le_refl _))
      refine hK.out _ _ hd2 ?_
      clear hK K hb2
      try simp only [Act.put, List.setIfInBounds_toArray, List.set_cons_zero, List.set_cons_succ]
      refine wpM_step (i := 9) (o := ⟨some 28, _, _, _, _, _⟩) rfl (by decide +kernel) (by decide) (fun K hK => ?_)
      go_simp
      refine hK.out _ _ (hd2.alloc hd2.size _) ?_
      clear hK K
      try simp only [Act.put, List.setIfInBounds_toArray, List.set_cons_zero, List.set_cons_succ]
      refine wpM_done (by decide +kernel) ?_
      simp only [List.drop_succ_cons, List.drop_zero]
      obtain ⟨W3, hW3⟩ : ∃ W3, W3 = w2.alloc (.cells #[.bool nu3, .bool ot3, .int .i64 lo3, .int .i64 hi3', .string fr3, .string to3] 56) := ⟨_, rfl⟩
      have hd3 : Below W1.heap.size W1 W3 := by rw [hW3]; exact hd2.alloc hd2.size _
      have hs3 : W1.heap.size ≤ W3.heap.size := hd3.size
      have HO3 := Lib.hid (show W3.ownsRow (w.heap.size + 4) 56 6 v k ((T.take k).flatMap Sd.cells) from own_below HO1.out hd3)
      have HK3 := Lib.hid (show Blk W3 (w.heap.size + 3) 40 #[.int .i64 t, v] from HK1.out.below hd3)
      have HR3 := Lib.hid (show Blk W3 (w.heap.size + 2) 40 #[.int .i64 0, .slice none 0 0] from HR1.out.below hd3)
      have HY3 := Lib.hid (show Blk W3 (w.heap.size + 1) 40 #[.int .i64 u, .slice (some ⟨b2, off2, none⟩) n c2] from HY1.out.below hd3)
      have HB3 := Lib.hid (show Below w.heap.size w W3 from HBW.out.trans (hd3.mono HBW.out.size))
      have HN3 : Hid (Src Try.prog 6 38 (.slice (some ⟨w2.heap.size, 0, none⟩) 1 1) 1 (Sd.cells ⟨nu3, ot3, lo3, hi3', fr3, to3⟩) W3) := Lib.hid (src_blk (c := 1) Try.underlying38 rfl (cells_one ⟨nu3, ot3, lo3, hi3', fr3, to3⟩) (show Blk W3 w2.heap.size 56 (Sd.cells ⟨nu3, ot3, lo3, hi3', fr3, to3⟩).toArray by rw [hW3]; exact Blk.new _ _ _))
      have hw1 := HBW.out.size
      have hw2 := HSZ.out
      rw [← hW3]
      clear hW3
      go_wp2_with (at_builtin; go_loud (refine wpList_append_src _ rfl _ _ 38 38 rfl (w.heap.size + 4) 56 i0 zS 6 56 Try.underlying38 hi hz0 hz1 hz2 rfl v k _ rfl HO3.out _ 1 (Sd.cells ⟨nu3, ot3, lo3, hi3', fr3, to3⟩) rfl HN3.out ?c1 ?c2 ?c3 ?_))
      case c1 => unfold maxLen; omega
      case c2 => omega
      case c3 => omega
      intro v' w4 own' hg _
      obtain ⟨g1, g2, g3, g4, g5⟩ := Bx.step HK3.out HO3.out (by decide) own' hg
      rw [← HT.out] at g3
      obtain ⟨A3, a3, rfl, -⟩ := At.of_own own'
      have G2 := Lib.hid g2
      have G3 := Lib.hid g3
      have G4 := Lib.hid (g4 _ _ _ (by omega) (by decide) HR3.out)
      have G6 := Lib.hid (g4 _ _ _ (by omega) (by decide) HY3.out)
      have G5 := Lib.hid (g5 _ _ HB3.out (by omega) (by omega) (by omega))
      have g1c : w4.cell? ⟨w.heap.size + 1 + 1 + 1, 1, none⟩ = some v := g1.cell 1
      have f3 : w4.frozen? ⟨w.heap.size + 1 + 1 + 1, 1, none⟩ = false := Joins.unfrozen_of_block g1 1
      clear g1 g2 g3 g4 g5 own' hg
      go_wp2
      go_roundw
      case rel => exact ⟨k + 1, _, by go_num, hlt, G6.out, G4.out, G2.out, G3.out, G5.out⟩
      case measure => simp [intOf]; omega
    · obtain rfl : k = n := by omega
      have e0 : wr.cell? ⟨w.heap.size + 1 + 1 + 1, 0, none⟩ = some (.int .i64 t) := hK.cell 0
      obtain ⟨A3, a3, rfl, -⟩ := At.of_own HO.out
      have e1 : wr.cell? ⟨w.heap.size + 1 + 1 + 1, 1, none⟩ = some (.slice A3 k a3) := hK.cell 1
      have HF : Hid ((T.take k).flatMap Sd.cells = T.flatMap Sd.cells) := Lib.hid (by rw [List.take_of_length_le (by rw [HN.out]; exact Nat.le_refl _)])
      go_wp2_with ((refine wpList_store_row (o := ⟨none, _, _, _, _, _⟩) rfl 40 _ _ rfl (w.heap.size + 2) #[.int .i64 t, .slice A3 k a3] rfl rfl 40 _ HR.out (by kernel_rfl) rfl (by simp [Value.oneCell']) ?_))
      have gr := grown_row wr (w.heap.size + 2) #[.int .i64 t, .slice A3 k a3]
      refine bodyPost_ret (results_c1 rfl _ _ _ (w.heap.size + 2) _ rfl (load33 (HR.out.setRow (ds := #[.int .i64 t, .slice A3 k a3])) rfl)) rfl ?_
      refine ⟨A3, a3, rfl, ?_, HB.out.grown gr HB.out.size (fun j hj => by injection hj with hj; omega)⟩
      have := HO.out.kept gr (.inr (own_blk_ne HO.out HR.out (by decide)))
      rw [HF.out] at this
      exact Sds.own this
end Go.Proofs.Ytgenpldldgplhaa
