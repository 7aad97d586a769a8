/- The order of integers, in the program and in the reference. -/
import Derived.Test.YthfolccofjaknaaBra
import Derived.Test.YthfolccofjaknaaMB
import Derived.Test.YthfolccofjaknaaBdd
namespace Go.Proofs.Ythfolccofjaknaa
open Go.ChangeShapes Go.WideShapes Go.ChangeAt Go.RowKit Go.ChangeMaps


def cmpZ (a b : Int) : Int := if a < b then -1 else if b < a then 1 else 0
theorem cmp_lt {a b : Int} (h : a.sign < b.sign) : cmpZ a b = -1 := by
  unfold cmpZ
  rw [if_pos]
  rcases Int.lt_trichotomy a 0 with h1 | h1 | h1 <;> rcases Int.lt_trichotomy b 0 with h2 | h2 | h2 <;> first | omega | (simp [Int.sign_eq_neg_one_of_neg, Int.sign_eq_one_of_pos, h1, h2] at h)
theorem cmp_gt {a b : Int} (h : b.sign < a.sign) : cmpZ a b = 1 := by
  unfold cmpZ
  rcases Int.lt_trichotomy a 0 with h1 | h1 | h1 <;> rcases Int.lt_trichotomy b 0 with h2 | h2 | h2 <;> first | (rw [if_neg (by omega), if_pos (by omega)]) | (simp [Int.sign_eq_neg_one_of_neg, Int.sign_eq_one_of_pos, h1, h2] at h)
theorem cmp_eq {a b : Int} (h : a.sign = b.sign) : a.sign * scmp a.natAbs b.natAbs = cmpZ a b := by
  unfold cmpZ scmp
  rcases Int.lt_trichotomy a 0 with h1 | h1 | h1 <;> rcases Int.lt_trichotomy b 0 with h2 | h2 | h2 <;> first | (rw [Int.sign_eq_neg_one_of_neg h1]; repeat' split) | (subst h1; subst h2; simp) | (rw [Int.sign_eq_one_of_pos h1]; repeat' split) | skip
  all_goals first | omega | (simp [Int.sign_eq_neg_one_of_neg, Int.sign_eq_one_of_pos, h1, h2] at h)
theorem sign_range (a : Int) : a.sign = -1 ∨ a.sign = 0 ∨ a.sign = 1 := by
  rcases Int.lt_trichotomy a 0 with h1 | h1 | h1
  · exact .inl (Int.sign_eq_neg_one_of_neg h1)
  · exact .inr (.inl (by rw [h1]; rfl))
  · exact .inr (.inr (Int.sign_eq_one_of_pos h1))
theorem scmp_range (x y : Nat) : scmp x y = -1 ∨ scmp x y = 0 ∨ scmp x y = 1 := by
  unfold scmp
  split
  · exact .inl rfl
  · split
    · exact .inr (.inr rfl)
    · exact .inr (.inl rfl)
set_option maxRecDepth 100000 in
set_option maxHeartbeats 4000000 in
theorem RCompare_any (a b : Value) (z1 z2 : Int) (N : Nat) (w : World) (h : BG w a z1 N) (h2 : BG w b z2 N) (hN : N ≤ 3000000) : Calls Try.prog 34 #[a, b] w fun e w' => e = .returned (.int .i64 (cmpZ z1 z2)) ∧ Below w.heap.size w w' := by
  obtain ⟨r, hr⟩ : ∃ r, cmpZ z1 z2 = r := ⟨_, rfl⟩
  rw [hr]
  have HR := Lib.hid hr
  clear hr
  obtain ⟨na, A, n, c, D, rfl, hd1, hs1, hn1, hz1⟩ := h
  obtain ⟨nb, A2, m, c2, E, rfl, hd2, hs2, hn2, hz2⟩ := h2
  have HZ1 := Lib.hid hz1
  have HZ2 := Lib.hid hz2
  obtain ⟨W0, hW0⟩ : ∃ V, V = (w.alloc (.cells #[.bool na, .slice A n c] 37)).alloc (.cells #[.bool nb, .slice A2 m c2] 37) := ⟨_, rfl⟩
  have HB := Lib.hid (show Below w.heap.size w W0 by rw [hW0]; exact ((Below.refl _ w).alloc (Nat.le_refl _) _).alloc (by simp) _)
  have K2 := Lib.hid (show Blk W0 w.heap.size 37 #[.bool na, .slice A n c] by rw [hW0]; exact (Blk.new _ _ _).alloc _)
  have K3 := Lib.hid (show Blk W0 (w.heap.size + 1) 37 #[.bool nb, .slice A2 m c2] by rw [hW0]; exact Blk.new_ (by simp) rfl)
  have GX := Lib.hid (show BG W0 (.agg #[.bool na, .slice A n c]) z1 N from BG.below ⟨na, A, n, c, D, rfl, hd1, hs1, hn1, hz1⟩ HB.out)
  have GY := Lib.hid (show BG W0 (.agg #[.bool nb, .slice A2 m c2]) z2 N from BG.below ⟨nb, A2, m, c2, E, rfl, hd2, hs2, hn2, hz2⟩ HB.out)
  clear hd1 hs1 hn1 hz1 hd2 hs2 hn2 hz2
  have K2_0 : W0.cell? ⟨w.heap.size, 0, none⟩ = some (.bool na) := K2.out.cell 0
  have K2_1 : W0.cell? ⟨w.heap.size, 1, none⟩ = some (.slice A n c) := K2.out.cell 1
  have K3_0 : W0.cell? ⟨w.heap.size + 1, 0, none⟩ = some (.bool nb) := K3.out.cell 0
  have K3_1 : W0.cell? ⟨w.heap.size + 1, 1, none⟩ = some (.slice A2 m c2) := K3.out.cell 1
  obtain ⟨s1, hs1⟩ : ∃ s, z1.sign = s := ⟨_, rfl⟩
  obtain ⟨s2, hs2⟩ : ∃ s, z2.sign = s := ⟨_, rfl⟩
  have q1 := sign_range z1
  have q2 := sign_range z2
  rw [hs1] at q1
  rw [hs2] at q2
  have HS1x := Lib.hid hs1
  have HS2x := Lib.hid hs2
  clear hs1 hs2
  have Q1 := Lib.hid q1
  have Q2 := Lib.hid q2
  clear q1 q2
  go_enter Try.func34, Try.ntmps34
  go_upto_region 1 with fail
  rw [← hW0]
  clear hW0
  have hy0 : Below W0.heap.size W0 W0.drew := below_drew (Below.refl _ _)
  refine wp_region_mix 4 (fun w' => Below W0.heap.size W0 w') (by kernel_rfl) (by decide) ?_
  generalize W0.drew = y0 at hy0 ⊢
  refine wpM_take (i := 0) (oi := ⟨some 7, _, _, _, _, _⟩) (v := ?_) rfl (by decide +kernel) (by decide +kernel) (by decide +kernel) (fun _ _ _ h => h) (Or.inl ⟨by rfl, ?_⟩) hy0 ?_
  case refine_2 =>
    intro w' hSw
    have K2_0' := keepcell hSw K2_0
    have K2_1' := keepcell hSw K2_1
    have K3_0' := keepcell hSw K3_0
    have K3_1' := keepcell hSw K3_1
    go_simp
    try (with_reducible rfl)
  try simp only [Act.put, List.setIfInBounds_toArray, List.set_cons_zero, List.set_cons_succ]
  refine wpM_take (i := 2) (oi := ⟨some 9, _, _, _, _, _⟩) (v := ?_) rfl (by decide +kernel) (by decide +kernel) (by decide +kernel) (fun _ _ _ h => h) (Or.inl ⟨by rfl, ?_⟩) hy0 ?_
  case refine_2 =>
    intro w' hSw
    have K2_0' := keepcell hSw K2_0
    have K2_1' := keepcell hSw K2_1
    have K3_0' := keepcell hSw K3_0
    have K3_1' := keepcell hSw K3_1
    go_simp
    try (with_reducible rfl)
  try simp only [Act.put, List.setIfInBounds_toArray, List.set_cons_zero, List.set_cons_succ]
  refine wpM_step (i := 1) (o := ⟨some 8, _, _, _, _, _⟩) rfl (by decide +kernel) (by decide) (fun K hK => ?_)
  go_simp
  refine (RSign_any _ z1 N y0 (GX.out.below hy0) (by omega)).mono ?_
  rintro e y1 ⟨rfl, hc⟩
  have hy1 : Below W0.heap.size W0 y1 := hy0.trans (hc.mono hy0.size)
  rw [HS1x.out]
  clear hc
  refine hK.out _ _ hy1 ?_
  clear hK K
  try simp only [Act.put, List.setIfInBounds_toArray, List.set_cons_zero, List.set_cons_succ]
  refine wpM_step (i := 3) (o := ⟨some 10, _, _, _, _, _⟩) rfl (by decide +kernel) (by decide) (fun K hK => ?_)
  go_simp
  refine (RSign_any _ z2 N y1 (GY.out.below hy1) (by omega)).mono ?_
  rintro e y2 ⟨rfl, hc⟩
  have hy2 : Below W0.heap.size W0 y2 := hy1.trans (hc.mono hy1.size)
  rw [HS2x.out]
  clear hc
  refine hK.out _ _ hy2 ?_
  clear hK K
  try simp only [Act.put, List.setIfInBounds_toArray, List.set_cons_zero, List.set_cons_succ]
  refine wpM_done (by decide +kernel) ?_
  simp only [List.drop_succ_cons, List.drop_zero]
  clear K2_0 K2_1 K3_0 K3_1
  replace K2 := Lib.hid (K2.out.below hy2)
  replace K3 := Lib.hid (K3.out.below hy2)
  replace GX := Lib.hid (GX.out.below hy2)
  replace GY := Lib.hid (GY.out.below hy2)
  replace HB := Lib.hid (HB.out.trans (hy2.mono HB.out.size))
  clear hy0 hy1 hy2
  rcases Int.lt_trichotomy s1 s2 with hlt | hlt | hlt
  · have HF := Lib.hid (show (-1 : Int) = r by rw [← HR.out, cmp_lt (by rw [HS1x.out, HS2x.out]; exact hlt)])
    go_wp2_with fail
    go_ret
    exact ⟨ret_int HF.out, HB.out⟩
  · subst hlt
    have hsc := scmp_range z1.natAbs z2.natAbs
    have HEQ := Lib.hid (show s1 * scmp z1.natAbs z2.natAbs = r by rw [← HR.out, ← HS1x.out]; exact cmp_eq (by rw [HS1x.out, HS2x.out]))
    obtain ⟨sc, hsc2⟩ : ∃ q, scmp z1.natAbs z2.natAbs = q := ⟨_, rfl⟩
    rw [hsc2] at hsc HEQ
    have HSC := Lib.hid hsc2
    have hwr : IntKind.i64.wrap (s1 * sc) = r := by
      have h1 := Q1.out
      rw [← HEQ.out]
      simp only [IntKind.wrap_i64]
      rcases h1 with e | e | e <;> rcases hsc with e2 | e2 | e2 <;> subst e <;> subst e2 <;> decide
    clear hsc hsc2
    have K2_0 : y2.cell? ⟨w.heap.size, 0, none⟩ = some (.bool na) := K2.out.cell 0
    have K2_1 : y2.cell? ⟨w.heap.size, 1, none⟩ = some (.slice A n c) := K2.out.cell 1
    have K3_0 : y2.cell? ⟨w.heap.size + 1, 0, none⟩ = some (.bool nb) := K3.out.cell 0
    have K3_1 : y2.cell? ⟨w.heap.size + 1, 1, none⟩ = some (.slice A2 m c2) := K3.out.cell 1
    go_upto_region 6 with fail
    have hx0 : Below y2.heap.size y2 y2.drew := below_drew (Below.refl _ _)
    refine wp_region_mix 7 (fun w' => Below y2.heap.size y2 w') (by kernel_rfl) (by decide) ?_
    generalize y2.drew = x0 at hx0 ⊢
    refine wpM_take (i := 0) (oi := ⟨some 17, _, _, _, _, _⟩) (v := ?_) rfl (by decide +kernel) (by decide +kernel) (by decide +kernel) (fun _ _ _ h => h) (Or.inl ⟨by rfl, ?_⟩) hx0 ?_
    case refine_2 =>
      intro w' hSw
      have K2_0' := keepcell hSw K2_0
      have K2_1' := keepcell hSw K2_1
      have K3_0' := keepcell hSw K3_0
      have K3_1' := keepcell hSw K3_1
      go_simp
      try (with_reducible rfl)
    try simp only [Act.put, List.setIfInBounds_toArray, List.set_cons_zero, List.set_cons_succ]
    refine wpM_take (i := 1) (oi := ⟨some 18, _, _, _, _, _⟩) (v := ?_) rfl (by decide +kernel) (by decide +kernel) (by decide +kernel) (fun _ _ _ h => h) (Or.inl ⟨by rfl, ?_⟩) hx0 ?_
    case refine_2 =>
      intro w' hSw
      have K2_0' := keepcell hSw K2_0
      have K2_1' := keepcell hSw K2_1
      have K3_0' := keepcell hSw K3_0
      have K3_1' := keepcell hSw K3_1
      go_simp
      try (with_reducible rfl)
    try simp only [Act.put, List.setIfInBounds_toArray, List.set_cons_zero, List.set_cons_succ]
    refine wpM_take (i := 3) (oi := ⟨some 20, _, _, _, _, _⟩) (v := ?_) rfl (by decide +kernel) (by decide +kernel) (by decide +kernel) (fun _ _ _ h => h) (Or.inl ⟨by rfl, ?_⟩) hx0 ?_
    case refine_2 =>
      intro w' hSw
      have K2_0' := keepcell hSw K2_0
      have K2_1' := keepcell hSw K2_1
      have K3_0' := keepcell hSw K3_0
      have K3_1' := keepcell hSw K3_1
      go_simp
      try (with_reducible rfl)
    try simp only [Act.put, List.setIfInBounds_toArray, List.set_cons_zero, List.set_cons_succ]
    refine wpM_step (i := 2) (o := ⟨some 19, _, _, _, _, _⟩) rfl (by decide +kernel) (by decide) (fun K hK => ?_)
    go_simp
    refine (halves_any _ z1 N x0 (GX.out.below hx0) (by omega)).mono ?_
    rintro e x1 ⟨v1, rfl, hv, hc⟩
    have hx1 : Below y2.heap.size y2 x1 := hx0.trans (hc.mono hx0.size)
    have H1 := Lib.hid hv
    clear hv
    clear hc
    refine hK.out _ _ hx1 ?_
    clear hK K
    try simp only [Act.put, List.setIfInBounds_toArray, List.set_cons_zero, List.set_cons_succ]
    refine wpM_step (i := 4) (o := ⟨some 21, _, _, _, _, _⟩) rfl (by decide +kernel) (by decide) (fun K hK => ?_)
    go_simp
    refine (halves_any _ z2 N x1 (GY.out.below hx1) (by omega)).mono ?_
    rintro e x2 ⟨v2, rfl, hv, hc⟩
    have hx2 : Below y2.heap.size y2 x2 := hx1.trans (hc.mono hx1.size)
    have H2 := Lib.hid hv
    replace H1 := Lib.hid (H1.out.below hc)
    clear hv
    clear hc
    refine hK.out _ _ hx2 ?_
    clear hK K
    try simp only [Act.put, List.setIfInBounds_toArray, List.set_cons_zero, List.set_cons_succ]
    refine wpM_step (i := 5) (o := ⟨some 22, _, _, _, _, _⟩) rfl (by decide +kernel) (by decide) (fun K hK => ?_)
    go_simp
    refine (order_hv v1 v2 z1.natAbs z2.natAbs (2 * N) x2 H1.out H2.out (by omega)).mono ?_
    rintro e x3 ⟨rfl, hc⟩
    have hx3 : Below y2.heap.size y2 x3 := hx2.trans (hc.mono hx2.size)
    rw [HSC.out]
    clear hc
    refine hK.out _ _ hx3 ?_
    clear hK K
    try simp only [Act.put, List.setIfInBounds_toArray, List.set_cons_zero, List.set_cons_succ]
    refine wpM_take (i := 6) (oi := ⟨some 23, _, _, _, _, _⟩) (v := ?_) rfl (by decide +kernel) (by decide +kernel) (by decide +kernel) (fun _ _ _ h => h) (Or.inl ⟨by rfl, ?_⟩) hx3 ?_
    case refine_2 =>
      intro w' hSw
      have K2_0' := keepcell hSw K2_0
      have K2_1' := keepcell hSw K2_1
      have K3_0' := keepcell hSw K3_0
      have K3_1' := keepcell hSw K3_1
      go_simp
      try (with_reducible rfl)
    try simp only [Act.put, List.setIfInBounds_toArray, List.set_cons_zero, List.set_cons_succ]
    refine wpM_done (by decide +kernel) ?_
    simp only [List.drop_succ_cons, List.drop_zero]
    have HB9 := Lib.hid (HB.out.trans (hx3.mono HB.out.size))
    go_wp2_with fail
    go_ret
    exact ⟨rfl, HB9.out⟩
  · have HF := Lib.hid (show (1 : Int) = r by rw [← HR.out, cmp_gt (by rw [HS1x.out, HS2x.out]; exact hlt)])
    have hlt2 : ¬ s1 < s2 := by omega
    go_wp2_with fail
    go_ret
    exact ⟨ret_int HF.out, HB.out⟩
set_option maxRecDepth 100000 in
set_option maxHeartbeats 4000000 in
theorem Compare_any (a b : Value) (z1 z2 : Int) (N : Nat) (w : World) (h : BG w a z1 N) (h2 : BG w b z2 N) (hN : N ≤ 30000) : Calls Try.prog 61 #[a, b] w fun e w' => e = .returned (.int .i64 (cmpZ z1 z2)) ∧ Below w.heap.size w w' := by
  obtain ⟨r, hr⟩ : ∃ r, cmpZ z1 z2 = r := ⟨_, rfl⟩
  rw [hr]
  have HR := Lib.hid hr
  clear hr
  obtain ⟨na, A, n, c, D, rfl, hd1, hs1, hn1, hz1⟩ := h
  obtain ⟨nb, A2, m, c2, E, rfl, hd2, hs2, hn2, hz2⟩ := h2
  have HZ1 := Lib.hid hz1
  have HZ2 := Lib.hid hz2
  obtain ⟨W0, hW0⟩ : ∃ V, V = (w.alloc (.cells #[.bool na, .slice A n c] 37)).alloc (.cells #[.bool nb, .slice A2 m c2] 37) := ⟨_, rfl⟩
  have HB := Lib.hid (show Below w.heap.size w W0 by rw [hW0]; exact ((Below.refl _ w).alloc (Nat.le_refl _) _).alloc (by simp) _)
  have K2 := Lib.hid (show Blk W0 w.heap.size 37 #[.bool na, .slice A n c] by rw [hW0]; exact (Blk.new _ _ _).alloc _)
  have K3 := Lib.hid (show Blk W0 (w.heap.size + 1) 37 #[.bool nb, .slice A2 m c2] by rw [hW0]; exact Blk.new_ (by simp) rfl)
  have GX := Lib.hid (show BG W0 (.agg #[.bool na, .slice A n c]) z1 N from BG.below ⟨na, A, n, c, D, rfl, hd1, hs1, hn1, hz1⟩ HB.out)
  have GY := Lib.hid (show BG W0 (.agg #[.bool nb, .slice A2 m c2]) z2 N from BG.below ⟨nb, A2, m, c2, E, rfl, hd2, hs2, hn2, hz2⟩ HB.out)
  have HD1 := Lib.hid (hd1.below HB.out)
  have HD2 := Lib.hid (hd2.below HB.out)
  have HS1 := Lib.hid hs1
  have HS2 := Lib.hid hs2
  have hn1k : n ≤ 40000 := by omega
  clear hd1 hs1 hn1 hz1 hd2 hs2 hn2 hz2
  have K2_0 : W0.cell? ⟨w.heap.size, 0, none⟩ = some (.bool na) := K2.out.cell 0
  have K2_1 : W0.cell? ⟨w.heap.size, 1, none⟩ = some (.slice A n c) := K2.out.cell 1
  have K3_0 : W0.cell? ⟨w.heap.size + 1, 0, none⟩ = some (.bool nb) := K3.out.cell 0
  have K3_1 : W0.cell? ⟨w.heap.size + 1, 1, none⟩ = some (.slice A2 m c2) := K3.out.cell 1
  obtain ⟨s1, hs1⟩ : ∃ s, z1.sign = s := ⟨_, rfl⟩
  obtain ⟨s2, hs2⟩ : ∃ s, z2.sign = s := ⟨_, rfl⟩
  have q1 := sign_range z1
  have q2 := sign_range z2
  rw [hs1] at q1
  rw [hs2] at q2
  have HS1x := Lib.hid hs1
  have HS2x := Lib.hid hs2
  clear hs1 hs2
  have Q1 := Lib.hid q1
  have Q2 := Lib.hid q2
  clear q1 q2
  go_enter Try.func61, Try.ntmps61
  go_upto_region 1 with fail
  rw [← hW0]
  clear hW0
  have hy0 : Below W0.heap.size W0 W0.drew := below_drew (Below.refl _ _)
  refine wp_region_mix 4 (fun w' => Below W0.heap.size W0 w') (by kernel_rfl) (by decide) ?_
  generalize W0.drew = y0 at hy0 ⊢
  refine wpM_take (i := 0) (oi := ⟨some 7, _, _, _, _, _⟩) (v := ?_) rfl (by decide +kernel) (by decide +kernel) (by decide +kernel) (fun _ _ _ h => h) (Or.inl ⟨by rfl, ?_⟩) hy0 ?_
  case refine_2 =>
    intro w' hSw
    have K2_0' := keepcell hSw K2_0
    have K2_1' := keepcell hSw K2_1
    have K3_0' := keepcell hSw K3_0
    have K3_1' := keepcell hSw K3_1
    go_simp
    try (with_reducible rfl)
  try simp only [Act.put, List.setIfInBounds_toArray, List.set_cons_zero, List.set_cons_succ]
  refine wpM_take (i := 2) (oi := ⟨some 9, _, _, _, _, _⟩) (v := ?_) rfl (by decide +kernel) (by decide +kernel) (by decide +kernel) (fun _ _ _ h => h) (Or.inl ⟨by rfl, ?_⟩) hy0 ?_
  case refine_2 =>
    intro w' hSw
    have K2_0' := keepcell hSw K2_0
    have K2_1' := keepcell hSw K2_1
    have K3_0' := keepcell hSw K3_0
    have K3_1' := keepcell hSw K3_1
    go_simp
    try (with_reducible rfl)
  try simp only [Act.put, List.setIfInBounds_toArray, List.set_cons_zero, List.set_cons_succ]
  refine wpM_step (i := 1) (o := ⟨some 8, _, _, _, _, _⟩) rfl (by decide +kernel) (by decide) (fun K hK => ?_)
  go_simp
  refine (Sign_any _ z1 N y0 (GX.out.below hy0)).mono ?_
  rintro e y1 ⟨rfl, hc⟩
  have hy1 : Below W0.heap.size W0 y1 := hy0.trans (hc.mono hy0.size)
  rw [HS1x.out]
  clear hc
  refine hK.out _ _ hy1 ?_
  clear hK K
  try simp only [Act.put, List.setIfInBounds_toArray, List.set_cons_zero, List.set_cons_succ]
  refine wpM_step (i := 3) (o := ⟨some 10, _, _, _, _, _⟩) rfl (by decide +kernel) (by decide) (fun K hK => ?_)
  go_simp
  refine (Sign_any _ z2 N y1 (GY.out.below hy1)).mono ?_
  rintro e y2 ⟨rfl, hc⟩
  have hy2 : Below W0.heap.size W0 y2 := hy1.trans (hc.mono hy1.size)
  rw [HS2x.out]
  clear hc
  refine hK.out _ _ hy2 ?_
  clear hK K
  try simp only [Act.put, List.setIfInBounds_toArray, List.set_cons_zero, List.set_cons_succ]
  refine wpM_done (by decide +kernel) ?_
  simp only [List.drop_succ_cons, List.drop_zero]
  clear K2_0 K2_1 K3_0 K3_1
  replace K2 := Lib.hid (K2.out.below hy2)
  replace K3 := Lib.hid (K3.out.below hy2)
  replace GX := Lib.hid (GX.out.below hy2)
  replace GY := Lib.hid (GY.out.below hy2)
  replace HD1 := Lib.hid (HD1.out.below hy2)
  replace HD2 := Lib.hid (HD2.out.below hy2)
  replace HB := Lib.hid (HB.out.trans (hy2.mono HB.out.size))
  clear hy0 hy1 hy2
  rcases Int.lt_trichotomy s1 s2 with hlt | hlt | hlt
  · have HF := Lib.hid (show (-1 : Int) = r by rw [← HR.out, cmp_lt (by rw [HS1x.out, HS2x.out]; exact hlt)])
    have hne : (s1 == s2) = false := by simp; omega
    have hne2 : (s1 != s2) = true := by simp; omega
    go_wp2_with fail
    go_ret
    exact ⟨ret_int HF.out, HB.out⟩
  · subst hlt
    have hsc := scmp_range z1.natAbs z2.natAbs
    have HEQ := Lib.hid (show s1 * scmp z1.natAbs z2.natAbs = r by rw [← HR.out, ← HS1x.out]; exact cmp_eq (by rw [HS1x.out, HS2x.out]))
    obtain ⟨sc, hsc2⟩ : ∃ q, scmp z1.natAbs z2.natAbs = q := ⟨_, rfl⟩
    rw [hsc2] at hsc HEQ
    have HSC := Lib.hid hsc2
    have hwr : IntKind.i64.wrap (s1 * sc) = r := by
      have h1 := Q1.out
      rw [← HEQ.out]
      simp only [IntKind.wrap_i64]
      rcases h1 with e | e | e <;> rcases hsc with e2 | e2 | e2 <;> subst e <;> subst e2 <;> decide
    clear hsc hsc2
    have K2_0 : y2.cell? ⟨w.heap.size, 0, none⟩ = some (.bool na) := K2.out.cell 0
    have K2_1 : y2.cell? ⟨w.heap.size, 1, none⟩ = some (.slice A n c) := K2.out.cell 1
    have K3_0 : y2.cell? ⟨w.heap.size + 1, 0, none⟩ = some (.bool nb) := K3.out.cell 0
    have K3_1 : y2.cell? ⟨w.heap.size + 1, 1, none⟩ = some (.slice A2 m c2) := K3.out.cell 1
    go_upto_region 6 with fail
    have hx0 : Below y2.heap.size y2 y2.drew := below_drew (Below.refl _ _)
    refine wp_region_mix 9 (fun w' => Below y2.heap.size y2 w') (by kernel_rfl) (by decide) ?_
    generalize y2.drew = x0 at hx0 ⊢
    refine wpM_take (i := 0) (oi := ⟨some 17, _, _, _, _, _⟩) (v := ?_) rfl (by decide +kernel) (by decide +kernel) (by decide +kernel) (fun _ _ _ h => h) (Or.inl ⟨by rfl, ?_⟩) hx0 ?_
    case refine_2 =>
      intro w' hSw
      have K2_0' := keepcell hSw K2_0
      have K2_1' := keepcell hSw K2_1
      have K3_0' := keepcell hSw K3_0
      have K3_1' := keepcell hSw K3_1
      go_simp
      try (with_reducible rfl)
    try simp only [Act.put, List.setIfInBounds_toArray, List.set_cons_zero, List.set_cons_succ]
    refine wpM_take (i := 1) (oi := ⟨some 18, _, _, _, _, _⟩) (v := ?_) rfl (by decide +kernel) (by decide +kernel) (by decide +kernel) (fun _ _ _ h => h) (Or.inl ⟨by rfl, ?_⟩) hx0 ?_
    case refine_2 =>
      intro w' hSw
      have K2_0' := keepcell hSw K2_0
      have K2_1' := keepcell hSw K2_1
      have K3_0' := keepcell hSw K3_0
      have K3_1' := keepcell hSw K3_1
      go_simp
      try (with_reducible rfl)
    try simp only [Act.put, List.setIfInBounds_toArray, List.set_cons_zero, List.set_cons_succ]
    refine wpM_take (i := 2) (oi := ⟨some 19, _, _, _, _, _⟩) (v := ?_) rfl (by decide +kernel) (by decide +kernel) (by decide +kernel) (fun _ _ _ h => h) (Or.inl ⟨by rfl, ?_⟩) hx0 ?_
    case refine_2 =>
      intro w' hSw
      have K2_0' := keepcell hSw K2_0
      have K2_1' := keepcell hSw K2_1
      have K3_0' := keepcell hSw K3_0
      have K3_1' := keepcell hSw K3_1
      go_simp
      try (with_reducible rfl)
    try simp only [Act.put, List.setIfInBounds_toArray, List.set_cons_zero, List.set_cons_succ]
    refine wpM_take (i := 4) (oi := ⟨some 21, _, _, _, _, _⟩) (v := ?_) rfl (by decide +kernel) (by decide +kernel) (by decide +kernel) (fun _ _ _ h => h) (Or.inl ⟨by rfl, ?_⟩) hx0 ?_
    case refine_2 =>
      intro w' hSw
      have K2_0' := keepcell hSw K2_0
      have K2_1' := keepcell hSw K2_1
      have K3_0' := keepcell hSw K3_0
      have K3_1' := keepcell hSw K3_1
      go_simp
      try (with_reducible rfl)
    try simp only [Act.put, List.setIfInBounds_toArray, List.set_cons_zero, List.set_cons_succ]
    refine wpM_take (i := 5) (oi := ⟨some 22, _, _, _, _, _⟩) (v := ?_) rfl (by decide +kernel) (by decide +kernel) (by decide +kernel) (fun _ _ _ h => h) (Or.inl ⟨by rfl, ?_⟩) hx0 ?_
    case refine_2 =>
      intro w' hSw
      have K2_0' := keepcell hSw K2_0
      have K2_1' := keepcell hSw K2_1
      have K3_0' := keepcell hSw K3_0
      have K3_1' := keepcell hSw K3_1
      go_simp
      try (with_reducible rfl)
    try simp only [Act.put, List.setIfInBounds_toArray, List.set_cons_zero, List.set_cons_succ]
    refine wpM_step (i := 3) (o := ⟨some 20, _, _, _, _, _⟩) rfl (by decide +kernel) (by decide) (fun K hK => ?_)
    go_simp
    refine (trim_any A n c D x0 (HD1.out.below hx0) HS1.out).mono ?_
    rintro e y_ ⟨k1, rfl, ht1, hy⟩
    replace hy := hy.symm
    subst hy
    have HT1 := Lib.hid ht1
    clear ht1
    refine hK.out _ _ hx0 ?_
    clear hK K
    try simp only [Act.put, List.setIfInBounds_toArray, List.set_cons_zero, List.set_cons_succ]
    refine wpM_step (i := 6) (o := ⟨some 23, _, _, _, _, _⟩) rfl (by decide +kernel) (by decide) (fun K hK => ?_)
    go_simp
    refine (trim_any A2 m c2 E x0 (HD2.out.below hx0) HS2.out).mono ?_
    rintro e y_ ⟨k2, rfl, ht2, hy⟩
    replace hy := hy.symm
    subst hy
    have HT2 := Lib.hid ht2
    clear ht2
    refine hK.out _ _ hx0 ?_
    clear hK K
    try simp only [Act.put, List.setIfInBounds_toArray, List.set_cons_zero, List.set_cons_succ]
    refine wpM_step (i := 7) (o := ⟨some 24, _, _, _, _, _⟩) rfl (by decide +kernel) (by decide) (fun K hK => ?_)
    go_simp
    refine (compare_any A k1 c (D.take k1) A2 k2 c2 (E.take k2) x0 ((HD1.out.take (Nat.le_trans HT1.out.1 (Nat.le_of_eq HD1.out.1))).below hx0) ((HD2.out.take (Nat.le_trans HT2.out.1 (Nat.le_of_eq HD2.out.1))).below hx0) (by have := HT1.out.1; have := HD1.out.1; omega) (.inr ⟨HT1.out.nmz, HT2.out.nmz⟩)).mono ?_
    rintro e x1 ⟨rfl, hc⟩
    have hx1 : Below y2.heap.size y2 x1 := hx0.trans (hc.mono hx0.size)
    rw [HT1.out.dv, HT2.out.dv, show dv 4294967296 D = z1.natAbs by rw [HZ1.out, sgn_abs], show dv 4294967296 E = z2.natAbs by rw [HZ2.out, sgn_abs], HSC.out]
    clear hc
    refine hK.out _ _ hx1 ?_
    clear hK K
    try simp only [Act.put, List.setIfInBounds_toArray, List.set_cons_zero, List.set_cons_succ]
    refine wpM_take (i := 8) (oi := ⟨some 25, _, _, _, _, _⟩) (v := ?_) rfl (by decide +kernel) (by decide +kernel) (by decide +kernel) (fun _ _ _ h => h) (Or.inl ⟨by rfl, ?_⟩) hx1 ?_
    case refine_2 =>
      intro w' hSw
      have K2_0' := keepcell hSw K2_0
      have K2_1' := keepcell hSw K2_1
      have K3_0' := keepcell hSw K3_0
      have K3_1' := keepcell hSw K3_1
      go_simp
      try (with_reducible rfl)
    try simp only [Act.put, List.setIfInBounds_toArray, List.set_cons_zero, List.set_cons_succ]
    refine wpM_done (by decide +kernel) ?_
    simp only [List.drop_succ_cons, List.drop_zero]
    have HB9 := Lib.hid (HB.out.trans (hx1.mono HB.out.size))
    go_wp2_with fail
    go_ret
    exact ⟨rfl, HB9.out⟩
  · have HF := Lib.hid (show (1 : Int) = r by rw [← HR.out, cmp_gt (by rw [HS1x.out, HS2x.out]; exact hlt)])
    have hne : (s1 == s2) = false := by simp; omega
    have hne2 : (s1 != s2) = true := by simp; omega
    have hlt2 : ¬ s1 < s2 := by omega
    go_wp2_with fail
    go_ret
    exact ⟨ret_int HF.out, HB.out⟩

set_option maxRecDepth 100000 in
set_option maxHeartbeats 4000000 in
theorem ROf_any (a : Int) (w : World) (h0 : -9223372036854775808 ≤ a) (h1 : a ≤ 9223372036854775807) : Calls Try.prog 37 #[.int .i64 a] w fun e w' => ∃ v, e = .returned v ∧ NB w' w.heap.size v a 6 ∧ Below w.heap.size w w' := by
  obtain ⟨i0, hi, hz0, hz1, hz2⟩ := info_parts (show (Try.prog.info? 3).map (fun i => (i.zero, i.size, i.bytes)) = some (some (.int .i64 0), 1, 8) by kernel_rfl)
  obtain ⟨W0, hW0⟩ : ∃ V, V = w.alloc (.cells #[.bool false, .slice none 0 0] 37) := ⟨_, rfl⟩
  have HB := Lib.hid (show Below w.heap.size w W0 by rw [hW0]; exact (Below.refl _ w).alloc (Nat.le_refl _) _)
  have K4 := Lib.hid (show Blk W0 w.heap.size 37 #[.bool false, .slice none 0 0] by rw [hW0]; exact Blk.new _ _ _)
  have HG1 := Lib.hid (show W0.heap.size = w.heap.size + 1 by rw [hW0]; simp)
  obtain ⟨W1, hW1⟩ : ∃ V, V = W0.alloc (.cells #[] 3) := ⟨_, rfl⟩
  obtain ⟨B0, hB0⟩ : ∃ V, V = W0.heap.size := ⟨_, rfl⟩
  have HO1 := Lib.hid (show W1.ownsRow B0 3 1 (.slice (some ⟨w.heap.size + 1, 0, none⟩) 0 0) 0 (hcl []) by rw [hW1, hB0, ← HG1.out]; exact own_new (Nat.le_refl _))
  have HB1 := Lib.hid (show Below B0 W0 W1 by rw [hW1, hB0]; exact (Below.refl _ W0).alloc (Nat.le_refl _) _)
  have SZ1 := Lib.hid (show B0 ≤ W1.heap.size by rw [hW1, hB0]; simp)
  have HB0 := Lib.hid hB0
  have HWW := Lib.hid (show W1 = (w.alloc (.cells #[.bool false, .slice none 0 0] 37)).alloc (.cells #[] 3) by rw [hW1, hW0])
  clear hW0 hW1 hB0
  obtain ⟨u, hu⟩ : ∃ u : Nat, u = a.natAbs := ⟨_, rfl⟩
  have hub : u ≤ 9223372036854775808 := by omega
  have HU := Lib.hid hu
  have HUB := Lib.hid hub
  obtain ⟨sg, hsg⟩ : ∃ b, b = decide (a < 0) := ⟨_, rfl⟩
  have HSG := Lib.hid hsg
  have HZ := Lib.hid (show sgn sg u = a by
    rw [hsg, hu]
    unfold sgn
    by_cases h : a < 0
    · rw [if_pos (by simpa using h)]; omega
    · rw [if_neg (by simpa using h)]; omega)
  have HA0 := Lib.hid h0
  have HA1 := Lib.hid h1
  by_cases hlt : a < 0
  · have hlt2 : a < 0 := hlt
    obtain rfl : sg = true := by rw [hsg]; simpa using hlt
    have hq1 : (0 : Int) ≤ -(a + 1) := by omega
    have hq2 : -(a + 1) ≤ 9223372036854775807 := by omega
    have hq3 : -(a + 1) + 1 = (u : Int) := by omega
    have hd : decide (a < 0) = true := by simpa using hlt
    clear hu hub hsg
    go_enter Try.func37, Try.ntmps37
    go_wp2
    rw [← HWW.out]
    go_loopw [3, 4] (fun s3 s4 wr => ∃ (i x : Nat) (R : List Nat) (A5 : Option Addr) (c5 : Nat), s3 = .int .u64 (x : Int) ∧ s4 = .slice A5 i c5 ∧ i ≤ 4 ∧ x < 65536 ^ (4 - i) ∧ R.length = i ∧ dok 65536 R ∧ dv 65536 R + 65536 ^ i * x = u ∧ wr.ownsRow B0 3 1 (.slice A5 i c5) i (hcl R) ∧ Below B0 W0 wr ∧ B0 ≤ wr.heap.size) (fun s3 _ _ => (intOf s3).toNat)
    case atStart => exact ⟨0, u, [], _, _, rfl, rfl, by omega, by have := HUB.out; omega, rfl, dok_nil _, by simp [dv], HO1.out, HB1.out, SZ1.out⟩
    case round =>
      obtain ⟨i, x, R, A5, c5, rfl, rfl, hi4, hx, hRl, hRd, hinv, ho, hb, hsz⟩ := hrel
      have HX := Lib.hid hx
      have hxb : x ≤ 18446744073709551615 := by
        have : (65536 : Nat) ^ (4 - i) ≤ 65536 ^ 4 := Nat.pow_le_pow_right (by decide) (by omega)
        omega
      have HI := Lib.hid hinv
      have HR := Lib.hid hRd
      have HRL := Lib.hid hRl
      have HOW := Lib.hid ho
      have HBW := Lib.hid hb
      have SZ := Lib.hid hsz
      clear hinv hRd hRl ho hb hsz HO1 HB1 SZ1 hx
      have HBr := Lib.hid (show Below W0.heap.size W0 wr by have h := HBW.out; rw [HB0.out] at h; exact h)
      rcases Nat.eq_zero_or_pos x with hx0 | hx0
      · subst hx0
        have hgt : ¬ (0 : Int) < ((0 : Nat) : Int) := by omega
        have HDV := Lib.hid (show dv 65536 R = u by have := HI.out; omega)
        obtain ⟨A6, c6, e6, hg6, hs6⟩ := own_hg HOW.out HR.out
        injection e6 with eA _ ec
        subst eA
        subst ec
        have CB := Lib.hid (big_any true A5 i c5 R wr hg6 hs6 (by omega))
        rw [HDV.out, HZ.out] at CB
        clear hg6 hs6
        go_wp2_with fail
        refine CB.out.mono ?_
        rintro e w7 ⟨v7, rfl, hv, hc⟩
        have HV := Lib.hid (hv.mono (show w.heap.size ≤ _ from Nat.le_trans HB.out.size HBr.out.size) (show i + 1 ≤ 6 by omega))
        have HB9 := Lib.hid (HB.out.trans ((HBr.out.trans (hc.mono HBr.out.size)).mono HB.out.size))
        have K9 := Lib.hid ((K4.out.below HBr.out).below hc)
        clear hv hc CB
        obtain ⟨Ar, nr, cr, Dr, hevr, hor, hsr, hnr, hvr, hNr⟩ := HV.out
        obtain ⟨sbr, hsbr⟩ : ∃ b, b = decide (a < 0) := ⟨_, rfl⟩
        rw [← hsbr] at hevr
        subst hevr
        have HSBr := Lib.hid hsbr
        clear hsbr
        go_wp2_with ((refine wpList_store_row (o := ⟨none, _, _, _, _, _⟩) rfl 37 _ _ rfl (w.heap.size) #[.bool sbr, .slice Ar nr cr] rfl rfl 37 _ K9.out (by kernel_rfl) rfl (by simp [Value.oneCell']) ?_))
        refine bodyPost_ret (results_c1 rfl _ _ _ (w.heap.size) _ rfl (load24 (K9.out.setRow (ds := #[.bool sbr, .slice Ar nr cr])) rfl)) rfl ?_
        exact ⟨_, rfl, NB.row ⟨Ar, nr, cr, Dr, by rw [HSBr.out], hor, hsr, hnr, hvr, hNr⟩ K9.out _, HB9.out.grown (grown_row w7 (w.heap.size) _) HB9.out.size (fun j hj => by first | (injection hj with hj; omega) | omega | (cases hj; exact Nat.le_refl _))⟩
      · have hgt : (0 : Int) < (x : Int) := by omega
        have hgt2 : (x : Int) > 0 := by omega
        have hi3 : i < 4 := by
          rcases Nat.lt_or_ge i 4 with h | h
          · exact h
          · have h2 := HX.out
            rw [show 4 - i = 0 by omega] at h2
            omega
        obtain ⟨lo, hlo⟩ : ∃ lo, lo = x % 65536 := ⟨_, rfl⟩
        obtain ⟨q, hq⟩ : ∃ q, q = x / 65536 := ⟨_, rfl⟩
        have m1 : (x : Int) % 65536 = (lo : Int) := by omega
        have m1t : (x : Int).tmod 65536 = (lo : Int) := by rw [Int.tmod_eq_emod_of_nonneg (by omega)]; omega
        have m2 : (x : Int) / 65536 = (q : Int) := by omega
        have m2t : (x : Int).tdiv 65536 = (q : Int) := by rw [Int.tdiv_eq_ediv_of_nonneg (by omega)]; omega
        have hlo1 : lo < 65536 := by omega
        have hqx : q < x := by omega
        have HST := Lib.hid (show dv 65536 (R ++ [lo]) + 65536 ^ (i + 1) * q = u from by
          have h1 := snoc_carry (B := 65536) R i x 0 x u HRL.out rfl HI.out
          rw [hlo, hq]
          omega)
        have HQ := Lib.hid (show q < 65536 ^ (4 - (i + 1)) from by
          rw [hq]
          apply Nat.div_lt_of_lt_mul
          have h1 := HX.out
          rw [show 4 - i = 4 - (i + 1) + 1 by omega, Nat.pow_succ, Nat.mul_comm] at h1
          exact h1)
        have HDK := Lib.hid (show dok 65536 (R ++ [lo]) from dok_app.2 ⟨HR.out, fun y hy => by obtain rfl : y = lo := (by simpa using hy); omega⟩)
        have HRL2 := Lib.hid (show (R ++ [lo]).length = i + 1 by rw [List.length_append, HRL.out]; rfl)
        have HM := Lib.hid hqx
        have hqb : q ≤ 18446744073709551615 := by omega
        clear hlo hq hlo1 hqx
        obtain ⟨W3, hW3⟩ : ∃ V, V = wr.alloc (.cells #[.int .i64 ((lo : Nat) : Int)] 3) := ⟨_, rfl⟩
        have HO3 := Lib.hid (show W3.ownsRow B0 3 1 (.slice A5 i c5) i (hcl R) by rw [hW3]; exact HOW.out.alloc _)
        have HB3 := Lib.hid (show Below B0 _ W3 by rw [hW3]; exact HBW.out.alloc SZ.out _)
        have SZ3 := Lib.hid (show B0 ≤ W3.heap.size by rw [hW3]; have := SZ.out; simp; omega)
        have HN3 : Hid (Src Try.prog 1 88 (.slice (some ⟨wr.heap.size, 0, none⟩) 1 1) 1 [.int .i64 ((lo : Nat) : Int)] W3) := Lib.hid (src_blk (c := 1) Try.underlying88 rfl (by intro u hu; simp at hu; rcases hu with rfl | rfl <;> rfl) (show Blk W3 wr.heap.size 3 (List.toArray [.int .i64 ((lo : Nat) : Int)]) by rw [hW3]; exact Blk.new _ _ _))
        subst hW3
        go_wp2_with (at_builtin; go_loud (refine wpList_append_src _ rfl _ _ 88 88 rfl B0 3 i0 _ 1 8 Try.underlying88 hi hz0 hz1 hz2 rfl (.slice A5 i c5) i _ rfl HO3.out _ 1 _ rfl HN3.out ?c1 ?c2 SZ3.out ?_))
        case c1 => unfold maxLen; omega
        case c2 => omega
        intro v' w6 own' hg _
        have HOF := Lib.hid (show w6.ownsRow B0 3 1 v' (i + 1) (hcl (R ++ [lo])) by
          rw [show hcl (R ++ [lo]) = hcl R ++ [.int .i64 ((lo : Nat) : Int)] by simp [hcl]]
          exact own')
        have HBF := Lib.hid (show Below B0 _ w6 from HB3.out.grown hg SZ3.out (fun j hj => (HO3.out.lt j hj).1))
        obtain ⟨A6, a6, rfl, -⟩ := At.of_own own'
        have SZ6 := Lib.hid (Nat.le_trans SZ3.out hg.size)
        clear own' hg HO3 HB3 HN3 SZ3
        go_wp2
        go_roundw
        case rel => exact ⟨i + 1, q, R ++ [lo], A6, a6, by first | rfl | go_num, rfl, by omega, HQ.out, HRL2.out, HDK.out, HST.out, HOF.out, HBF.out, SZ6.out⟩
        case measure => simp only [intOf]; have := HM.out; omega
  · have hlt2 : ¬ a < 0 := by omega
    obtain rfl : sg = false := by rw [hsg]; simp; omega
    have ha : a = (u : Int) := by omega
    subst ha
    have hd : decide ((u : Int) < 0) = false := by simp
    clear hu hub hsg
    go_enter Try.func37, Try.ntmps37
    go_wp2
    rw [← HWW.out]
    go_loopw [3, 4] (fun s3 s4 wr => ∃ (i x : Nat) (R : List Nat) (A5 : Option Addr) (c5 : Nat), s3 = .int .u64 (x : Int) ∧ s4 = .slice A5 i c5 ∧ i ≤ 4 ∧ x < 65536 ^ (4 - i) ∧ R.length = i ∧ dok 65536 R ∧ dv 65536 R + 65536 ^ i * x = u ∧ wr.ownsRow B0 3 1 (.slice A5 i c5) i (hcl R) ∧ Below B0 W0 wr ∧ B0 ≤ wr.heap.size) (fun s3 _ _ => (intOf s3).toNat)
    case atStart => exact ⟨0, u, [], _, _, rfl, rfl, by omega, by have := HUB.out; omega, rfl, dok_nil _, by simp [dv], HO1.out, HB1.out, SZ1.out⟩
    case round =>
      obtain ⟨i, x, R, A5, c5, rfl, rfl, hi4, hx, hRl, hRd, hinv, ho, hb, hsz⟩ := hrel
      have HX := Lib.hid hx
      have hxb : x ≤ 18446744073709551615 := by
        have : (65536 : Nat) ^ (4 - i) ≤ 65536 ^ 4 := Nat.pow_le_pow_right (by decide) (by omega)
        omega
      have HI := Lib.hid hinv
      have HR := Lib.hid hRd
      have HRL := Lib.hid hRl
      have HOW := Lib.hid ho
      have HBW := Lib.hid hb
      have SZ := Lib.hid hsz
      clear hinv hRd hRl ho hb hsz HO1 HB1 SZ1 hx
      have HBr := Lib.hid (show Below W0.heap.size W0 wr by have h := HBW.out; rw [HB0.out] at h; exact h)
      rcases Nat.eq_zero_or_pos x with hx0 | hx0
      · subst hx0
        have hgt : ¬ (0 : Int) < ((0 : Nat) : Int) := by omega
        have HDV := Lib.hid (show dv 65536 R = u by have := HI.out; omega)
        obtain ⟨A6, c6, e6, hg6, hs6⟩ := own_hg HOW.out HR.out
        injection e6 with eA _ ec
        subst eA
        subst ec
        have CB := Lib.hid (big_any false A5 i c5 R wr hg6 hs6 (by omega))
        rw [HDV.out, HZ.out] at CB
        clear hg6 hs6
        go_wp2_with fail
        refine CB.out.mono ?_
        rintro e w7 ⟨v7, rfl, hv, hc⟩
        have HV := Lib.hid (hv.mono (show w.heap.size ≤ _ from Nat.le_trans HB.out.size HBr.out.size) (show i + 1 ≤ 6 by omega))
        have HB9 := Lib.hid (HB.out.trans ((HBr.out.trans (hc.mono HBr.out.size)).mono HB.out.size))
        have K9 := Lib.hid ((K4.out.below HBr.out).below hc)
        clear hv hc CB
        obtain ⟨Ar, nr, cr, Dr, hevr, hor, hsr, hnr, hvr, hNr⟩ := HV.out
        obtain ⟨sbr, hsbr⟩ : ∃ b, b = decide ((u : Int) < 0) := ⟨_, rfl⟩
        rw [← hsbr] at hevr
        subst hevr
        have HSBr := Lib.hid hsbr
        clear hsbr
        go_wp2_with ((refine wpList_store_row (o := ⟨none, _, _, _, _, _⟩) rfl 37 _ _ rfl (w.heap.size) #[.bool sbr, .slice Ar nr cr] rfl rfl 37 _ K9.out (by kernel_rfl) rfl (by simp [Value.oneCell']) ?_))
        refine bodyPost_ret (results_c1 rfl _ _ _ (w.heap.size) _ rfl (load24 (K9.out.setRow (ds := #[.bool sbr, .slice Ar nr cr])) rfl)) rfl ?_
        exact ⟨_, rfl, NB.row ⟨Ar, nr, cr, Dr, by rw [HSBr.out], hor, hsr, hnr, hvr, hNr⟩ K9.out _, HB9.out.grown (grown_row w7 (w.heap.size) _) HB9.out.size (fun j hj => by first | (injection hj with hj; omega) | omega | (cases hj; exact Nat.le_refl _))⟩
      · have hgt : (0 : Int) < (x : Int) := by omega
        have hgt2 : (x : Int) > 0 := by omega
        have hi3 : i < 4 := by
          rcases Nat.lt_or_ge i 4 with h | h
          · exact h
          · have h2 := HX.out
            rw [show 4 - i = 0 by omega] at h2
            omega
        obtain ⟨lo, hlo⟩ : ∃ lo, lo = x % 65536 := ⟨_, rfl⟩
        obtain ⟨q, hq⟩ : ∃ q, q = x / 65536 := ⟨_, rfl⟩
        have m1 : (x : Int) % 65536 = (lo : Int) := by omega
        have m1t : (x : Int).tmod 65536 = (lo : Int) := by rw [Int.tmod_eq_emod_of_nonneg (by omega)]; omega
        have m2 : (x : Int) / 65536 = (q : Int) := by omega
        have m2t : (x : Int).tdiv 65536 = (q : Int) := by rw [Int.tdiv_eq_ediv_of_nonneg (by omega)]; omega
        have hlo1 : lo < 65536 := by omega
        have hqx : q < x := by omega
        have HST := Lib.hid (show dv 65536 (R ++ [lo]) + 65536 ^ (i + 1) * q = u from by
          have h1 := snoc_carry (B := 65536) R i x 0 x u HRL.out rfl HI.out
          rw [hlo, hq]
          omega)
        have HQ := Lib.hid (show q < 65536 ^ (4 - (i + 1)) from by
          rw [hq]
          apply Nat.div_lt_of_lt_mul
          have h1 := HX.out
          rw [show 4 - i = 4 - (i + 1) + 1 by omega, Nat.pow_succ, Nat.mul_comm] at h1
          exact h1)
        have HDK := Lib.hid (show dok 65536 (R ++ [lo]) from dok_app.2 ⟨HR.out, fun y hy => by obtain rfl : y = lo := (by simpa using hy); omega⟩)
        have HRL2 := Lib.hid (show (R ++ [lo]).length = i + 1 by rw [List.length_append, HRL.out]; rfl)
        have HM := Lib.hid hqx
        have hqb : q ≤ 18446744073709551615 := by omega
        clear hlo hq hlo1 hqx
        obtain ⟨W3, hW3⟩ : ∃ V, V = wr.alloc (.cells #[.int .i64 ((lo : Nat) : Int)] 3) := ⟨_, rfl⟩
        have HO3 := Lib.hid (show W3.ownsRow B0 3 1 (.slice A5 i c5) i (hcl R) by rw [hW3]; exact HOW.out.alloc _)
        have HB3 := Lib.hid (show Below B0 _ W3 by rw [hW3]; exact HBW.out.alloc SZ.out _)
        have SZ3 := Lib.hid (show B0 ≤ W3.heap.size by rw [hW3]; have := SZ.out; simp; omega)
        have HN3 : Hid (Src Try.prog 1 88 (.slice (some ⟨wr.heap.size, 0, none⟩) 1 1) 1 [.int .i64 ((lo : Nat) : Int)] W3) := Lib.hid (src_blk (c := 1) Try.underlying88 rfl (by intro u hu; simp at hu; rcases hu with rfl | rfl <;> rfl) (show Blk W3 wr.heap.size 3 (List.toArray [.int .i64 ((lo : Nat) : Int)]) by rw [hW3]; exact Blk.new _ _ _))
        subst hW3
        go_wp2_with (at_builtin; go_loud (refine wpList_append_src _ rfl _ _ 88 88 rfl B0 3 i0 _ 1 8 Try.underlying88 hi hz0 hz1 hz2 rfl (.slice A5 i c5) i _ rfl HO3.out _ 1 _ rfl HN3.out ?c1 ?c2 SZ3.out ?_))
        case c1 => unfold maxLen; omega
        case c2 => omega
        intro v' w6 own' hg _
        have HOF := Lib.hid (show w6.ownsRow B0 3 1 v' (i + 1) (hcl (R ++ [lo])) by
          rw [show hcl (R ++ [lo]) = hcl R ++ [.int .i64 ((lo : Nat) : Int)] by simp [hcl]]
          exact own')
        have HBF := Lib.hid (show Below B0 _ w6 from HB3.out.grown hg SZ3.out (fun j hj => (HO3.out.lt j hj).1))
        obtain ⟨A6, a6, rfl, -⟩ := At.of_own own'
        have SZ6 := Lib.hid (Nat.le_trans SZ3.out hg.size)
        clear own' hg HO3 HB3 HN3 SZ3
        go_wp2
        go_roundw
        case rel => exact ⟨i + 1, q, R ++ [lo], A6, a6, by first | rfl | go_num, rfl, by omega, HQ.out, HRL2.out, HDK.out, HST.out, HOF.out, HBF.out, SZ6.out⟩
        case measure => simp only [intOf]; have := HM.out; omega

def f6 (z : Int) : Bool := decide (-9223372036854775808 ≤ z) && decide (z ≤ 9223372036854775807)
def i6 (z : Int) : Int := if f6 z = true then z else 0
theorem or32b (r d : Nat) (hr : r < 4294967296) (hd : d < 4294967296) : bits BinOp.or IntKind.u64 (d : Int) ((r : Int) * 4294967296) = ((r * 4294967296 + d : Nat) : Int) := by
  rw [bits_join_low .u64 64 (by decide) wraps_u64 32 _ _ (by omega) (by omega) (by omega) (by omega) (by omega) (by omega)]
  omega
theorem f6_yes {z : Int} (h : -9223372036854775808 ≤ z) (h2 : z ≤ 9223372036854775807) : f6 z = true ∧ i6 z = z := by
  have : f6 z = true := by simp [f6, h, h2]
  exact ⟨this, if_pos this⟩
theorem f6_no {z : Int} (h : ¬ (-9223372036854775808 ≤ z ∧ z ≤ 9223372036854775807)) : f6 z = false ∧ i6 z = 0 := by
  have : f6 z = false := by
    simp only [f6, Bool.and_eq_false_iff, decide_eq_false_iff_not]
    omega
  exact ⟨this, if_neg (by rw [this]; decide)⟩
theorem dv_drop_le (B : Nat) (l : List Nat) (j : Nat) (hB : 0 < B) : dv B (l.drop j) ≤ dv B l := by
  rw [dv_split B l j]
  have : 1 * dv B (l.drop j) ≤ B ^ min j l.length * dv B (l.drop j) := Nat.mul_le_mul_right _ (Nat.one_le_pow _ _ hB)
  omega
theorem cmpZ_neg {a b : Int} (h : a < b) : cmpZ a b = -1 := by unfold cmpZ; rw [if_pos h]
theorem cmpZ_nn {a b : Int} (h : ¬ a < b) : ¬ cmpZ a b < 0 := by unfold cmpZ; rw [if_neg h]; split <;> omega
theorem cmpZ_pos {a b : Int} (h : b < a) : cmpZ a b = 1 := by unfold cmpZ; rw [if_neg (by omega), if_pos h]
theorem cmpZ_np {a b : Int} (h : ¬ b < a) : ¬ 0 < cmpZ a b := by unfold cmpZ; split <;> first | omega | (rw [if_neg h]; omega)
end Go.Proofs.Ythfolccofjaknaa
