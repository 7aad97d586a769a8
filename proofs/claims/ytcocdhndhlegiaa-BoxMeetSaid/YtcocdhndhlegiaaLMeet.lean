/- Law BoxMeet: for every input the call returns true, and its arguments read afterwards as before. -/
import Derived.Test.YtcocdhndhlegiaaAwk
import Derived.Test.YtcocdhndhlegiaaOpn
import Derived.Test.YtcocdhndhlegiaaChn
import Derived.Test.YtcocdhndhlegiaaSrg
import Derived.Test.YtcocdhndhlegiaaSpu
namespace Go.Proofs.Ytcocdhndhlegiaa
open Go.ChangeShapes Go.WideShapes Go.ChangeAt Go.RowKit Go.ChangeMaps

set_option maxRecDepth 100000 in
set_option maxHeartbeats 4000000 in
theorem boxMeet_walk (t0 : Int) (A0 : Option Addr) (n0 c0 : Nat) (R0 : List Sd) (t1 : Int) (A1 : Option Addr) (n1 c1 : Nat) (R1 : List Sd) (w : World) (h0 : Sds w A0 n0 R0 ∧ n0 ≤ c0 ∧ c0 ≤ 9223372036854775807 ∧ ∀ x ∈ R0, x.in) (h1 : Sds w A1 n1 R1 ∧ n1 ≤ c1 ∧ c1 ≤ 9223372036854775807 ∧ ∀ x ∈ R1, x.in) : Calls Try.prog 4 #[.agg #[.int .i64 t0, .slice A0 n0 c0], .agg #[.int .i64 t1, .slice A1 n1 c1]] w fun e w' => e = .returned (.bool true) ∧ Below w.heap.size w w' := by
  obtain ⟨mb, hmb⟩ : ∃ x, meetB t0 t1 R0 R1 = x := ⟨_, rfl⟩
  have hmb2 : meetB t1 t0 R1 R0 = mb := by rw [meetB_symm]; exact hmb
  have HM := Lib.hid (fun W X Y x y (hX : Sds W X n0 R0) (hY : Sds W Y n1 R1) (h0 : n0 ≤ 1000) (h1 : n1 ≤ 1000) => Meet_any t0 t1 X n0 x R0 Y n1 y R1 W hX hY h0 h1)
  have HM2 := Lib.hid (fun W X Y x y (hX : Sds W X n1 R1) (hY : Sds W Y n0 R0) (h0 : n0 ≤ 1000) (h1 : n1 ≤ 1000) => Meet_any t1 t0 X n1 x R1 Y n0 y R0 W hX hY h1 h0)
  have HR := Lib.hid (fun W X Y x y (hX : Sds W X n0 R0) (hY : Sds W Y n1 R1) (h0 : n0 ≤ 1000) (h1 : n1 ≤ 1000) => RMeet_any t0 t1 X n0 x R0 Y n1 y R1 W hX hY h0 h1)
  simp only [hmb] at HM HR
  simp only [hmb2] at HM2
  clear hmb hmb2
  have L0 := Lib.hid h0.1.len
  have L1 := Lib.hid h1.1.len
  obtain ⟨h0, p0, q0, r0⟩ := h0
  obtain ⟨o0, ho0⟩ : ∃ x, boxOk R0 = x := ⟨_, rfl⟩
  have HO0 := Lib.hid ho0
  have C0 := Lib.hid (fun W (hW : Below w.heap.size w W) => Right_any t0 A0 n0 c0 R0 W (h0.below hW) (by omega) (fun x hx => by have := r0 x hx; unfold Sd.in at this; omega))
  simp only [ho0] at C0
  have H0 := Lib.hid (fun W (hW : Below w.heap.size w W) => h0.below hW)
  clear h0 p0 q0 r0 ho0
  obtain ⟨h1, p1, q1, r1⟩ := h1
  obtain ⟨o1, ho1⟩ : ∃ x, boxOk R1 = x := ⟨_, rfl⟩
  have HO1 := Lib.hid ho1
  have C1 := Lib.hid (fun W (hW : Below w.heap.size w W) => Right_any t1 A1 n1 c1 R1 W (h1.below hW) (by omega) (fun x hx => by have := r1 x hx; unfold Sd.in at this; omega))
  simp only [ho1] at C1
  have H1 := Lib.hid (fun W (hW : Below w.heap.size w W) => h1.below hW)
  clear h1 p1 q1 r1 ho1
  obtain ⟨w0, hw0⟩ : ∃ W, W = ((w.alloc (.cells #[.int .i64 t0, .slice A0 n0 c0] 24)).alloc (.cells #[.int .i64 t1, .slice A1 n1 c1] 24)) := ⟨_, rfl⟩
  have HB := Lib.hid (show Below w.heap.size w w0 by rw [hw0]; exact (((Below.refl _ w).alloc (Nat.le_refl _) _).alloc (by simp) _))
  have K0 := Lib.hid (show Blk w0 (w.heap.size + 0) 24 #[.int .i64 t0, .slice A0 n0 c0] by rw [hw0]; exact (Blk.new_ (by simp) rfl : Blk (w.alloc _) _ _ _).alloc _)
  have K1 := Lib.hid (show Blk w0 (w.heap.size + 1) 24 #[.int .i64 t1, .slice A1 n1 c1] by rw [hw0]; exact Blk.new_ (by simp) rfl)
  go_enter Try.func4, Try.ntmps4
  go_wp2_with fail
  rw [← hw0]
  clear hw0
  refine (awake_any _).mono ?_
  rintro e x1 ⟨rfl, hb⟩
  replace HB := Lib.hid (HB.out.trans (hb.mono HB.out.size))
  replace K0 := Lib.hid (K0.out.below hb)
  replace K1 := Lib.hid (K1.out.below hb)
  clear hb
  have c0_0 : x1.cell? ⟨w.heap.size, 0, none⟩ = some (.int .i64 t0) := K0.out.cell 0
  have c0_1 : x1.cell? ⟨w.heap.size, 1, none⟩ = some (.slice A0 n0 c0) := K0.out.cell 1
  have c1_0 : x1.cell? ⟨w.heap.size + 1, 0, none⟩ = some (.int .i64 t1) := K1.out.cell 0
  have c1_1 : x1.cell? ⟨w.heap.size + 1, 1, none⟩ = some (.slice A1 n1 c1) := K1.out.cell 1
  go_wp2_with fail
  clear c0_0 c0_1 c1_0 c1_1
  refine (C0.out _ HB.out).mono ?_
  rintro e x2 ⟨rfl, hb⟩
  replace HB := Lib.hid (HB.out.trans (hb.mono HB.out.size))
  replace K0 := Lib.hid (K0.out.below hb)
  replace K1 := Lib.hid (K1.out.below hb)
  clear hb
  cases o0
  · go_wp2_with fail
    refine (awake_any _).mono ?_
    rintro e y1 ⟨rfl, hb⟩
    replace HB := Lib.hid (HB.out.trans (hb.mono HB.out.size))
    clear hb
    go_wp2
    go_ret
    exact ⟨rfl, HB.out⟩
  have c0_0 : x2.cell? ⟨w.heap.size, 0, none⟩ = some (.int .i64 t0) := K0.out.cell 0
  have c0_1 : x2.cell? ⟨w.heap.size, 1, none⟩ = some (.slice A0 n0 c0) := K0.out.cell 1
  have c1_0 : x2.cell? ⟨w.heap.size + 1, 0, none⟩ = some (.int .i64 t1) := K1.out.cell 0
  have c1_1 : x2.cell? ⟨w.heap.size + 1, 1, none⟩ = some (.slice A1 n1 c1) := K1.out.cell 1
  go_wp2_with fail
  clear c0_0 c0_1 c1_0 c1_1
  refine (C1.out _ HB.out).mono ?_
  rintro e x3 ⟨rfl, hb⟩
  replace HB := Lib.hid (HB.out.trans (hb.mono HB.out.size))
  replace K0 := Lib.hid (K0.out.below hb)
  replace K1 := Lib.hid (K1.out.below hb)
  clear hb
  cases o1
  · go_wp2_with fail
    refine (awake_any _).mono ?_
    rintro e y1 ⟨rfl, hb⟩
    replace HB := Lib.hid (HB.out.trans (hb.mono HB.out.size))
    clear hb
    go_wp2
    go_ret
    exact ⟨rfl, HB.out⟩
  have c0_0 : x3.cell? ⟨w.heap.size, 0, none⟩ = some (.int .i64 t0) := K0.out.cell 0
  have c0_1 : x3.cell? ⟨w.heap.size, 1, none⟩ = some (.slice A0 n0 c0) := K0.out.cell 1
  have c1_0 : x3.cell? ⟨w.heap.size + 1, 0, none⟩ = some (.int .i64 t1) := K1.out.cell 0
  have c1_1 : x3.cell? ⟨w.heap.size + 1, 1, none⟩ = some (.slice A1 n1 c1) := K1.out.cell 1
  go_wp2_with fail
  have hn0 : n0 ≤ 1000 := by have := boxOk_len HO0.out; have := L0.out; omega
  have hn1 : n1 ≤ 1000 := by have := boxOk_len HO1.out; have := L1.out; omega
  have hb : Below x3.heap.size x3 x3.drew := below_drew (Below.refl _ _)
  refine wp_region_mix 20 (fun w' => Below x3.heap.size x3 w') (by kernel_rfl) (by decide) ?_
  generalize x3.drew = y0 at hb ⊢
  refine wpM_take (i := 0) (oi := ⟨some 18, _, _, _, _, _⟩) (v := ?_) rfl (by decide +kernel) (by decide +kernel) (by decide +kernel) (fun _ _ _ h => h) (Or.inl ⟨by rfl, ?_⟩) hb ?_
  case refine_2 =>
    intro w' hSw
    have c0_0' := keepcell hSw c0_0
    have c0_1' := keepcell hSw c0_1
    have c1_0' := keepcell hSw c1_0
    have c1_1' := keepcell hSw c1_1
    go_simp
    try (with_reducible rfl)
  try simp only [Act.put, List.setIfInBounds_toArray, List.set_cons_zero, List.set_cons_succ]
  refine wpM_take (i := 2) (oi := ⟨some 20, _, _, _, _, _⟩) (v := ?_) rfl (by decide +kernel) (by decide +kernel) (by decide +kernel) (fun _ _ _ h => h) (Or.inl ⟨by rfl, ?_⟩) hb ?_
  case refine_2 =>
    intro w' hSw
    have c0_0' := keepcell hSw c0_0
    have c0_1' := keepcell hSw c0_1
    have c1_0' := keepcell hSw c1_0
    have c1_1' := keepcell hSw c1_1
    go_simp
    try (with_reducible rfl)
  try simp only [Act.put, List.setIfInBounds_toArray, List.set_cons_zero, List.set_cons_succ]
  refine wpM_take (i := 5) (oi := ⟨some 23, _, _, _, _, _⟩) (v := ?_) rfl (by decide +kernel) (by decide +kernel) (by decide +kernel) (fun _ _ _ h => h) (Or.inl ⟨by rfl, ?_⟩) hb ?_
  case refine_2 =>
    intro w' hSw
    have c0_0' := keepcell hSw c0_0
    have c0_1' := keepcell hSw c0_1
    have c1_0' := keepcell hSw c1_0
    have c1_1' := keepcell hSw c1_1
    go_simp
    try (with_reducible rfl)
  try simp only [Act.put, List.setIfInBounds_toArray, List.set_cons_zero, List.set_cons_succ]
  refine wpM_take (i := 6) (oi := ⟨some 24, _, _, _, _, _⟩) (v := ?_) rfl (by decide +kernel) (by decide +kernel) (by decide +kernel) (fun _ _ _ h => h) (Or.inl ⟨by rfl, ?_⟩) hb ?_
  case refine_2 =>
    intro w' hSw
    have c0_0' := keepcell hSw c0_0
    have c0_1' := keepcell hSw c0_1
    have c1_0' := keepcell hSw c1_0
    have c1_1' := keepcell hSw c1_1
    go_simp
    try (with_reducible rfl)
  try simp only [Act.put, List.setIfInBounds_toArray, List.set_cons_zero, List.set_cons_succ]
  refine wpM_step (i := 1) (o := ⟨some 19, _, _, _, _, _⟩) rfl (by decide +kernel) (by decide) (fun K hK => ?_)
  go_simp
  refine (own_any t0 A0 n0 c0 R0 y0 (H0.out _ (HB.out.trans (hb.mono HB.out.size))) hn0).mono ?_
  rintro e y1 ⟨D1, d1, rfl, S1, h1y⟩
  have b1y : Below x3.heap.size x3 y1 := hb.trans (h1y.mono hb.size)
  clear h1y
  refine hK.out _ _ b1y ?_
  clear hK K
  try simp only [Act.put, List.setIfInBounds_toArray, List.set_cons_zero, List.set_cons_succ]
  refine wpM_step (i := 3) (o := ⟨some 21, _, _, _, _, _⟩) rfl (by decide +kernel) (by decide) (fun K hK => ?_)
  go_simp
  refine (own_any t1 A1 n1 c1 R1 y1 (H1.out _ (HB.out.trans (b1y.mono HB.out.size))) hn1).mono ?_
  rintro e y2 ⟨D2, d2, rfl, S2, h2y⟩
  have b2y : Below x3.heap.size x3 y2 := b1y.trans (h2y.mono b1y.size)
  have S1 := S1.below h2y
  clear h2y
  refine hK.out _ _ b2y ?_
  clear hK K
  try simp only [Act.put, List.setIfInBounds_toArray, List.set_cons_zero, List.set_cons_succ]
  refine wpM_step (i := 4) (o := ⟨some 22, _, _, _, _, _⟩) rfl (by decide +kernel) (by decide) (fun K hK => ?_)
  go_simp
  refine (HM.out y2 _ _ _ _ S1 S2 hn0 hn1).mono ?_
  rintro e y3 ⟨rfl, h3y⟩
  have b3y : Below x3.heap.size x3 y3 := b2y.trans (h3y.mono b2y.size)
  clear h3y
  refine hK.out _ _ b3y ?_
  clear hK K
  try simp only [Act.put, List.setIfInBounds_toArray, List.set_cons_zero, List.set_cons_succ]
  refine wpM_step (i := 7) (o := ⟨some 25, _, _, _, _, _⟩) rfl (by decide +kernel) (by decide) (fun K hK => ?_)
  go_simp
  refine (HR.out y3 _ _ _ _ (H0.out _ (HB.out.trans (b3y.mono HB.out.size))) (H1.out _ (HB.out.trans (b3y.mono HB.out.size))) hn0 hn1).mono ?_
  rintro e y4 ⟨rfl, h4y⟩
  have b4y : Below x3.heap.size x3 y4 := b3y.trans (h4y.mono b3y.size)
  clear h4y
  refine hK.out _ _ b4y ?_
  clear hK K
  try simp only [Act.put, List.setIfInBounds_toArray, List.set_cons_zero, List.set_cons_succ]
  refine wpM_take (i := 8) (oi := ⟨some 26, _, _, _, _, _⟩) (v := ?_) rfl (by decide +kernel) (by decide +kernel) (by decide +kernel) (fun _ _ _ h => h) (Or.inl ⟨by rfl, ?_⟩) b4y ?_
  case refine_2 =>
    intro w' hSw
    have c0_0' := keepcell hSw c0_0
    have c0_1' := keepcell hSw c0_1
    have c1_0' := keepcell hSw c1_0
    have c1_1' := keepcell hSw c1_1
    go_simp
    try (with_reducible rfl)
  try simp only [Act.put, List.setIfInBounds_toArray, List.set_cons_zero, List.set_cons_succ]
  try simp only [beq_self_eq_true]
  refine wpM_take (i := 9) (oi := ⟨some 27, _, _, _, _, _⟩) (v := ?_) rfl (by decide +kernel) (by decide +kernel) (by decide +kernel) (fun _ _ _ h => h) (Or.inl ⟨by rfl, ?_⟩) b4y ?_
  case refine_2 =>
    intro w' hSw
    have c0_0' := keepcell hSw c0_0
    have c0_1' := keepcell hSw c0_1
    have c1_0' := keepcell hSw c1_0
    have c1_1' := keepcell hSw c1_1
    go_simp
    try (with_reducible rfl)
  try simp only [Act.put, List.setIfInBounds_toArray, List.set_cons_zero, List.set_cons_succ]
  refine wpM_take (i := 10) (oi := ⟨some 28, _, _, _, _, _⟩) (v := ?_) rfl (by decide +kernel) (by decide +kernel) (by decide +kernel) (fun _ _ _ h => h) (Or.inl ⟨by rfl, ?_⟩) b4y ?_
  case refine_2 =>
    intro w' hSw
    have c0_0' := keepcell hSw c0_0
    have c0_1' := keepcell hSw c0_1
    have c1_0' := keepcell hSw c1_0
    have c1_1' := keepcell hSw c1_1
    go_simp
    try (with_reducible rfl)
  try simp only [Act.put, List.setIfInBounds_toArray, List.set_cons_zero, List.set_cons_succ]
  refine wpM_take (i := 12) (oi := ⟨some 30, _, _, _, _, _⟩) (v := ?_) rfl (by decide +kernel) (by decide +kernel) (by decide +kernel) (fun _ _ _ h => h) (Or.inl ⟨by rfl, ?_⟩) b4y ?_
  case refine_2 =>
    intro w' hSw
    have c0_0' := keepcell hSw c0_0
    have c0_1' := keepcell hSw c0_1
    have c1_0' := keepcell hSw c1_0
    have c1_1' := keepcell hSw c1_1
    go_simp
    try (with_reducible rfl)
  try simp only [Act.put, List.setIfInBounds_toArray, List.set_cons_zero, List.set_cons_succ]
  refine wpM_take (i := 15) (oi := ⟨some 33, _, _, _, _, _⟩) (v := ?_) rfl (by decide +kernel) (by decide +kernel) (by decide +kernel) (fun _ _ _ h => h) (Or.inl ⟨by rfl, ?_⟩) b4y ?_
  case refine_2 =>
    intro w' hSw
    have c0_0' := keepcell hSw c0_0
    have c0_1' := keepcell hSw c0_1
    have c1_0' := keepcell hSw c1_0
    have c1_1' := keepcell hSw c1_1
    go_simp
    try (with_reducible rfl)
  try simp only [Act.put, List.setIfInBounds_toArray, List.set_cons_zero, List.set_cons_succ]
  refine wpM_take (i := 16) (oi := ⟨some 34, _, _, _, _, _⟩) (v := ?_) rfl (by decide +kernel) (by decide +kernel) (by decide +kernel) (fun _ _ _ h => h) (Or.inl ⟨by rfl, ?_⟩) b4y ?_
  case refine_2 =>
    intro w' hSw
    have c0_0' := keepcell hSw c0_0
    have c0_1' := keepcell hSw c0_1
    have c1_0' := keepcell hSw c1_0
    have c1_1' := keepcell hSw c1_1
    go_simp
    try (with_reducible rfl)
  try simp only [Act.put, List.setIfInBounds_toArray, List.set_cons_zero, List.set_cons_succ]
  refine wpM_step (i := 11) (o := ⟨some 29, _, _, _, _, _⟩) rfl (by decide +kernel) (by decide) (fun K hK => ?_)
  go_simp
  refine (own_any t1 A1 n1 c1 R1 y4 (H1.out _ (HB.out.trans (b4y.mono HB.out.size))) hn1).mono ?_
  rintro e y5 ⟨D3, d3, rfl, S3, h5y⟩
  have b5y : Below x3.heap.size x3 y5 := b4y.trans (h5y.mono b4y.size)
  clear h5y
  refine hK.out _ _ b5y ?_
  clear hK K
  try simp only [Act.put, List.setIfInBounds_toArray, List.set_cons_zero, List.set_cons_succ]
  refine wpM_step (i := 13) (o := ⟨some 31, _, _, _, _, _⟩) rfl (by decide +kernel) (by decide) (fun K hK => ?_)
  go_simp
  refine (own_any t0 A0 n0 c0 R0 y5 (H0.out _ (HB.out.trans (b5y.mono HB.out.size))) hn0).mono ?_
  rintro e y6 ⟨D4, d4, rfl, S4, h6y⟩
  have b6y : Below x3.heap.size x3 y6 := b5y.trans (h6y.mono b5y.size)
  have S3 := S3.below h6y
  clear h6y
  refine hK.out _ _ b6y ?_
  clear hK K
  try simp only [Act.put, List.setIfInBounds_toArray, List.set_cons_zero, List.set_cons_succ]
  refine wpM_step (i := 14) (o := ⟨some 32, _, _, _, _, _⟩) rfl (by decide +kernel) (by decide) (fun K hK => ?_)
  go_simp
  refine (HM2.out y6 _ _ _ _ S3 S4 hn0 hn1).mono ?_
  rintro e y7 ⟨rfl, h7y⟩
  have b7y : Below x3.heap.size x3 y7 := b6y.trans (h7y.mono b6y.size)
  clear h7y
  refine hK.out _ _ b7y ?_
  clear hK K
  try simp only [Act.put, List.setIfInBounds_toArray, List.set_cons_zero, List.set_cons_succ]
  refine wpM_step (i := 17) (o := ⟨some 35, _, _, _, _, _⟩) rfl (by decide +kernel) (by decide) (fun K hK => ?_)
  go_simp
  refine (HR.out y7 _ _ _ _ (H0.out _ (HB.out.trans (b7y.mono HB.out.size))) (H1.out _ (HB.out.trans (b7y.mono HB.out.size))) hn0 hn1).mono ?_
  rintro e y8 ⟨rfl, h8y⟩
  have b8y : Below x3.heap.size x3 y8 := b7y.trans (h8y.mono b7y.size)
  clear h8y
  refine hK.out _ _ b8y ?_
  clear hK K
  try simp only [Act.put, List.setIfInBounds_toArray, List.set_cons_zero, List.set_cons_succ]
  refine wpM_take (i := 18) (oi := ⟨some 36, _, _, _, _, _⟩) (v := ?_) rfl (by decide +kernel) (by decide +kernel) (by decide +kernel) (fun _ _ _ h => h) (Or.inl ⟨by rfl, ?_⟩) b8y ?_
  case refine_2 =>
    intro w' hSw
    have c0_0' := keepcell hSw c0_0
    have c0_1' := keepcell hSw c0_1
    have c1_0' := keepcell hSw c1_0
    have c1_1' := keepcell hSw c1_1
    go_simp
    try (with_reducible rfl)
  try simp only [Act.put, List.setIfInBounds_toArray, List.set_cons_zero, List.set_cons_succ]
  try simp only [beq_self_eq_true]
  refine wpM_take (i := 19) (oi := ⟨some 37, _, _, _, _, _⟩) (v := ?_) rfl (by decide +kernel) (by decide +kernel) (by decide +kernel) (fun _ _ _ h => h) (Or.inl ⟨by rfl, ?_⟩) b8y ?_
  case refine_2 =>
    intro w' hSw
    have c0_0' := keepcell hSw c0_0
    have c0_1' := keepcell hSw c0_1
    have c1_0' := keepcell hSw c1_0
    have c1_1' := keepcell hSw c1_1
    go_simp
    try (with_reducible rfl)
  try simp only [Act.put, List.setIfInBounds_toArray, List.set_cons_zero, List.set_cons_succ]
  refine wpM_done (by decide +kernel) ?_
  simp only [List.drop_succ_cons, List.drop_zero]
  go_wp2
  go_ret
  exact ⟨rfl, HB.out.trans (b8y.mono HB.out.size)⟩

set_option maxRecDepth 100000 in
theorem boxMeet_lifted (os : Os) (started : os.Started) (H : Type) (enc : TypeId × Value → H) :
    ReturnsInHanded {} Try.checked os 4 .any (Rows.boxMeetSpec.pre6 enc Try.prog Try.f4 Rows.boxMeetRow.domain false) (Rows.boxMeetSpec.post enc Try.prog Try.f4 false true false false) := by
  refine law_lifted (C := Try.checked) (B := 4) Try.own started (by kernel_rfl) Try.func4
    (ChangeSpec.witness6 (enc := enc) (C := Try.checked) false ⟨#[], #[.agg #[.int .i64 0, .slice none 0 0], .agg #[.int .i64 0, .slice none 0 0]], []⟩ 8 (by kernel_rfl) (by kernel_rfl) (by kernel_rfl) (by kernel_rfl))
    Try.laidOut (by kernel_rfl) rfl rfl rfl Try.underlying4 (fun ds h => match ds, h with | [_, _], _ => rfl) ?_
  intro W base args ds ps hval hA hlt hsz
  rw [Try.params4] at hA hval hsz
  obtain ⟨v0, vs0, d0, ds0, p0, q0, hargs, rfl, rfl, h0, r0⟩ := trodAll_cons hA
  obtain ⟨v1, vs1, d1, ds1, p1, q1, rfl, rfl, rfl, h1, r1⟩ := trodAll_cons r0
  obtain ⟨rfl, rfl, rfl⟩ := trodAll_nil r1
  obtain rfl : args = #[v0, v1] := by cases args; simp_all
  obtain ⟨x0, A0, n0, c0, R0, rfl, -, l0⟩ := open_Box (hval 0 24 v0 rfl rfl) h0 (fun x hx => hlt x (by simp [hx])) hsz (j := 0) rfl rfl
  obtain ⟨x1, A1, n1, c1, R1, rfl, -, l1⟩ := open_Box (hval 1 24 v1 rfl rfl) h1 (fun x hx => hlt x (by simp [hx])) hsz (j := 1) rfl rfl
  exact boxMeet_walk x0 A0 n0 c0 R0 x1 A1 n1 c1 R1 W l0 l1

theorem boxMeet_over : Rows.boxMeetRow.holds Try.pinned (OpenSpec.ofChange Rows.boxMeetSpec) :=
  OpenClaim.holds_of_wide 4 Try.f4 rfl rfl rfl rfl rfl rfl rfl ⟨rfl, rfl, rfl, rfl, rfl⟩ rfl rfl rfl rfl rfl (by kernel_rfl) Try.func4 (by kernel_rfl)
    (of_decide_eq_true (by kernel_rfl)) (by unfold Func.isWrapper; first | (rw [if_pos (by decide +kernel)]; kernel_rfl) | (rw [if_neg (by decide +kernel)]; exact ⟨rfl, rfl⟩))
    (fun os started H enc _ => boxMeet_lifted os started H enc)

theorem boxMeet_proved : Rows.BoxMeetSaid := boxMeet_over
end Go.Proofs.Ytcocdhndhlegiaa
