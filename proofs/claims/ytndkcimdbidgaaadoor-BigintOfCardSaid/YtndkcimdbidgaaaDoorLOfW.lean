/- The walk of law BigintOf. -/
import Derived.Test.YtndkcimdbidgaaaDoorBlw
import Derived.Test.YtndkcimdbidgaaaDoorBrz
import Derived.Test.YtndkcimdbidgaaaDoorBof
namespace Go.Proofs.YtndkcimdbidgaaaDoor
open Go.ChangeShapes Go.WideShapes Go.ChangeAt Go.RowKit Go.ChangeMaps

set_option maxRecDepth 100000 in
set_option maxHeartbeats 4000000 in
theorem bigintOf_walk (a : Int) (w : World) (h0 : -9223372036854775808 ≤ a) (h1 : a ≤ 9223372036854775807) (hE : EnvB w) : Calls Tryd.prog 4 #[.int .i64 a] w fun e w' => e = .returned (.bool true) ∧ Below w.heap.size w w' := by
  have HE := Lib.hid hE
  have H0 := Lib.hid h0
  have H1 := Lib.hid h1
  have HB := Lib.hid (Below.refl w.heap.size w)
  have CO := Lib.hid (Of_any a w h0 h1)
  clear hE h0 h1
  go_enter Tryd.func4, Tryd.ntmps4
  go_wp2_with fail
  refine CO.out.mono ?_
  rintro e w1 ⟨v, rfl, hv, hb⟩
  clear CO
  have V3 := Lib.hid hv
  obtain ⟨s3, A3, n3, c3, rfl⟩ := hv.expose
  clear hv
  replace HE := Lib.hid (HE.out.below hb)
  replace HB := Lib.hid (HB.out.trans (hb.mono HB.out.size))
  clear hb
  obtain ⟨w2, hw2⟩ : ∃ V, V = w1.alloc (.cells #[.bool s3, .slice A3 n3 c3] 24) := ⟨_, rfl⟩
  have hb : Below w1.heap.size w1 w2 := by rw [hw2]; exact (Below.refl _ _).alloc (Nat.le_refl _) _
  obtain ⟨g3, hg3⟩ : ∃ g, w1.heap.size = g := ⟨_, rfl⟩
  have K3 := Lib.hid (show Blk w2 g3 24 #[.bool s3, .slice A3 n3 c3] by rw [hw2, ← hg3]; exact Blk.new _ _ _)
  have HW2 := Lib.hid hw2
  clear hw2
  replace HE := Lib.hid (HE.out.below hb)
  replace V3 := Lib.hid (V3.out.below hb)
  replace HB := Lib.hid (HB.out.trans (hb.mono HB.out.size))
  clear hb
  have k3_0 : w2.cell? ⟨g3, 0, none⟩ = some (.bool s3) := K3.out.cell 0
  have k3_1 : w2.cell? ⟨g3, 1, none⟩ = some (.slice A3 n3 c3) := K3.out.cell 1
  have CC := Lib.hid (cp_bg w2 _ a 2 V3.out.bg (by decide))
  rw [HW2.out] at k3_0 k3_1
  go_wp2_with fail
  rw [← HW2.out]
  refine CC.out.mono ?_
  rintro e w3 ⟨v1, rfl, hv, hb⟩
  have P1 := Lib.hid hv
  clear hv CC k3_0 k3_1 HW2 hg3
  replace HE := Lib.hid (HE.out.below hb)
  replace V3 := Lib.hid (V3.out.below hb)
  replace K3 := Lib.hid (K3.out.below hb)
  replace HB := Lib.hid (HB.out.trans (hb.mono HB.out.size))
  clear hb
  have CI := Lib.hid (Int64_any _ a 2 w3 P1.out.bg (by decide))
  rw [(f6_yes H0.out H1.out).1, (f6_yes H0.out H1.out).2] at CI
  go_wp2_with fail
  refine CI.out.mono ?_
  rintro e w4 ⟨rfl, hb⟩
  clear CI P1
  replace HE := Lib.hid (HE.out.below hb)
  replace V3 := Lib.hid (V3.out.below hb)
  replace K3 := Lib.hid (K3.out.below hb)
  replace HB := Lib.hid (HB.out.trans (hb.mono HB.out.size))
  clear hb
  have k3_0 : w4.cell? ⟨g3, 0, none⟩ = some (.bool s3) := K3.out.cell 0
  have k3_1 : w4.cell? ⟨g3, 1, none⟩ = some (.slice A3 n3 c3) := K3.out.cell 1
  go_wp2_with fail
  have hS0 : Below w4.heap.size w4 w4.drew := below_drew (Below.refl _ _)
  refine wp_region_mix 15 (fun w' => Below w4.heap.size w4 w') (by kernel_rfl) (by decide) ?_
  generalize w4.drew = y0 at hS0 ⊢
  refine wpM_step (i := 0) (o := ⟨some 14, _, _, _, _, _⟩) rfl (by decide +kernel) (by decide) (fun K hK => ?_)
  go_simp
  refine (awake_any y0 (HE.out.below hS0)).mono ?_
  rintro e y1 ⟨rfl, hc⟩
  have hy1 : Below w4.heap.size w4 y1 := hS0.trans (hc.mono hS0.size)
  refine hK.out _ _ hy1 ?_
  clear hK K
  try simp only [Act.put, List.setIfInBounds_toArray, List.set_cons_zero, List.set_cons_succ]
  refine wpM_take (i := 1) (oi := ⟨some 15, _, _, _, _, _⟩) (v := ?_) rfl (by decide +kernel) (by decide +kernel) (by decide +kernel) (fun _ _ _ h => h) (Or.inl ⟨by rfl, ?_⟩) hy1 ?_
  case refine_2 =>
    intro w' hSw
    go_simp
    try (with_reducible rfl)
  try simp only [Act.put, List.setIfInBounds_toArray, List.set_cons_zero, List.set_cons_succ]
  refine wpM_take (i := 2) (oi := ⟨some 16, _, _, _, _, _⟩) (v := ?_) rfl (by decide +kernel) (by decide +kernel) (by decide +kernel) (fun _ _ _ h => h) (Or.inl ⟨by rfl, ?_⟩) hy1 ?_
  case refine_2 =>
    intro w' hSw
    have k3_0' := keepcell hSw k3_0
    have k3_1' := keepcell hSw k3_1
    go_simp
    try (with_reducible rfl)
  try simp only [Act.put, List.setIfInBounds_toArray, List.set_cons_zero, List.set_cons_succ]
  refine wpM_take (i := 3) (oi := ⟨some 17, _, _, _, _, _⟩) (v := ?_) rfl (by decide +kernel) (by decide +kernel) (by decide +kernel) (fun _ _ _ h => h) (Or.inl ⟨by rfl, ?_⟩) hy1 ?_
  case refine_2 =>
    intro w' hSw
    go_simp
    try (with_reducible rfl)
  try simp only [Act.put, List.setIfInBounds_toArray, List.set_cons_zero, List.set_cons_succ]
  refine wpM_step (i := 4) (o := ⟨some 18, _, _, _, _, _⟩) rfl (by decide +kernel) (by decide) (fun K hK => ?_)
  go_simp
  refine (ROf_any a y1 H0.out H1.out).mono ?_
  rintro e y2 ⟨v18, rfl, hv, hc⟩
  have hy2 : Below w4.heap.size w4 y2 := hy1.trans (hc.mono hy1.size)
  have P18 := Lib.hid hv
  clear hv
  refine hK.out _ _ hy2 ?_
  clear hK K
  try simp only [Act.put, List.setIfInBounds_toArray, List.set_cons_zero, List.set_cons_succ]
  refine wpM_step (i := 5) (o := ⟨some 19, _, _, _, _, _⟩) rfl (by decide +kernel) (by decide) (fun K hK => ?_)
  go_simp
  refine (Same_nb (V3.out.below hy2) P18.out (by decide)).mono ?_
  rintro e y3 ⟨rfl, hc⟩
  have hy3 : Below w4.heap.size w4 y3 := hy2.trans (hc.mono hy2.size)
  replace P18 := Lib.hid (P18.out.below hc)
  refine hK.out _ _ hy3 ?_
  clear hK K
  try simp only [Act.put, List.setIfInBounds_toArray, List.set_cons_zero, List.set_cons_succ]
  refine wpM_take (i := 6) (oi := ⟨some 20, _, _, _, _, _⟩) (v := ?_) rfl (by decide +kernel) (by decide +kernel) (by decide +kernel) (fun _ _ _ h => h) (Or.inl ⟨by rfl, ?_⟩) hy3 ?_
  case refine_2 =>
    intro w' hSw
    go_simp
    try (with_reducible rfl)
  try simp only [Act.put, List.setIfInBounds_toArray, List.set_cons_zero, List.set_cons_succ]
  refine wpM_take (i := 7) (oi := ⟨some 21, _, _, _, _, _⟩) (v := ?_) rfl (by decide +kernel) (by decide +kernel) (by decide +kernel) (fun _ _ _ h => h) (Or.inl ⟨by rfl, ?_⟩) hy3 ?_
  case refine_2 =>
    intro w' hSw
    go_simp
    try (with_reducible rfl)
  try simp only [Act.put, List.setIfInBounds_toArray, List.set_cons_zero, List.set_cons_succ]
  refine wpM_take (i := 8) (oi := ⟨some 22, _, _, _, _, _⟩) (v := ?_) rfl (by decide +kernel) (by decide +kernel) (by decide +kernel) (fun _ _ _ h => h) (Or.inl ⟨by rfl, ?_⟩) hy3 ?_
  case refine_2 =>
    intro w' hSw
    go_simp
    try (with_reducible rfl)
  try simp only [Act.put, List.setIfInBounds_toArray, List.set_cons_zero, List.set_cons_succ]
  refine wpM_take (i := 9) (oi := ⟨some 23, _, _, _, _, _⟩) (v := ?_) rfl (by decide +kernel) (by decide +kernel) (by decide +kernel) (fun _ _ _ h => h) (Or.inl ⟨by rfl, ?_⟩) hy3 ?_
  case refine_2 =>
    intro w' hSw
    go_simp
    try (with_reducible rfl)
  try simp only [Act.put, List.setIfInBounds_toArray, List.set_cons_zero, List.set_cons_succ]
  refine wpM_take (i := 10) (oi := ⟨some 24, _, _, _, _, _⟩) (v := ?_) rfl (by decide +kernel) (by decide +kernel) (by decide +kernel) (fun _ _ _ h => h) (Or.inl ⟨by rfl, ?_⟩) hy3 ?_
  case refine_2 =>
    intro w' hSw
    go_simp
    try (with_reducible rfl)
  try simp only [Act.put, List.setIfInBounds_toArray, List.set_cons_zero, List.set_cons_succ]
  refine wpM_take (i := 11) (oi := ⟨some 25, _, _, _, _, _⟩) (v := ?_) rfl (by decide +kernel) (by decide +kernel) (by decide +kernel) (fun _ _ _ h => h) (Or.inl ⟨by rfl, ?_⟩) hy3 ?_
  case refine_2 =>
    intro w' hSw
    go_simp
    try (with_reducible rfl)
  try simp only [Act.put, List.setIfInBounds_toArray, List.set_cons_zero, List.set_cons_succ]
  refine wpM_take (i := 12) (oi := ⟨some 26, _, _, _, _, _⟩) (v := ?_) rfl (by decide +kernel) (by decide +kernel) (by decide +kernel) (fun _ _ _ h => h) (Or.inl ⟨by rfl, ?_⟩) hy3 ?_
  case refine_2 =>
    intro w' hSw
    go_simp
    try (with_reducible rfl)
  try simp only [Act.put, List.setIfInBounds_toArray, List.set_cons_zero, List.set_cons_succ]
  refine wpM_take (i := 13) (oi := ⟨some 27, _, _, _, _, _⟩) (v := ?_) rfl (by decide +kernel) (by decide +kernel) (by decide +kernel) (fun _ _ _ h => h) (Or.inl ⟨by rfl, ?_⟩) hy3 ?_
  case refine_2 =>
    intro w' hSw
    go_simp
    try (with_reducible rfl)
  try simp only [Act.put, List.setIfInBounds_toArray, List.set_cons_zero, List.set_cons_succ]
  refine wpM_take (i := 14) (oi := ⟨some 28, _, _, _, _, _⟩) (v := ?_) rfl (by decide +kernel) (by decide +kernel) (by decide +kernel) (fun _ _ _ h => h) (Or.inl ⟨by rfl, ?_⟩) hy3 ?_
  case refine_2 =>
    intro w' hSw
    go_simp
    try (with_reducible rfl)
  try simp only [Act.put, List.setIfInBounds_toArray, List.set_cons_zero, List.set_cons_succ]
  refine wpM_done (by decide +kernel) ?_
  simp only [List.drop_succ_cons, List.drop_zero]
  have HF := Lib.hid (HB.out.trans (hy3.mono HB.out.size))
  go_wp2
  go_ret
  exact ⟨rfl, HF.out⟩
end Go.Proofs.YtndkcimdbidgaaaDoor
