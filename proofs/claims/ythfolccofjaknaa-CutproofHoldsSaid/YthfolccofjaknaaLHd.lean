/- Law CutproofHolds: for every input the call returns true, and its arguments read afterwards as before. -/
import Derived.Test.YthfolccofjaknaaCop
import Derived.Test.YthfolccofjaknaaCrb
import Derived.Test.YthfolccofjaknaaCpa
import Derived.Test.YthfolccofjaknaaMA
namespace Go.Proofs.Ythfolccofjaknaa
open Go.ChangeShapes Go.WideShapes Go.ChangeAt Go.RowKit Go.ChangeMaps

theorem smQ_two {q r : Iq} : smQ [q, r] = ((smB q.L && decide (q.b.n ≤ 4)) && (smB r.L && decide (r.b.n ≤ 4))) := by unfold smQ; simp
theorem ineqsQ2 {W : World} {N g : Nat} {q r : Iq} (hq : q.ok W N) (hr : r.ok W N) (hb : Blk W g 44 #[.slice q.A q.n q.c, .bool q.b.neg, .slice q.b.A q.b.n q.b.c, .slice r.A r.n r.c, .bool r.b.neg, .slice r.b.A r.b.n r.b.c]) : Ineqs W (some ⟨g, 0, none⟩) 2 [q, r] N :=
  ⟨blk_at hb rfl rfl, by decide, fun x hx => by
    simp only [List.mem_cons, List.not_mem_nil, or_false] at hx
    rcases hx with rfl | rfl
    · exact hq
    · exact hr⟩
set_option maxRecDepth 100000 in
set_option maxHeartbeats 4000000 in
theorem cutproofHolds_walk (q : Iq) (A n c) (X : List Bg) (w : World) (k0 : q.ok w NM) (k1 : Bigs w A n X NM) :
    Calls Try.prog 6 #[q.val, .slice A n c] w fun e w' => e = .returned (.bool true) ∧ Below w.heap.size w w' := by
  obtain ⟨QA, qn, qc, L, qb⟩ := q
  have HQ := Lib.hid k0
  have HX := Lib.hid k1
  clear k0 k1
  unfold Iq.val
  dsimp only
  obtain ⟨kx, hkx⟩ : ∃ kx, kx = w.heap.size := ⟨_, rfl⟩
  obtain ⟨W1, hW1⟩ : ∃ W1, W1 = w.alloc (.cells #[.slice QA qn qc, .bool qb.neg, .slice qb.A qb.n qb.c] 44) := ⟨_, rfl⟩
  have HB1 := Lib.hid (show Below w.heap.size w W1 by rw [hW1]; exact (Below.refl _ _).alloc (Nat.le_refl _) _)
  have KX := Lib.hid (show Blk W1 kx 44 #[.slice QA qn qc, .bool qb.neg, .slice qb.A qb.n qb.c] by rw [hW1]; exact Blk.new_ hkx rfl)
  go_enter Try.func6, Try.ntmps6
  go_wp2_with fail
  rw [← hkx, ← hW1]
  clear hkx hW1
  refine (awake_any W1).mono ?_
  rintro e2 w2 ⟨rfl, hb2⟩
  have HB2 := Lib.hid (HB1.out.trans (hb2.mono HB1.out.size))
  have KX2 := Lib.hid (KX.out.below hb2)
  clear hb2 HB1 KX
  obtain ⟨ks, hks⟩ : ∃ ks, ks = w2.heap.size := ⟨_, rfl⟩
  obtain ⟨W3, hW3⟩ : ∃ W3, W3 = w2.alloc (.cells #[.slice QA qn qc, .bool qb.neg, .slice qb.A qb.n qb.c, .slice A n c, .bool false, .slice none 0 0] 44) := ⟨_, rfl⟩
  have hb3 : Below w2.heap.size w2 W3 := by rw [hW3]; exact (Below.refl _ _).alloc (Nat.le_refl _) _
  have HB3 := Lib.hid (HB2.out.trans (hb3.mono HB2.out.size))
  have KX3 := Lib.hid (KX2.out.below hb3)
  have KS := Lib.hid (show Blk W3 ks 44 #[.slice QA qn qc, .bool qb.neg, .slice qb.A qb.n qb.c, .slice A n c, .bool false, .slice none 0 0] by rw [hW3]; exact Blk.new_ hks rfl)
  clear hb3
  have HI := Lib.hid (ineqsQ2 (q := ⟨QA, qn, qc, L, qb⟩) (r := ⟨A, n, c, X, Bg.zero⟩) (HQ.out.below HB3.out) ⟨HX.out.below HB3.out, (NB.zero W3 0).bg.mono (Nat.zero_le _)⟩ KS.out)
  have CS := Lib.hid (Small_any W3 (some ⟨ks, 0, none⟩) 2 2 [⟨QA, qn, qc, L, qb⟩, ⟨A, n, c, X, Bg.zero⟩] NM HI.out)
  obtain ⟨sm, hsm⟩ : ∃ x, smQ [⟨QA, qn, qc, L, qb⟩, ⟨A, n, c, X, Bg.zero⟩] = x := ⟨_, rfl⟩
  rw [hsm] at CS
  have HSM := Lib.hid hsm
  clear hsm
  have c0 : w2.cell? ⟨kx, 0, none⟩ = some (.slice QA qn qc) := KX2.out.cell 0
  have c1 : w2.cell? ⟨kx, 1, none⟩ = some (.bool qb.neg) := KX2.out.cell 1
  have c2 : w2.cell? ⟨kx, 2, none⟩ = some (.slice qb.A qb.n qb.c) := KX2.out.cell 2
  go_wp2_with fail
  rw [← hks, ← hW3]
  clear hks hW3 c0 c1 c2
  refine CS.out.mono ?_
  rintro e4 w4 ⟨rfl, hb4⟩
  have HB4 := Lib.hid (HB3.out.trans (hb4.mono HB3.out.size))
  have KX4 := Lib.hid (KX3.out.below hb4)
  clear hb4 CS
  cases sm with
  | false =>
    go_wp2_with fail
    refine (awake_any _).mono ?_
    rintro e9 w9 ⟨rfl, hb9⟩
    have HB9 := Lib.hid (HB4.out.trans (hb9.mono HB4.out.size))
    clear hb9
    go_wp2
    go_ret
    exact ⟨rfl, HB9.out⟩
  | true =>
    have HQS := Lib.hid (show Iq.ok w 4 ⟨QA, qn, qc, L, qb⟩ ∧ qn ≤ 6 ∧ Bigs w A n X 4 from by
      have h := HSM.out
      rw [smQ_two] at h
      simp only [Bool.and_eq_true, decide_eq_true_eq] at h
      have h1 := HQ.out.1.small h.1.1
      exact ⟨⟨h1.1, HQ.out.2.small h.1.2⟩, h1.2, (HX.out.small h.2.1).1⟩)
    have hq6 : qn ≤ 6 := HQS.out.2.1
    go_upto_region 3 with fail
    have c0 : w4.cell? ⟨kx, 0, none⟩ = some (.slice QA qn qc) := KX4.out.cell 0
    have c1 : w4.cell? ⟨kx, 1, none⟩ = some (.bool qb.neg) := KX4.out.cell 1
    have c2 : w4.cell? ⟨kx, 2, none⟩ = some (.slice qb.A qb.n qb.c) := KX4.out.cell 2
    obtain ⟨r1, hr1⟩ : ∃ x, hldM (Iq.m ⟨QA, qn, qc, L, qb⟩) (X.map Bg.z) = x := ⟨_, rfl⟩
    obtain ⟨r2, hr2⟩ : ∃ x, badM (Iq.m ⟨QA, qn, qc, L, qb⟩) = x := ⟨_, rfl⟩
    have C1 := Lib.hid (show ∀ W, Below w4.heap.size w4 W → Calls Try.prog 25 #[.agg #[.slice QA qn qc, .bool qb.neg, .slice qb.A qb.n qb.c], .slice A n c] W fun e w' => e = .returned (.bool r1) ∧ Below W.heap.size W w' from fun W hW => by
      have hbw := HB4.out.trans (hW.mono HB4.out.size)
      rw [← hr1]
      exact Holds_any W ⟨QA, qn, qc, L, qb⟩ A n c X 4 (HQS.out.1.below hbw) (HQS.out.2.2.below hbw) (by decide) (by dsimp only; omega))
    have C2 := Lib.hid (show ∀ W, Below w4.heap.size w4 W → Calls Try.prog 26 #[.agg #[.slice QA qn qc, .bool qb.neg, .slice qb.A qb.n qb.c], .slice A n c] W fun e w' => e = .returned (.bool r1) ∧ Below W.heap.size W w' from fun W hW => by
      have hbw := HB4.out.trans (hW.mono HB4.out.size)
      rw [← hr1]
      exact RHolds_any W ⟨QA, qn, qc, L, qb⟩ A n c X 4 (HQS.out.1.below hbw) (HQS.out.2.2.below hbw) (by decide) (by dsimp only; omega))
    have C3 := Lib.hid (show ∀ W, Below w4.heap.size w4 W → Calls Try.prog 27 #[.agg #[.slice QA qn qc, .bool qb.neg, .slice qb.A qb.n qb.c]] W fun e w' => e = .returned (.bool r2) ∧ Below W.heap.size W w' from fun W hW => by
      have hbw := HB4.out.trans (hW.mono HB4.out.size)
      rw [← hr2]
      exact Contradictory_any W ⟨QA, qn, qc, L, qb⟩ 4 (HQS.out.1.below hbw))
    have C4 := Lib.hid (show ∀ W, Below w4.heap.size w4 W → Calls Try.prog 28 #[.agg #[.slice QA qn qc, .bool qb.neg, .slice qb.A qb.n qb.c]] W fun e w' => e = .returned (.bool r2) ∧ Below W.heap.size W w' from fun W hW => by
      have hbw := HB4.out.trans (hW.mono HB4.out.size)
      rw [← hr2]
      exact Bad_any W ⟨QA, qn, qc, L, qb⟩ 4 (HQS.out.1.below hbw) (by decide))
    clear hr1 hr2
    have hrr1 : (r1 == r1) = true := by cases r1 <;> rfl
    have hrr2 : (r2 == r2) = true := by cases r2 <;> rfl
    have hb0 : Below w4.heap.size w4 w4.drew := below_drew (Below.refl _ _)
    refine wp_region_mixE (fun w' => Below w4.heap.size w4 w') (by kernel_rfl) ?_
    generalize w4.drew = z0 at hb0 ⊢
    refine wpE_take (i := 0) (oi := ⟨some 16, _, _, _, _, _⟩) (v := ?_) rfl (by decide +kernel) (by decide +kernel) (by decide +kernel) (fun _ _ _ h => h) (Or.inl ⟨by rfl, ?_⟩) hb0 ?_
    case refine_2 =>
        intro w' hSw
        have c0' := keepcell hSw c0
        have c1' := keepcell hSw c1
        have c2' := keepcell hSw c2
        go_simp
        try (with_reducible rfl)
    try simp only [Act.put, List.setIfInBounds_toArray, List.set_cons_zero, List.set_cons_succ]
    refine wpE_take (i := 1) (oi := ⟨some 17, _, _, _, _, _⟩) (v := ?_) rfl (by decide +kernel) (by decide +kernel) (by decide +kernel) (fun _ _ _ h => h) (Or.inl ⟨by rfl, ?_⟩) hb0 ?_
    case refine_2 =>
        intro w' hSw
        have c0' := keepcell hSw c0
        have c1' := keepcell hSw c1
        have c2' := keepcell hSw c2
        go_simp
        try (with_reducible rfl)
    try simp only [Act.put, List.setIfInBounds_toArray, List.set_cons_zero, List.set_cons_succ]
    refine wpE_take (i := 3) (oi := ⟨some 19, _, _, _, _, _⟩) (v := ?_) rfl (by decide +kernel) (by decide +kernel) (by decide +kernel) (fun _ _ _ h => h) (Or.inl ⟨by rfl, ?_⟩) hb0 ?_
    case refine_2 =>
        intro w' hSw
        have c0' := keepcell hSw c0
        have c1' := keepcell hSw c1
        have c2' := keepcell hSw c2
        go_simp
        try (with_reducible rfl)
    try simp only [Act.put, List.setIfInBounds_toArray, List.set_cons_zero, List.set_cons_succ]
    refine wpE_take (i := 4) (oi := ⟨some 20, _, _, _, _, _⟩) (v := ?_) rfl (by decide +kernel) (by decide +kernel) (by decide +kernel) (fun _ _ _ h => h) (Or.inl ⟨by rfl, ?_⟩) hb0 ?_
    case refine_2 =>
        intro w' hSw
        have c0' := keepcell hSw c0
        have c1' := keepcell hSw c1
        have c2' := keepcell hSw c2
        go_simp
        try (with_reducible rfl)
    try simp only [Act.put, List.setIfInBounds_toArray, List.set_cons_zero, List.set_cons_succ]
    have D1 := Lib.hid (C1.out z0 hb0)
    refine wpE_step (i := 2) (o := ⟨some 18, _, _, _, _, _⟩) rfl (by decide +kernel) (fun KK hKK => ?_)
    go_simp
    refine D1.out.mono ?_
    rintro e z1 ⟨rfl, hbn⟩
    have hb1 : Below w4.heap.size w4 z1 := hb0.trans (hbn.mono hb0.size)
    clear hbn
    refine hKK.out _ _ hb1 ?_
    clear hKK KK
    try simp only [Act.put, List.setIfInBounds_toArray, List.set_cons_zero, List.set_cons_succ]
    have D2 := Lib.hid (C2.out z1 hb1)
    refine wpE_step (i := 5) (o := ⟨some 21, _, _, _, _, _⟩) rfl (by decide +kernel) (fun KK hKK => ?_)
    go_simp
    refine D2.out.mono ?_
    rintro e z2 ⟨rfl, hbn⟩
    have hb2 : Below w4.heap.size w4 z2 := hb1.trans (hbn.mono hb1.size)
    clear hbn
    refine hKK.out _ _ hb2 ?_
    clear hKK KK
    try simp only [Act.put, List.setIfInBounds_toArray, List.set_cons_zero, List.set_cons_succ]
    refine wpE_take (i := 6) (oi := ⟨some 22, _, _, _, _, _⟩) (v := .bool true) rfl (by decide +kernel) (by decide +kernel) (by decide +kernel) (fun _ _ _ h => h) (Or.inl ⟨by rfl, ?_⟩) hb2 ?_
    case refine_1 =>
        intro w' hSw
        have c0' := keepcell hSw c0
        have c1' := keepcell hSw c1
        have c2' := keepcell hSw c2
        go_simp
        try (with_reducible rfl)
    try simp only [Act.put, List.setIfInBounds_toArray, List.set_cons_zero, List.set_cons_succ]
    refine wpE_take (i := 7) (oi := ⟨some 23, _, _, _, _, _⟩) (v := .bool true) rfl (by decide +kernel) (by decide +kernel) (by decide +kernel) (fun _ _ _ h => h) (Or.inl ⟨by rfl, ?_⟩) hb2 ?_
    case refine_1 =>
        intro w' hSw
        have c0' := keepcell hSw c0
        have c1' := keepcell hSw c1
        have c2' := keepcell hSw c2
        go_simp
        try (with_reducible rfl)
    try simp only [Act.put, List.setIfInBounds_toArray, List.set_cons_zero, List.set_cons_succ]
    refine wpE_take (i := 8) (oi := ⟨some 24, _, _, _, _, _⟩) (v := ?_) rfl (by decide +kernel) (by decide +kernel) (by decide +kernel) (fun _ _ _ h => h) (Or.inl ⟨by rfl, ?_⟩) hb2 ?_
    case refine_2 =>
        intro w' hSw
        have c0' := keepcell hSw c0
        have c1' := keepcell hSw c1
        have c2' := keepcell hSw c2
        go_simp
        try (with_reducible rfl)
    try simp only [Act.put, List.setIfInBounds_toArray, List.set_cons_zero, List.set_cons_succ]
    refine wpE_take (i := 10) (oi := ⟨some 26, _, _, _, _, _⟩) (v := ?_) rfl (by decide +kernel) (by decide +kernel) (by decide +kernel) (fun _ _ _ h => h) (Or.inl ⟨by rfl, ?_⟩) hb2 ?_
    case refine_2 =>
        intro w' hSw
        have c0' := keepcell hSw c0
        have c1' := keepcell hSw c1
        have c2' := keepcell hSw c2
        go_simp
        try (with_reducible rfl)
    try simp only [Act.put, List.setIfInBounds_toArray, List.set_cons_zero, List.set_cons_succ]
    have D3 := Lib.hid (C3.out z2 hb2)
    refine wpE_step (i := 9) (o := ⟨some 25, _, _, _, _, _⟩) rfl (by decide +kernel) (fun KK hKK => ?_)
    go_simp
    refine D3.out.mono ?_
    rintro e z3 ⟨rfl, hbn⟩
    have hb3 : Below w4.heap.size w4 z3 := hb2.trans (hbn.mono hb2.size)
    clear hbn
    refine hKK.out _ _ hb3 ?_
    clear hKK KK
    try simp only [Act.put, List.setIfInBounds_toArray, List.set_cons_zero, List.set_cons_succ]
    have D4 := Lib.hid (C4.out z3 hb3)
    refine wpE_step (i := 11) (o := ⟨some 27, _, _, _, _, _⟩) rfl (by decide +kernel) (fun KK hKK => ?_)
    go_simp
    refine D4.out.mono ?_
    rintro e z4 ⟨rfl, hbn⟩
    have hb4 : Below w4.heap.size w4 z4 := hb3.trans (hbn.mono hb3.size)
    clear hbn
    refine hKK.out _ _ hb4 ?_
    clear hKK KK
    try simp only [Act.put, List.setIfInBounds_toArray, List.set_cons_zero, List.set_cons_succ]
    refine wpE_take (i := 12) (oi := ⟨some 28, _, _, _, _, _⟩) (v := .bool true) rfl (by decide +kernel) (by decide +kernel) (by decide +kernel) (fun _ _ _ h => h) (Or.inl ⟨by rfl, ?_⟩) hb4 ?_
    case refine_1 =>
        intro w' hSw
        have c0' := keepcell hSw c0
        have c1' := keepcell hSw c1
        have c2' := keepcell hSw c2
        go_simp
        try (with_reducible rfl)
    try simp only [Act.put, List.setIfInBounds_toArray, List.set_cons_zero, List.set_cons_succ]
    refine wpE_take (i := 13) (oi := ⟨some 29, _, _, _, _, _⟩) (v := .bool true) rfl (by decide +kernel) (by decide +kernel) (by decide +kernel) (fun _ _ _ h => h) (Or.inl ⟨by rfl, ?_⟩) hb4 ?_
    case refine_1 =>
        intro w' hSw
        have c0' := keepcell hSw c0
        have c1' := keepcell hSw c1
        have c2' := keepcell hSw c2
        go_simp
        try (with_reducible rfl)
    try simp only [Act.put, List.setIfInBounds_toArray, List.set_cons_zero, List.set_cons_succ]
    refine wpE_take (i := 14) (oi := ⟨some 4, _, _, _, _, _⟩) (v := .bool true) rfl (by decide +kernel) (by decide +kernel) (by decide +kernel) (fun _ _ _ h => h) (Or.inl ⟨by rfl, ?_⟩) hb4 ?_
    case refine_1 =>
        intro w' hSw
        have c0' := keepcell hSw c0
        have c1' := keepcell hSw c1
        have c2' := keepcell hSw c2
        go_simp
        try (with_reducible rfl)
    try simp only [Act.put, List.setIfInBounds_toArray, List.set_cons_zero, List.set_cons_succ]
    refine wpE_done (by decide +kernel) ?_
    clear c0 c1 c2
    have HB5 := Lib.hid (HB4.out.trans (hb4.mono HB4.out.size))
    go_wp2
    go_ret
    exact ⟨rfl, HB5.out⟩

set_option maxRecDepth 100000 in
theorem cutproofHolds_lifted (os : Os) (started : os.Started) (H : Type) (enc : TypeId × Value → H) :
    ReturnsInHanded {} Try.checked os 6 .any (Rows.cutproofHoldsSpec.pre6 enc Try.prog Try.f6 Rows.cutproofHoldsRow.domain false) (Rows.cutproofHoldsSpec.post enc Try.prog Try.f6 false true false false) := by
  refine law_lifted (C := Try.checked) (B := 4) Try.own started (by kernel_rfl) Try.func6
    (ChangeSpec.witness6 (enc := enc) (C := Try.checked) false ⟨#[], #[.agg #[.slice none 0 0, .bool false, .slice none 0 0], .slice none 0 0], []⟩ 8 (by kernel_rfl) (by kernel_rfl) (by kernel_rfl) (by kernel_rfl))
    Try.laidOut (by kernel_rfl) rfl rfl rfl Try.underlying4 (fun ds h => match ds, h with | [_, _], _ => rfl) ?_
  intro W base args ds ps hval hA hlt hsz
  rw [Try.params6] at hA hval hsz
  obtain ⟨v0, vs0, d0, ds0, p0, q0, hargs, rfl, rfl, h0, r0⟩ := trodAll_cons hA
  obtain ⟨v1, vs1, d1, ds1, p1, q1, rfl, rfl, rfl, h1, r1⟩ := trodAll_cons r0
  obtain ⟨rfl, rfl, rfl⟩ := trodAll_nil r1
  obtain rfl : args = #[v0, v1] := by cases args; simp_all
  obtain ⟨q0, rfl, k0⟩ := open_iq (hval 0 44 v0 rfl rfl) h0 (fun x hx => hlt x (by simp [hx])) hsz (j := 0) rfl rfl
  obtain ⟨A1, n1, c1, L1, rfl, k1⟩ := open_bigs (hval 1 42 v1 rfl rfl) h1 (fun x hx => hlt x (by simp [hx])) hsz (j := 1) rfl rfl
  exact cutproofHolds_walk q0 A1 n1 c1 L1 W k0 k1

theorem cutproofHolds_over : Rows.cutproofHoldsRow.holds Try.pinned (OpenSpec.ofChange Rows.cutproofHoldsSpec) :=
  OpenClaim.holds_of_wide 6 Try.f6 rfl rfl rfl rfl rfl rfl rfl ⟨rfl, rfl, rfl, rfl, rfl⟩ rfl rfl rfl rfl rfl (by kernel_rfl) Try.func6 (by kernel_rfl)
    (of_decide_eq_true (by kernel_rfl)) (by unfold Func.isWrapper; first | (rw [if_pos (by decide +kernel)]; kernel_rfl) | (rw [if_neg (by decide +kernel)]; exact ⟨rfl, rfl⟩))
    (fun os started H enc _ => cutproofHolds_lifted os started H enc)

theorem cutproofHolds_proved : Rows.CutproofHoldsSaid := cutproofHolds_over
end Go.Proofs.Ythfolccofjaknaa
