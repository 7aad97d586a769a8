/- The reference's inequalities of a constraint. -/
import Derived.Test.YthfolccofjaknaaCof
import Derived.Test.YthfolccofjaknaaBrz
import Derived.Test.YthfolccofjaknaaBra
import Derived.Test.YthfolccofjaknaaCze
namespace Go.Proofs.Ythfolccofjaknaa
open Go.ChangeShapes Go.WideShapes Go.ChangeAt Go.RowKit Go.ChangeMaps

theorem IqN.widen {w : World} {q : Iq} {K K' : Nat} (h : IqN w q K) (hK : K ≤ K') : IqN w q K' := ⟨⟨h.1.1, h.1.2.1, fun b hb => BG.mono (h.1.2.2 b hb) hK⟩, fun b hb => (h.2.1 b hb).mono (Nat.le_refl _) hK, h.2.2.mono (Nat.le_refl _) hK⟩
theorem Gd.wide {w : World} {q : Iq} {K K' : Nat} (h : Gd w q K) (hK : K ≤ K') : Gd w q K' := fun w' hn => (h w' hn).widen hK
/-- An inequality is being made: kx holds the constraint, k5 the inequality, its coefficients the row g. -/
structure RO (w0 wr : World) (kx k5 g : Nat) (x : Ct) (L : List Bg) (b : Bg) : Prop where
  below : Below w0.heap.size w0 wr
  kxb : Blk wr kx 28 #[.int .i64 x.k, .slice x.A x.n x.c, .bool x.e]
  k5b : Blk wr k5 44 #[.slice (some ⟨g, 0, none⟩) L.length L.length, .bool b.neg, .slice b.A b.n b.c]
  rw : Rw wr w0.heap.size g L 13
  bd : NB wr w0.heap.size b.val b.z 13
  h5 : w0.heap.size ≤ k5
theorem RO.keep {w0 wr w' : World} {kx k5 g : Nat} {x : Ct} {L : List Bg} {b : Bg} (h : RO w0 wr kx k5 g x L b) (hb : Below wr.heap.size wr w') : RO w0 w' kx k5 g x L b :=
  ⟨h.below.trans (hb.mono h.below.size), h.kxb.below hb, h.k5b.below hb, h.rw.below hb, h.bd.below hb, h.h5⟩
theorem RO.setL {w0 wr : World} {kx k5 g : Nat} {x : Ct} {L : List Bg} {b : Bg} (h : RO w0 wr kx k5 g x L b) (k : Nat) (hk : k < L.length) (d : Bg) (hd : NB wr w0.heap.size d.val d.z 13) : RO w0 (wr.setCells g (k * 2) d.cells) kx k5 g x (L.set k d) b := by
  have hr := h.rw
  have h1 : Blk (wr.setCell ⟨g, k * 2, none⟩ (.bool d.neg)) g 37 ((L.flatMap Bg.cells).toArray.setIfInBounds (k * 2) (.bool d.neg)) := Joins.block_setCell hr.2.1 _
  refine ⟨setrow_below h.below hr.1 _, (h.kxb.set_other hr.2.1 (by decide) _ _).set_other h1 (by decide) _ _, ?_, hr.set k hk d hd, (h.bd.set_other hr.2.1 (by decide) _ _).set_other h1 (by decide) _ _, h.h5⟩
  rw [List.length_set]
  exact (h.k5b.set_other hr.2.1 (by decide) _ _).set_other h1 (by decide) _ _
theorem RO.setB {w0 wr : World} {kx k5 g : Nat} {x : Ct} {L : List Bg} {b : Bg} (h : RO w0 wr kx k5 g x L b) (d : Bg) (hd : NB wr w0.heap.size d.val d.z 13) : RO w0 ((wr.setCell ⟨k5, 1, none⟩ (.bool d.neg)).setCell ⟨k5, 2, none⟩ (.slice d.A d.n d.c)) kx k5 g x L d := by
  have s1 := store_step h.k5b 1 (.bool d.neg)
  have s2 := store_step s1.1 2 (.slice d.A d.n d.c)
  exact ⟨s2.2.2 _ _ (s1.2.2 _ _ h.below h.h5) h.h5, (h.kxb.set_other h.k5b (by decide) 1 _).set_other s1.1 (by decide) 2 _, s2.1, (h.rw.set_other h.k5b (by decide) (by decide) 1 _).set_other s1.1 (by decide) (by decide) 2 _, (hd.set_other h.k5b (by decide) 1 _).set_other s1.1 (by decide) 2 _, h.h5⟩
theorem RO.iqo {w0 wr : World} {kx k5 g : Nat} {x : Ct} {L : List Bg} {b : Bg} (h : RO w0 wr kx k5 g x L b) (hl : L.length ≤ 1000000) : IqO wr w0.heap.size ⟨some ⟨g, 0, none⟩, L.length, L.length, L, b⟩ 13 := ⟨rfl, hl, .inr ⟨g, rfl, h.rw⟩, h.bd⟩
set_option maxRecDepth 100000 in
set_option maxHeartbeats 8000000 in
theorem ROf14_bad (w : World) (x : Ct) (m : Int) (h : x.ok w) (hm : i64b m) (ho : okC x.C m = false) : Calls Try.prog 14 #[x.val, .int .i64 m] w fun e w' => e = .returned (.slice none 0 0) ∧ Below w.heap.size w w' := by
  have H := Lib.hid h
  clear h
  obtain ⟨kx, hkx⟩ : ∃ kx, kx = w.heap.size := ⟨_, rfl⟩
  obtain ⟨W1, hW1⟩ : ∃ W1, W1 = w.alloc (.cells #[.int .i64 x.k, .slice x.A x.n x.c, .bool x.e] 28) := ⟨_, rfl⟩
  have HB1 := Lib.hid (show Below w.heap.size w W1 by rw [hW1]; exact (Below.refl _ _).alloc (Nat.le_refl _) _)
  have KX := Lib.hid (show Blk W1 kx 28 #[.int .i64 x.k, .slice x.A x.n x.c, .bool x.e] by rw [hW1]; exact Blk.new_ hkx rfl)
  have CV := Lib.hid (Right_any W1 x m (H.out.below HB1.out) hm)
  rw [ho] at CV
  unfold Ct.val at CV ⊢
  have c0 : W1.cell? ⟨kx, 0, none⟩ = some (.int .i64 x.k) := KX.out.cell 0
  have c1 : W1.cell? ⟨kx, 1, none⟩ = some (.slice x.A x.n x.c) := KX.out.cell 1
  have c2 : W1.cell? ⟨kx, 2, none⟩ = some (.bool x.e) := KX.out.cell 2
  go_enter Try.func14, Try.ntmps14
  go_upto_region 1 with fail
  rw [← hkx, ← hW1]
  clear hkx hW1
  go_wp2_with fail
  clear c0 c1 c2
  refine CV.out.mono ?_
  rintro e2 w2 ⟨rfl, hb2⟩
  have HB2 := Lib.hid (HB1.out.trans (hb2.mono HB1.out.size))
  clear hb2
  go_wp2
  go_ret
  exact ⟨rfl, HB2.out⟩
set_option maxRecDepth 100000 in
set_option maxHeartbeats 8000000 in
theorem ROf14_ok (w : World) (x : Ct) (m : Nat) (h : x.ok w) (ho : okC x.C (m : Int) = true) : Calls Try.prog 14 #[x.val, .int .i64 (m : Int)] w (OfP w (ofM x m) 13) := by
  have hm : i64b (m : Int) ∧ m ≤ 512 := by
    unfold okC at ho
    simp only [Bool.and_eq_true, decide_eq_true_eq] at ho
    exact ⟨⟨by omega, by omega⟩, by omega⟩
  have HBD := Lib.hid (show ∀ p ∈ x.C, 0 ≤ p.1 ∧ p.1 < (m : Int) from rgtL_bound _ _ _ (by unfold okC at ho; simp only [Bool.and_eq_true] at ho; exact ho.1))
  have HXL := Lib.hid h.len
  have H := Lib.hid h
  have hm5 : m ≤ 512 := hm.2
  have hn63 : x.n ≤ 9223372036854775807 := h.2.1
  obtain ⟨ZM, hZM⟩ : ∃ Z, Z = ofM x m := ⟨_, rfl⟩
  rw [← hZM]
  have HZM := Lib.hid hZM
  clear h hZM
  obtain ⟨kx, hkx⟩ : ∃ kx, kx = w.heap.size := ⟨_, rfl⟩
  obtain ⟨W1, hW1⟩ : ∃ W1, W1 = w.alloc (.cells #[.int .i64 x.k, .slice x.A x.n x.c, .bool x.e] 28) := ⟨_, rfl⟩
  have HB1 := Lib.hid (show Below w.heap.size w W1 by rw [hW1]; exact (Below.refl _ _).alloc (Nat.le_refl _) _)
  have KX := Lib.hid (show Blk W1 kx 28 #[.int .i64 x.k, .slice x.A x.n x.c, .bool x.e] by rw [hW1]; exact Blk.new_ hkx rfl)
  have CV := Lib.hid (Right_any W1 x m (H.out.below HB1.out) hm.1)
  rw [ho] at CV
  unfold Ct.val at CV ⊢
  have c0 : W1.cell? ⟨kx, 0, none⟩ = some (.int .i64 x.k) := KX.out.cell 0
  have c1 : W1.cell? ⟨kx, 1, none⟩ = some (.slice x.A x.n x.c) := KX.out.cell 1
  have c2 : W1.cell? ⟨kx, 2, none⟩ = some (.bool x.e) := KX.out.cell 2
  go_enter Try.func14, Try.ntmps14
  go_upto_region 1 with fail
  rw [← hkx, ← hW1]
  clear hkx hW1 hm ho
  go_wp2_with fail
  clear c0 c1 c2
  refine CV.out.mono ?_
  rintro e2 w2 ⟨rfl, hb2⟩
  have HB2 := Lib.hid (HB1.out.trans (hb2.mono HB1.out.size))
  have KX2 := Lib.hid (KX.out.below hb2)
  clear hb2 CV HB1 KX
  have CZ := Lib.hid (zero_any w2 m (by omega))
  go_wp2_with fail
  refine CZ.out.mono ?_
  rintro e3 w3 ⟨g, rfl, hrw, hb3⟩
  have HB3 := Lib.hid (HB2.out.trans (hb3.mono HB2.out.size))
  have KX3 := Lib.hid (KX2.out.below hb3)
  have HRW := Lib.hid (hrw.mono HB2.out.size (Nat.zero_le 13))
  clear hrw hb3 CZ HB2 KX2
  unfold Iq.val Bg.zero
  dsimp only
  obtain ⟨k5, hk5⟩ : ∃ k, k = w3.heap.size := ⟨_, rfl⟩
  obtain ⟨Wz, hWz⟩ : ∃ W, W = w3.alloc (.cells #[.slice (some ⟨g, 0, none⟩) m m, .bool false, .slice none 0 0] 44) := ⟨_, rfl⟩
  have hb5 : Below w3.heap.size w3 Wz := by rw [hWz]; exact (Below.refl _ _).alloc (Nat.le_refl _) _
  have HOS := Lib.hid (show RO w Wz kx k5 g x (List.replicate m Bg.zero) Bg.zero from
    ⟨HB3.out.trans (hb5.mono HB3.out.size), KX3.out.below hb5, by rw [List.length_replicate, hWz]; exact Blk.new_ hk5 rfl, HRW.out.below hb5, (NB.zero _ _).mono (Nat.le_refl _) (Nat.zero_le _), by rw [hk5]; exact HB3.out.size⟩)
  clear hb5
  go_upto_region 4 with fail
  rw [← hk5, ← hWz]
  clear hk5 hWz
  have HZ0 := Lib.hid (show (List.replicate m Bg.zero).map Bg.z = ofZ (x.C.take 0) m by rw [List.map_replicate]; rfl)
  have HL0 := Lib.hid (show (List.replicate m Bg.zero).length = m from List.length_replicate)
  generalize List.replicate m Bg.zero = L0 at HOS HZ0 HL0
  obtain ⟨bb, hbb⟩ : ∃ b, b = Bg.zero := ⟨_, rfl⟩
  rw [← hbb] at HOS
  clear hbb HB3 KX3 HRW
  have c1 : Wz.cell? ⟨kx, 1, none⟩ = some (.slice x.A x.n x.c) := HOS.out.kxb.cell 1
  go_wp2
  clear c1
  go_loopw [6] (fun s25 wr => ∃ (k : Nat) (L : List Bg), s25 = .int .i64 (k : Int) ∧ k ≤ x.n ∧ L.length = m ∧ L.map Bg.z = ofZ (x.C.take k) m ∧ RO w wr kx k5 g x L bb) (fun s25 _ => x.n - (intOf s25).toNat)
  case atStart => exact ⟨0, L0, rfl, Nat.zero_le _, HL0.out, HZ0.out, HOS.out⟩
  case round =>
    obtain ⟨k, L, rfl, hkn, hL, hz, hos⟩ := hrel
    generalize wr = X0 at *
    have HL := Lib.hid hL
    have HZ := Lib.hid hz
    have HO := Lib.hid hos
    clear hL hz hos
    by_cases hlt : k < x.n
    · have hki : (k : Int) < (x.n : Int) := by omega
      have hk0 : (0 : Int) ≤ (k : Int) := by omega
      have hkC : k < x.C.length := by rw [HXL.out]; exact hlt
      obtain ⟨bA, off, eA, -, hc⟩ := at2 (f := cfc) (fun _ => rfl) H.out.1 (show 0 < x.n by omega)
      obtain ⟨d0, d1⟩ := hc X0 HO.out.below k hkC _ _ rfl
      have HPB := Lib.hid (HBD.out _ (List.getElem_mem hkC))
      have HPI := Lib.hid (H.out.2.2.2 _ (List.getElem_mem hkC))
      have HSN := Lib.hid (ofZ_snoc x.C m k hkC)
      clear hc
      generalize x.C[k] = p at *
      obtain ⟨pv, pn⟩ := p
      dsimp only at HSN HPB HPI d0 d1
      obtain ⟨iv, rfl⟩ : ∃ iv : Nat, pv = (iv : Int) := ⟨pv.toNat, by have := HPB.out; omega⟩
      have hivm : iv < m := by have := HPB.out; omega
      have hivi : (iv : Int) < (m : Int) := by omega
      have hiv0 : (0 : Int) ≤ (iv : Int) := by omega
      have hivL : iv < L.length := by rw [HL.out]; exact hivm
      have HSN := Lib.hid (show ofZ (x.C.take (k + 1)) m = (ofZ (x.C.take k) m).set iv pn by have := HSN.out; rw [Int.toNat_natCast] at this; exact this)
      have q0 : X0.cell? ⟨k5, 0, none⟩ = some (.slice (some ⟨g, 0, none⟩) m m) := by have := HO.out.k5b.cell 0; rw [HL.out] at this; exact this
      have c1 : X0.cell? ⟨kx, 1, none⟩ = some (.slice x.A x.n x.c) := HO.out.kxb.cell 1
      rw [eA] at c1 ⊢
      go_upto_region 7 with fail
      have hb0 : Below X0.heap.size X0 X0.drew := below_drew (Below.refl _ _)
      refine wp_region_mix 18 (fun w' => Below X0.heap.size X0 w') (by kernel_rfl) (by decide) ?_
      have HOy := Lib.hid (HO.out.keep hb0)
      generalize X0.drew = y0 at hb0 HOy ⊢
      have CN := Lib.hid (ROf_any pn y0 HPI.out.2.1 HPI.out.2.2)
      refine wpM_take (i := 0) (oi := ⟨some 22, _, _, _, _, _⟩) (v := ?_) rfl (by decide +kernel) (by decide +kernel) (by decide +kernel) (fun _ _ _ h => h) (Or.inl ⟨by rfl, ?_⟩) hb0 ?_
      case refine_2 =>
        intro w' hSw
        have q0' := keepcell hSw q0
        have c1' := keepcell hSw c1
        have d0' := keepcell hSw d0
        have d1' := keepcell hSw d1
        go_simp
        try (with_reducible rfl)
      try simp only [Act.put, List.setIfInBounds_toArray, List.set_cons_zero, List.set_cons_succ]
      refine wpM_take (i := 1) (oi := ⟨some 23, _, _, _, _, _⟩) (v := ?_) rfl (by decide +kernel) (by decide +kernel) (by decide +kernel) (fun _ _ _ h => h) (Or.inl ⟨by rfl, ?_⟩) hb0 ?_
      case refine_2 =>
        intro w' hSw
        have q0' := keepcell hSw q0
        have c1' := keepcell hSw c1
        have d0' := keepcell hSw d0
        have d1' := keepcell hSw d1
        go_simp
        try (with_reducible rfl)
      try simp only [Act.put, List.setIfInBounds_toArray, List.set_cons_zero, List.set_cons_succ]
      refine wpM_take (i := 2) (oi := ⟨some 24, _, _, _, _, _⟩) (v := ?_) rfl (by decide +kernel) (by decide +kernel) (by decide +kernel) (fun _ _ _ h => h) (Or.inl ⟨by rfl, ?_⟩) hb0 ?_
      case refine_2 =>
        intro w' hSw
        have q0' := keepcell hSw q0
        have c1' := keepcell hSw c1
        have d0' := keepcell hSw d0
        have d1' := keepcell hSw d1
        go_simp
        try (with_reducible rfl)
      try simp only [Act.put, List.setIfInBounds_toArray, List.set_cons_zero, List.set_cons_succ]
      refine wpM_take (i := 3) (oi := ⟨some 25, _, _, _, _, _⟩) (v := ?_) rfl (by decide +kernel) (by decide +kernel) (by decide +kernel) (fun _ _ _ h => h) (Or.inl ⟨by rfl, ?_⟩) hb0 ?_
      case refine_2 =>
        intro w' hSw
        have q0' := keepcell hSw q0
        have c1' := keepcell hSw c1
        have d0' := keepcell hSw d0
        have d1' := keepcell hSw d1
        go_simp
        try (with_reducible rfl)
      try simp only [Act.put, List.setIfInBounds_toArray, List.set_cons_zero, List.set_cons_succ]
      refine wpM_take (i := 4) (oi := ⟨some 26, _, _, _, _, _⟩) (v := ?_) rfl (by decide +kernel) (by decide +kernel) (by decide +kernel) (fun _ _ _ h => h) (Or.inl ⟨by rfl, ?_⟩) hb0 ?_
      case refine_2 =>
        intro w' hSw
        have q0' := keepcell hSw q0
        have c1' := keepcell hSw c1
        have d0' := keepcell hSw d0
        have d1' := keepcell hSw d1
        go_simp
        try (with_reducible rfl)
      try simp only [Act.put, List.setIfInBounds_toArray, List.set_cons_zero, List.set_cons_succ]
      refine wpM_take (i := 5) (oi := ⟨some 27, _, _, _, _, _⟩) (v := ?_) rfl (by decide +kernel) (by decide +kernel) (by decide +kernel) (fun _ _ _ h => h) (Or.inl ⟨by rfl, ?_⟩) hb0 ?_
      case refine_2 =>
        intro w' hSw
        have q0' := keepcell hSw q0
        have c1' := keepcell hSw c1
        have d0' := keepcell hSw d0
        have d1' := keepcell hSw d1
        go_simp
        try (with_reducible rfl)
      try simp only [Act.put, List.setIfInBounds_toArray, List.set_cons_zero, List.set_cons_succ]
      refine wpM_take (i := 6) (oi := ⟨some 28, _, _, _, _, _⟩) (v := ?_) rfl (by decide +kernel) (by decide +kernel) (by decide +kernel) (fun _ _ _ h => h) (Or.inl ⟨by rfl, ?_⟩) hb0 ?_
      case refine_2 =>
        intro w' hSw
        have q0' := keepcell hSw q0
        have c1' := keepcell hSw c1
        have d0' := keepcell hSw d0
        have d1' := keepcell hSw d1
        go_simp
        try (with_reducible rfl)
      try simp only [Act.put, List.setIfInBounds_toArray, List.set_cons_zero, List.set_cons_succ]
      refine wpM_take (i := 7) (oi := ⟨some 29, _, _, _, _, _⟩) (v := ?_) rfl (by decide +kernel) (by decide +kernel) (by decide +kernel) (fun _ _ _ h => h) (Or.inl ⟨by rfl, ?_⟩) hb0 ?_
      case refine_2 =>
        intro w' hSw
        have q0' := keepcell hSw q0
        have c1' := keepcell hSw c1
        have d0' := keepcell hSw d0
        have d1' := keepcell hSw d1
        go_simp
        try (with_reducible rfl)
      try simp only [Act.put, List.setIfInBounds_toArray, List.set_cons_zero, List.set_cons_succ]
      refine wpM_take (i := 8) (oi := ⟨some 30, _, _, _, _, _⟩) (v := ?_) rfl (by decide +kernel) (by decide +kernel) (by decide +kernel) (fun _ _ _ h => h) (Or.inl ⟨by rfl, ?_⟩) hb0 ?_
      case refine_2 =>
        intro w' hSw
        have q0' := keepcell hSw q0
        have c1' := keepcell hSw c1
        have d0' := keepcell hSw d0
        have d1' := keepcell hSw d1
        go_simp
        try (with_reducible rfl)
      try simp only [Act.put, List.setIfInBounds_toArray, List.set_cons_zero, List.set_cons_succ]
      refine wpM_take (i := 9) (oi := ⟨some 31, _, _, _, _, _⟩) (v := ?_) rfl (by decide +kernel) (by decide +kernel) (by decide +kernel) (fun _ _ _ h => h) (Or.inl ⟨by rfl, ?_⟩) hb0 ?_
      case refine_2 =>
        intro w' hSw
        have q0' := keepcell hSw q0
        have c1' := keepcell hSw c1
        have d0' := keepcell hSw d0
        have d1' := keepcell hSw d1
        go_simp
        try (with_reducible rfl)
      try simp only [Act.put, List.setIfInBounds_toArray, List.set_cons_zero, List.set_cons_succ]
      refine wpM_take (i := 10) (oi := ⟨some 32, _, _, _, _, _⟩) (v := ?_) rfl (by decide +kernel) (by decide +kernel) (by decide +kernel) (fun _ _ _ h => h) (Or.inl ⟨by rfl, ?_⟩) hb0 ?_
      case refine_2 =>
        intro w' hSw
        have q0' := keepcell hSw q0
        have c1' := keepcell hSw c1
        have d0' := keepcell hSw d0
        have d1' := keepcell hSw d1
        go_simp
        try (with_reducible rfl)
      try simp only [Act.put, List.setIfInBounds_toArray, List.set_cons_zero, List.set_cons_succ]
      refine wpM_take (i := 11) (oi := ⟨some 33, _, _, _, _, _⟩) (v := ?_) rfl (by decide +kernel) (by decide +kernel) (by decide +kernel) (fun _ _ _ h => h) (Or.inl ⟨by rfl, ?_⟩) hb0 ?_
      case refine_2 =>
        intro w' hSw
        have q0' := keepcell hSw q0
        have c1' := keepcell hSw c1
        have d0' := keepcell hSw d0
        have d1' := keepcell hSw d1
        go_simp
        try (with_reducible rfl)
      try simp only [Act.put, List.setIfInBounds_toArray, List.set_cons_zero, List.set_cons_succ]
      refine wpM_take (i := 12) (oi := ⟨some 34, _, _, _, _, _⟩) (v := ?_) rfl (by decide +kernel) (by decide +kernel) (by decide +kernel) (fun _ _ _ h => h) (Or.inl ⟨by rfl, ?_⟩) hb0 ?_
      case refine_2 =>
        intro w' hSw
        have q0' := keepcell hSw q0
        have c1' := keepcell hSw c1
        have d0' := keepcell hSw d0
        have d1' := keepcell hSw d1
        go_simp
        try (with_reducible rfl)
      try simp only [Act.put, List.setIfInBounds_toArray, List.set_cons_zero, List.set_cons_succ]
      refine wpM_take (i := 13) (oi := ⟨some 35, _, _, _, _, _⟩) (v := ?_) rfl (by decide +kernel) (by decide +kernel) (by decide +kernel) (fun _ _ _ h => h) (Or.inl ⟨by rfl, ?_⟩) hb0 ?_
      case refine_2 =>
        intro w' hSw
        have q0' := keepcell hSw q0
        have c1' := keepcell hSw c1
        have d0' := keepcell hSw d0
        have d1' := keepcell hSw d1
        go_simp
        try (with_reducible rfl)
      try simp only [Act.put, List.setIfInBounds_toArray, List.set_cons_zero, List.set_cons_succ]
      refine wpM_take (i := 14) (oi := ⟨some 36, _, _, _, _, _⟩) (v := ?_) rfl (by decide +kernel) (by decide +kernel) (by decide +kernel) (fun _ _ _ h => h) (Or.inl ⟨by rfl, ?_⟩) hb0 ?_
      case refine_2 =>
        intro w' hSw
        have q0' := keepcell hSw q0
        have c1' := keepcell hSw c1
        have d0' := keepcell hSw d0
        have d1' := keepcell hSw d1
        go_simp
        try (with_reducible rfl)
      try simp only [Act.put, List.setIfInBounds_toArray, List.set_cons_zero, List.set_cons_succ]
      refine wpM_take (i := 15) (oi := ⟨some 37, _, _, _, _, _⟩) (v := ?_) rfl (by decide +kernel) (by decide +kernel) (by decide +kernel) (fun _ _ _ h => h) (Or.inl ⟨by rfl, ?_⟩) hb0 ?_
      case refine_2 =>
        intro w' hSw
        have q0' := keepcell hSw q0
        have c1' := keepcell hSw c1
        have d0' := keepcell hSw d0
        have d1' := keepcell hSw d1
        go_simp
        try (with_reducible rfl)
      try simp only [Act.put, List.setIfInBounds_toArray, List.set_cons_zero, List.set_cons_succ]
      refine wpM_step (i := 16) (o := ⟨some 38, _, _, _, _, _⟩) rfl (by decide +kernel) (by decide) (fun KK hK => ?_)
      go_simp
      refine CN.out.mono ?_
      rintro e y1 ⟨v1, rfl, hv1, hb1⟩
      have hb01 : Below X0.heap.size X0 y1 := hb0.trans (hb1.mono hb0.size)
      have HOy1 := Lib.hid (HOy.out.keep hb1)
      have HV1 := Lib.hid (hv1.mono HOy.out.below.size (show 6 ≤ 13 by decide))
      clear hv1 hb1
      obtain ⟨sv, Av, nv, cv, rfl⟩ := HV1.out.expose
      refine hK.out _ _ hb01 ?_
      clear hK KK
      try simp only [Act.put, List.setIfInBounds_toArray, List.set_cons_zero, List.set_cons_succ]
      refine wpM_take (i := 17) (oi := ⟨some 39, _, _, _, _, _⟩) (v := ?_) rfl (by decide +kernel) (by decide +kernel) (by decide +kernel) (fun _ _ _ h => h) (Or.inl ⟨by rfl, ?_⟩) hb01 ?_
      case refine_2 =>
        intro w' hSw
        have q0' := keepcell hSw q0
        have c1' := keepcell hSw c1
        have d0' := keepcell hSw d0
        have d1' := keepcell hSw d1
        go_simp
        try (with_reducible rfl)
      try simp only [Act.put, List.setIfInBounds_toArray, List.set_cons_zero, List.set_cons_succ]
      refine wpM_done (by decide +kernel) ?_
      simp only [List.drop_succ_cons, List.drop_zero]
      clear q0 c1 d0 d1
      obtain ⟨⟨uu0, g0⟩, z0, ⟨uu1, g1⟩, z1⟩ := (HOy1.out.rw).ready iv hivL sv
      have HSTF := Lib.hid (HOy1.out.setL iv hivL ⟨sv, Av, nv, cv, pn⟩ HV1.out)
      go_wp2
      go_roundw
      case rel => exact ⟨k + 1, _, by go_num, hlt, by rw [List.length_set]; exact HL.out, by rw [List.map_set, HZ.out, HSN.out], HSTF.out⟩
      case measure => simp [intOf]; omega
    · obtain rfl : k = x.n := by omega
      have hlt2 : ¬ ((x.n : Int) < (x.n : Int)) := by omega
      have HZF := Lib.hid (show L.map Bg.z = ofZ x.C m by rw [HZ.out, List.take_of_length_le (by rw [HXL.out]; exact Nat.le_refl _)])
      have c0 : X0.cell? ⟨kx, 0, none⟩ = some (.int .i64 x.k) := HO.out.kxb.cell 0
      have c1 : X0.cell? ⟨kx, 1, none⟩ = some (.slice x.A x.n x.c) := HO.out.kxb.cell 1
      have CK := Lib.hid (ROf_any x.k X0 H.out.2.2.1.1 H.out.2.2.1.2)
      go_wp2_with fail
      clear c0 c1
      refine CK.out.mono ?_
      rintro e4 w4 ⟨v7, rfl, hv7, hb4⟩
      have HO4 := Lib.hid (HO.out.keep hb4)
      have HV7 := Lib.hid (hv7.mono HO.out.below.size (show 6 ≤ 6 by decide))
      clear hv7 hb4 CK
      obtain ⟨s7, A7, n7, c7, rfl⟩ := HV7.out.expose
      obtain ⟨k7, hk7⟩ : ∃ k, k = w4.heap.size := ⟨_, rfl⟩
      obtain ⟨w5, hw5⟩ : ∃ W, W = w4.alloc (.cells #[.bool s7, .slice A7 n7 c7] 37) := ⟨_, rfl⟩
      have hb5 : Below w4.heap.size w4 w5 := by rw [hw5]; exact (Below.refl _ _).alloc (Nat.le_refl _) _
      have HO5 := Lib.hid (HO4.out.keep hb5)
      have HV75 := Lib.hid (HV7.out.below hb5)
      have K7 := Lib.hid (show Blk w5 k7 37 #[.bool s7, .slice A7 n7 c7] by rw [hw5]; exact Blk.new_ hk7 rfl)
      clear hb5
      go_upto_region 9 with fail
      rw [← hk7, ← hw5]
      clear hk7 hw5
      have e0 : w5.cell? ⟨k7, 0, none⟩ = some (.bool s7) := K7.out.cell 0
      have e1 : w5.cell? ⟨k7, 1, none⟩ = some (.slice A7 n7 c7) := K7.out.cell 1
      have CN := Lib.hid (RNeg_any (.agg #[.bool s7, .slice A7 n7 c7]) x.k 6 w5 HV75.out.bg (by decide))
      go_wp2_with fail
      clear e0 e1
      refine CN.out.mono ?_
      rintro e6 w6 ⟨v8, rfl, hv8, hb6⟩
      have HO6 := Lib.hid (HO5.out.keep hb6)
      have HV76 := Lib.hid (HV75.out.below hb6)
      have K76 := Lib.hid (K7.out.below hb6)
      have HV8 := Lib.hid (hv8.mono HO5.out.below.size (Nat.le_refl _))
      clear hv8 hb6 CN
      obtain ⟨s8, A8, n8, c8, rfl⟩ := HV8.out.expose
      have b1 : w6.cell? ⟨k5, 1, none⟩ = some (.bool bb.neg) := HO6.out.k5b.cell 1
      have f1 := Joins.unfrozen_of_block HO6.out.k5b 1
      have hs1 := (store_step HO6.out.k5b 1 (.bool s8)).1
      have b2 : (w6.setCell ⟨k5, 1, none⟩ (.bool s8)).cell? ⟨k5, 2, none⟩ = some (.slice bb.A bb.n bb.c) := hs1.cell 2
      have f2 := Joins.unfrozen_of_block hs1 2
      have HO7 := Lib.hid (HO6.out.setB ⟨s8, A8, n8, c8, -x.k⟩ HV8.out)
      have K77 := Lib.hid (show Blk ((w6.setCell ⟨k5, 1, none⟩ (.bool s8)).setCell ⟨k5, 2, none⟩ (.slice A8 n8 c8)) k7 37 #[.bool s7, .slice A7 n7 c7] from (K76.out.set_other HO6.out.k5b (by decide) 1 _).set_other hs1 (by decide) 2 _)
      have HV77 := Lib.hid (show NB ((w6.setCell ⟨k5, 1, none⟩ (.bool s8)).setCell ⟨k5, 2, none⟩ (.slice A8 n8 c8)) w.heap.size (.agg #[.bool s7, .slice A7 n7 c7]) x.k 6 from (HV76.out.set_other HO6.out.k5b (by decide) 1 _).set_other hs1 (by decide) 2 _)
      obtain ⟨X1, hX1⟩ : ∃ X, X = (w6.setCell ⟨k5, 1, none⟩ (.bool s8)).setCell ⟨k5, 2, none⟩ (.slice A8 n8 c8) := ⟨_, rfl⟩
      rw [← hX1] at HO7 K77 HV77
      go_upto_region 10 with fail
      rw [← hX1]
      clear hX1 b1 f1 b2 f2 hs1
      have c2 : X1.cell? ⟨kx, 2, none⟩ = some (.bool x.e) := HO7.out.kxb.cell 2
      obtain ⟨eq, heq⟩ : ∃ e, x.e = e := ⟨_, rfl⟩
      rw [heq] at c2
      have HEQ := Lib.hid heq
      have q0 : X1.cell? ⟨k5, 0, none⟩ = some (.slice (some ⟨g, 0, none⟩) m m) := by have := HO7.out.k5b.cell 0; rw [HL.out] at this; exact this
      have q1 : X1.cell? ⟨k5, 1, none⟩ = some (.bool s8) := HO7.out.k5b.cell 1
      have q2 : X1.cell? ⟨k5, 2, none⟩ = some (.slice A8 n8 c8) := HO7.out.k5b.cell 2
      have HG1 := Lib.hid (show Gd X1 ⟨some ⟨g, 0, none⟩, m, m, L, ⟨s8, A8, n8, c8, -x.k⟩⟩ 13 from by have := Gd.of_iqo (HO7.out.iqo (by rw [HL.out]; omega)); rw [HL.out] at this; exact this)
      clear heq
      cases eq with
      | false =>
        have hb1 : Below X1.heap.size X1 (X1.alloc (.cells #[.slice (some ⟨g, 0, none⟩) m m, .bool s8, .slice A8 n8 c8] 44)) := (Below.refl _ _).alloc (Nat.le_refl _) _
        have K8 := Lib.hid (show Blk (X1.alloc (.cells #[.slice (some ⟨g, 0, none⟩) m m, .bool s8, .slice A8 n8 c8] 44)) X1.heap.size 44 #[.slice (some ⟨g, 0, none⟩) m m, .bool s8, .slice A8 n8 c8] from Blk.new_ rfl rfl)
        have HO8 := Lib.hid (HO7.out.below.trans (hb1.mono HO7.out.below.size))
        have HG2 := Lib.hid (HG1.out.mono (N44.of_below hb1))
        clear hb1
        go_wp2
        go_ret
        refine ⟨X1.heap.size, 1, [⟨some ⟨g, 0, none⟩, m, m, L, ⟨s8, A8, n8, c8, -x.k⟩⟩], rfl, blk_at K8.out rfl rfl, fun q hq => ?_, ?_, HO8.out⟩
        · rw [List.mem_singleton.1 hq]; exact HG2.out
        · rw [HZM.out]
          unfold ofM
          rw [HEQ.out, List.map_cons, List.map_nil]
          show [(L.map Bg.z, -x.k)] = _
          rw [HZF.out]
          rfl
      | true =>
        go_upto_region 12 with fail
        have e0 : X1.cell? ⟨k7, 0, none⟩ = some (.bool s7) := K77.out.cell 0
        have e1 : X1.cell? ⟨k7, 1, none⟩ = some (.slice A7 n7 c7) := K77.out.cell 1
        clear c2
        have hb0 : Below X1.heap.size X1 X1.drew := below_drew (Below.refl _ _)
        refine wp_region_mixE (fun w' => Below X1.heap.size X1 w') (by kernel_rfl) ?_
        generalize X1.drew = z0 at hb0 ⊢
        refine wpE_take (i := 0) (oi := ⟨some 52, _, _, _, _, _⟩) (v := ?_) rfl (by decide +kernel) (by decide +kernel) (by decide +kernel) (fun _ _ _ h => h) (Or.inl ⟨by rfl, ?_⟩) hb0 ?_
        case refine_2 =>
            intro w' hSw
            have q0' := keepcell hSw q0
            have q1' := keepcell hSw q1
            have q2' := keepcell hSw q2
            have e0' := keepcell hSw e0
            have e1' := keepcell hSw e1
            go_simp
            try (with_reducible rfl)
        try simp only [Act.put, List.setIfInBounds_toArray, List.set_cons_zero, List.set_cons_succ]
        refine wpE_take (i := 1) (oi := ⟨some 53, _, _, _, _, _⟩) (v := ?_) rfl (by decide +kernel) (by decide +kernel) (by decide +kernel) (fun _ _ _ h => h) (Or.inl ⟨by rfl, ?_⟩) hb0 ?_
        case refine_2 =>
            intro w' hSw
            have q0' := keepcell hSw q0
            have q1' := keepcell hSw q1
            have q2' := keepcell hSw q2
            have e0' := keepcell hSw e0
            have e1' := keepcell hSw e1
            go_simp
            try (with_reducible rfl)
        try simp only [Act.put, List.setIfInBounds_toArray, List.set_cons_zero, List.set_cons_succ]
        refine wpE_take (i := 2) (oi := ⟨some 54, _, _, _, _, _⟩) (v := ?_) rfl (by decide +kernel) (by decide +kernel) (by decide +kernel) (fun _ _ _ h => h) (Or.inl ⟨by rfl, ?_⟩) hb0 ?_
        case refine_2 =>
            intro w' hSw
            have q0' := keepcell hSw q0
            have q1' := keepcell hSw q1
            have q2' := keepcell hSw q2
            have e0' := keepcell hSw e0
            have e1' := keepcell hSw e1
            go_simp
            try (with_reducible rfl)
        try simp only [Act.put, List.setIfInBounds_toArray, List.set_cons_zero, List.set_cons_succ]
        have CF := Lib.hid (flip_any z0 ⟨some ⟨g, 0, none⟩, m, m, L, ⟨s8, A8, n8, c8, -x.k⟩⟩ ⟨s7, A7, n7, c7, x.k⟩ 13 ⟨(HG1.out.mono (N44.of_below hb0)).nrm.1, (HG1.out.mono (N44.of_below hb0)).nrm.2.2.bg⟩ (BG.mono (HV77.out.below hb0).bg (by decide)) (by decide) (by show m ≤ 1000000; omega))
        unfold Iq.val Bg.val at CF
        dsimp only at CF
        refine wpE_step (i := 3) (o := ⟨some 55, _, _, _, _, _⟩) rfl (by decide +kernel) (fun KK hKK => ?_)
        go_simp
        refine CF.out.mono ?_
        rintro e z1 ⟨⟨Af, nf, cf, Lf, bf⟩, rfl, hqm, hqn, hqf, hbn⟩
        have hb1 : Below X1.heap.size X1 z1 := hb0.trans (hbn.mono hb0.size)
        have HQM := Lib.hid hqm
        have HQN := Lib.hid hqn
        have HQF := Lib.hid hqf
        clear hqm hqn hqf
        unfold Iq.val
        dsimp only
        clear hbn
        refine hKK.out _ _ hb1 ?_
        clear hKK KK
        try simp only [Act.put, List.setIfInBounds_toArray, List.set_cons_zero, List.set_cons_succ]
        obtain ⟨z2, hz2⟩ : ∃ z2, z2 = z1.alloc (.cells #[.slice (some ⟨g, 0, none⟩) m m, .bool s8, .slice A8 n8 c8, .slice Af nf cf, .bool bf.neg, .slice bf.A bf.n bf.c] 44) := ⟨_, rfl⟩
        obtain ⟨g8, hg8⟩ : ∃ g8, g8 = z1.heap.size := ⟨_, rfl⟩
        have hbz : Below z1.heap.size z1 z2 := by rw [hz2]; exact (Below.refl _ _).alloc (Nat.le_refl _) _
        have hb2 : Below X1.heap.size X1 z2 := hb1.trans (hbz.mono hb1.size)
        have K8 := Lib.hid (show Blk z2 g8 44 #[.slice (some ⟨g, 0, none⟩) m m, .bool s8, .slice A8 n8 c8, .slice Af nf cf, .bool bf.neg, .slice bf.A bf.n bf.c] by rw [hz2]; exact Blk.new_ hg8 rfl)
        have HF1 := Lib.hid (HG1.out.mono (N44.of_below hb2))
        have HF2 := Lib.hid ((Gd.of_iqf HQF.out).mono (N44.of_below hbz))
        clear hbz
        refine wpE_step (i := 4) (o := ⟨some 56, _, _, _, _, _⟩) rfl (by decide +kernel) (fun KK hKK => ?_)
        go_simp
        rw [← hz2, ← hg8]
        refine hKK.out _ _ hb2 ?_
        clear hKK KK hz2 hg8
        try simp only [Act.put, List.setIfInBounds_toArray, List.set_cons_zero, List.set_cons_succ]
        refine wpE_take (i := 5) (oi := ⟨some 4, _, _, _, _, _⟩) (v := ?_) rfl (by decide +kernel) (by decide +kernel) (by decide +kernel) (fun _ _ _ h => h) (Or.inl ⟨by rfl, ?_⟩) hb2 ?_
        case refine_2 =>
            intro w' hSw
            skip
            go_simp
            try (with_reducible rfl)
        try simp only [Act.put, List.setIfInBounds_toArray, List.set_cons_zero, List.set_cons_succ]
        refine wpE_done (by decide +kernel) ?_
        clear q0 q1 q2 e0 e1
        have HBF := Lib.hid (HO7.out.below.trans (hb2.mono HO7.out.below.size))
        clear hb0 hb1 hb2
        go_wp2
        go_ret
        refine ⟨g8, 2, [⟨some ⟨g, 0, none⟩, m, m, L, ⟨s8, A8, n8, c8, -x.k⟩⟩, ⟨Af, nf, cf, Lf, bf⟩], rfl, blk_at K8.out rfl rfl, fun q hq => ?_, ?_, HBF.out⟩
        · simp only [List.mem_cons, List.not_mem_nil, or_false] at hq
          rcases hq with rfl | rfl
          · exact HF1.out
          · exact HF2.out
        · rw [HZM.out]
          unfold ofM
          rw [HEQ.out, if_pos rfl, List.map_cons, List.map_cons, List.map_nil, HQM.out]
          show [(L.map Bg.z, -x.k), (L.map (fun b => -b.z), x.k)] = _
          rw [HZF.out, ← HZF.out, List.map_map]
          rfl
end Go.Proofs.Ythfolccofjaknaa
