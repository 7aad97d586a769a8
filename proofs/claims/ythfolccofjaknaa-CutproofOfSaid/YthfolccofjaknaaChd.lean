/- Whether an inequality holds for some numbers. -/
import Derived.Test.YthfolccofjaknaaCwt
import Derived.Test.YthfolccofjaknaaCso
import Derived.Test.YthfolccofjaknaaBrv
import Derived.Test.YthfolccofjaknaaBrz
import Derived.Test.YthfolccofjaknaaMA
namespace Go.Proofs.Ythfolccofjaknaa
open Go.ChangeShapes Go.WideShapes Go.ChangeAt Go.RowKit Go.ChangeMaps

theorem dotM_snoc : ∀ (a x : List Int) (k : Nat) (h1 : k < a.length) (h2 : k < x.length), dotM (a.take (k + 1)) (x.take (k + 1)) = dotM (a.take k) (x.take k) + a[k] * x[k]
  | [], _, _, h1, _ => by simp at h1
  | _ :: _, [], _, _, h2 => by simp at h2
  | a :: l, y :: x, 0, _, _ => by simp [dotM]
  | a :: l, y :: x, k + 1, h1, h2 => by
    have h := dotM_snoc l x k (by simpa using h1) (by simpa using h2)
    rw [List.take_succ_cons, List.take_succ_cons, List.take_succ_cons, List.take_succ_cons]
    simp only [dotM, h, List.getElem_cons_succ]
    omega
theorem dotM_abs (M : Nat) : ∀ (a x : List Int), (∀ z ∈ a, z.natAbs ≤ M) → (∀ z ∈ x, z.natAbs ≤ M) → (dotM a x).natAbs ≤ a.length * (M * M)
  | [], _, _, _ => by simp [dotM]
  | _ :: _, [], _, _ => by simp [dotM]
  | a :: l, y :: x, h1, h2 => by
    have h := dotM_abs M l x (fun z hz => h1 z (List.mem_cons_of_mem _ hz)) (fun z hz => h2 z (List.mem_cons_of_mem _ hz))
    have g := Nat.mul_le_mul (h1 a List.mem_cons_self) (h2 y List.mem_cons_self)
    rw [← Int.natAbs_mul] at g
    simp only [dotM, List.length_cons, Nat.add_mul, Nat.one_mul]
    have := Int.natAbs_add_le (a * y) (dotM l x)
    omega
theorem dot_fit {L X : List Bg} {w : World} {N k : Nat} (hL : ∀ b ∈ L, b.ok w N) (hX : ∀ b ∈ X, b.ok w N) (hk : L.length < 4294967296) : (dotM ((L.map Bg.z).take k) ((X.map Bg.z).take k)).natAbs < 4294967296 ^ (2 * N + 1) := by
  have h := dotM_abs (4294967296 ^ N) ((L.map Bg.z).take k) ((X.map Bg.z).take k) (fun z hz => by
      obtain ⟨b, hb, rfl⟩ := List.mem_map.1 (List.mem_of_mem_take hz)
      exact Nat.le_of_lt (BG.abs (hL b hb))) (fun z hz => by
      obtain ⟨b, hb, rfl⟩ := List.mem_map.1 (List.mem_of_mem_take hz)
      exact Nat.le_of_lt (BG.abs (hX b hb)))
  rw [← Nat.pow_add, ← Nat.two_mul] at h
  refine fits h (m := L.length) ?_ hk
  rw [List.length_take, List.length_map]
  omega
theorem mul_fit {a b : Bg} {w : World} {N : Nat} (ha : a.ok w N) (hb : b.ok w N) : (a.z * b.z).natAbs < 4294967296 ^ (2 * N) := by
  rw [Int.natAbs_mul, Nat.two_mul, Nat.pow_add]
  exact Nat.mul_lt_mul'' (BG.abs ha) (BG.abs hb)
structure HLD (w wr : World) (kx ks : Nat) (q : Iq) (b : Bg) (K : Nat) : Prop where
  below : Below w.heap.size w wr
  kq : Blk wr kx 44 #[.slice q.A q.n q.c, .bool q.b.neg, .slice q.b.A q.b.n q.b.c]
  kb : Blk wr ks 37 #[.bool b.neg, .slice b.A b.n b.c]
  nb : NB wr w.heap.size b.val b.z K
  hks : w.heap.size ≤ ks
theorem HLD.keep {w wr w2 : World} {kx ks K : Nat} {q : Iq} {b : Bg} (h : HLD w wr kx ks q b K) (hb : Below wr.heap.size wr w2) : HLD w w2 kx ks q b K :=
  ⟨h.below.trans (hb.mono h.below.size), h.kq.below hb, h.kb.below hb, h.nb.below hb, h.hks⟩
theorem HLD.set {w wr : World} {kx ks K : Nat} {q : Iq} {b : Bg} (h : HLD w wr kx ks q b K) (c : Bg) (hc : NB wr w.heap.size c.val c.z K) : HLD w ((wr.setCell ⟨ks, 0, none⟩ (.bool c.neg)).setCell ⟨ks, 1, none⟩ (.slice c.A c.n c.c)) kx ks q c K := by
  have s0 := store_step h.kb 0 (.bool c.neg)
  have s1 := store_step s0.1 1 (.slice c.A c.n c.c)
  have g : ∀ {v : Value} {z : Int}, NB wr w.heap.size v z K → NB ((wr.setCell ⟨ks, 0, none⟩ (.bool c.neg)).setCell ⟨ks, 1, none⟩ (.slice c.A c.n c.c)) w.heap.size v z K := fun hv => (hv.set_other h.kb (by decide) 0 _).set_other s0.1 (by decide) 1 _
  exact ⟨s1.2.2 _ _ (s0.2.2 _ _ h.below h.hks) h.hks, (h.kq.set_other h.kb (by decide) 0 _).set_other s0.1 (by decide) 1 _, s1.1, g hc, h.hks⟩
theorem cmp_le (a b : Int) : decide (cmpZ a b ≤ 0) = decide (a ≤ b) := by
  unfold cmpZ
  refine decide_eq_decide.2 ?_
  split
  · omega
  · split <;> omega
set_option maxRecDepth 100000 in
set_option maxHeartbeats 4000000 in
theorem Holds_any (w : World) (q : Iq) (A : Option Addr) (n c : Nat) (X : List Bg) (N : Nat) (h : q.ok w N) (hx : Bigs w A n X N) (hN : N ≤ 1000) (hqn : q.n < 4294967296) : Calls Try.prog 25 #[q.val, .slice A n c] w fun e w' => e = .returned (.bool (hldM q.m (X.map Bg.z))) ∧ Below w.heap.size w w' := by
  obtain ⟨r, hr⟩ : ∃ r, hldM q.m (X.map Bg.z) = r := ⟨_, rfl⟩
  rw [hr]
  obtain ⟨QA, qn, qc, L, qb⟩ := q
  dsimp only at hqn
  have HL := Lib.hid (show L.length = qn from h.1.len)
  have HXL := Lib.hid hx.len
  have HE := Lib.hid (show r = (decide (qn = n) && decide (dotM (L.map Bg.z) (X.map Bg.z) ≤ qb.z)) by
    rw [← hr, ← HL.out, ← hx.len]; unfold hldM Iq.m; simp only [List.length_map])
  have HFIT := Lib.hid (show ∀ k, (dotM ((L.map Bg.z).take k) ((X.map Bg.z).take k)).natAbs < 4294967296 ^ (2 * N + 1) from fun k => dot_fit h.1.2.2 hx.2.2 (by rw [HL.out]; exact hqn))
  have HLA := Lib.hid h.1
  have HXA := Lib.hid hx
  have HQB := Lib.hid (show qb.ok w N from h.2)
  have hn63 := hx.2.1
  clear hr h hx
  unfold Iq.val
  dsimp only
  obtain ⟨kx, hkx⟩ : ∃ kx, kx = w.heap.size := ⟨_, rfl⟩
  obtain ⟨W1, hW1⟩ : ∃ W1, W1 = w.alloc (.cells #[.slice QA qn qc, .bool qb.neg, .slice qb.A qb.n qb.c] 44) := ⟨_, rfl⟩
  have HB1 := Lib.hid (show Below w.heap.size w W1 by rw [hW1]; exact (Below.refl _ _).alloc (Nat.le_refl _) _)
  have KX := Lib.hid (show Blk W1 kx 44 #[.slice QA qn qc, .bool qb.neg, .slice qb.A qb.n qb.c] by rw [hW1]; exact Blk.new_ hkx rfl)
  have hkxw : kx < W1.heap.size := KX.out.lt
  go_enter Try.func25, Try.ntmps25
  go_upto_region 1 with fail
  rw [← hkx, ← hW1]
  have c0 : W1.cell? ⟨kx, 0, none⟩ = some (.slice QA qn qc) := KX.out.cell 0
  by_cases hnn : qn = n
  case neg =>
    have hni : ((qn : Int) == (n : Int)) = false := by simpa using (show ¬ (qn : Int) = (n : Int) by omega)
    have HR := Lib.hid (show r = false by rw [HE.out, decide_eq_false hnn, Bool.false_and])
    clear hnn hkx hW1
    go_wp2
    go_ret
    exact ⟨by rw [HR.out]; rfl, HB1.out⟩
  subst hnn
  have HEE := Lib.hid (show r = decide (dotM (L.map Bg.z) (X.map Bg.z) ≤ qb.z) by rw [HE.out, decide_eq_true rfl, Bool.true_and])
  obtain ⟨ks, hks⟩ : ∃ ks, ks = W1.heap.size := ⟨_, rfl⟩
  obtain ⟨W2, hW2⟩ : ∃ W2, W2 = W1.alloc (.cells #[.bool false, .slice none 0 0] 37) := ⟨_, rfl⟩
  have hb2 : Below W1.heap.size W1 W2 := by rw [hW2]; exact (Below.refl _ _).alloc (Nat.le_refl _) _
  have HH := Lib.hid (show HLD w W2 kx ks ⟨QA, qn, qc, L, qb⟩ Bg.zero (2 * N + 1) from ⟨HB1.out.trans (hb2.mono HB1.out.size), KX.out.below hb2, by rw [hW2]; exact Blk.new_ hks rfl, (NB.zero _ _).mono (Nat.le_refl _) (Nat.zero_le _), by have := HB1.out.size; omega⟩)
  clear hb2 hkx hW1
  go_upto_region 4 with fail
  rw [← hks, ← hW2]
  clear hks hW2 c0
  have c0 : W2.cell? ⟨kx, 0, none⟩ = some (.slice QA qn qc) := HH.out.kq.cell 0
  go_wp2
  clear c0
  go_loopw [18] (fun si wr => ∃ (k : Nat) (b : Bg), si = .int .i64 (k : Int) ∧ k ≤ qn ∧ b.z = dotM ((L.map Bg.z).take k) ((X.map Bg.z).take k) ∧ HLD w wr kx ks ⟨QA, qn, qc, L, qb⟩ b (2 * N + 1)) (fun si _ => qn - (intOf si).toNat)
  case atStart => exact ⟨0, Bg.zero, rfl, Nat.zero_le _, rfl, HH.out⟩
  case round =>
    obtain ⟨k, b, rfl, hkn, hbz, hh⟩ := hrel
    generalize wr = X0 at *
    have HBZ := Lib.hid hbz
    have HHX := Lib.hid hh
    clear hbz hh
    by_cases hlt : k < qn
    · have hki : (k : Int) < (qn : Int) := by omega
      have hk0 : (0 : Int) ≤ (k : Int) := by omega
      have hkL : k < L.length := by rw [HL.out]; exact hlt
      have hkX : k < X.length := by rw [HXL.out]; exact hlt
      have HSN := Lib.hid (dotM_snoc (L.map Bg.z) (X.map Bg.z) k (by rw [List.length_map]; exact hkL) (by rw [List.length_map]; exact hkX))
      rw [List.getElem_map, List.getElem_map] at HSN
      have HNX := Lib.hid (HFIT.out (k + 1))
      obtain ⟨bA, off, rfl, -, hcl⟩ := HLA.out.at (by omega)
      obtain ⟨bX, offX, rfl, -, hcx⟩ := HXA.out.at (by omega)
      obtain ⟨d0, d1⟩ := hcl X0 HHX.out.below k hkL
      obtain ⟨e0, e1⟩ := hcx X0 HHX.out.below k hkX
      have HCX := Lib.hid (fun W hW => hcx W hW k hkX)
      have HA1 := Lib.hid (HLA.out.2.2 _ (List.getElem_mem hkL))
      have HX1 := Lib.hid (HXA.out.2.2 _ (List.getElem_mem hkX))
      clear hcl hcx
      generalize L[k] = a at *
      generalize X[k] = x at *
      have HNZ := Lib.hid (show (b.z + a.z * x.z).natAbs < 4294967296 ^ (2 * N + 1) by rw [HBZ.out, ← HSN.out]; exact HNX.out)
      have HMZ := Lib.hid (mul_fit HA1.out HX1.out)
      obtain ⟨ka, hka⟩ : ∃ ka, ka = X0.heap.size := ⟨_, rfl⟩
      obtain ⟨X1, hX1⟩ : ∃ X1, X1 = X0.alloc (.cells #[.bool a.neg, .slice a.A a.n a.c] 37) := ⟨_, rfl⟩
      have hb1 : Below X0.heap.size X0 X1 := by rw [hX1]; exact (Below.refl _ _).alloc (Nat.le_refl _) _
      have HHY := Lib.hid (HHX.out.keep hb1)
      have KA := Lib.hid (show Blk X1 ka 37 #[.bool a.neg, .slice a.A a.n a.c] by rw [hX1]; exact Blk.new_ hka rfl)
      clear hb1
      go_upto_region 7 with fail
      rw [← hka, ← hX1]
      clear hka hX1 d0 d1 e0 e1
      obtain ⟨e0, e1⟩ := HCX.out X1 HHY.out.below
      have d0 : X1.cell? ⟨ka, 0, none⟩ = some (.bool a.neg) := KA.out.cell 0
      have d1 : X1.cell? ⟨ka, 1, none⟩ = some (.slice a.A a.n a.c) := KA.out.cell 1
      have s0 : X1.cell? ⟨ks, 0, none⟩ = some (.bool b.neg) := HHY.out.kb.cell 0
      have s1 : X1.cell? ⟨ks, 1, none⟩ = some (.slice b.A b.n b.c) := HHY.out.kb.cell 1
      have hb0 : Below X1.heap.size X1 X1.drew := below_drew (Below.refl _ _)
      refine wp_region_mix 8 (fun w' => Below X1.heap.size X1 w') (by kernel_rfl) (by decide) ?_
      have HHz := Lib.hid (HHY.out.keep hb0)
      generalize X1.drew = y0 at hb0 HHz ⊢
      have CM := Lib.hid (Mul_any a.val x.val a.z x.z N N y0 (HA1.out.below HHz.out.below) (HX1.out.below HHz.out.below) (by omega) (by omega))
      unfold Bg.val at CM
      refine wpM_take (i := 0) (oi := ⟨some 23, _, _, _, _, _⟩) (v := ?_) rfl (by decide +kernel) (by decide +kernel) (by decide +kernel) (fun _ _ _ h => h) (Or.inl ⟨by rfl, ?_⟩) hb0 ?_
      case refine_2 =>
        intro w' hSw
        have s0' := keepcell hSw s0
        have s1' := keepcell hSw s1
        have d0' := keepcell hSw d0
        have d1' := keepcell hSw d1
        have e0' := keepcell hSw e0
        have e1' := keepcell hSw e1
        go_simp
        try (with_reducible rfl)
      try simp only [Act.put, List.setIfInBounds_toArray, List.set_cons_zero, List.set_cons_succ]
      refine wpM_take (i := 1) (oi := ⟨some 24, _, _, _, _, _⟩) (v := ?_) rfl (by decide +kernel) (by decide +kernel) (by decide +kernel) (fun _ _ _ h => h) (Or.inl ⟨by rfl, ?_⟩) hb0 ?_
      case refine_2 =>
        intro w' hSw
        have s0' := keepcell hSw s0
        have s1' := keepcell hSw s1
        have d0' := keepcell hSw d0
        have d1' := keepcell hSw d1
        have e0' := keepcell hSw e0
        have e1' := keepcell hSw e1
        go_simp
        try (with_reducible rfl)
      try simp only [Act.put, List.setIfInBounds_toArray, List.set_cons_zero, List.set_cons_succ]
      refine wpM_take (i := 2) (oi := ⟨some 25, _, _, _, _, _⟩) (v := ?_) rfl (by decide +kernel) (by decide +kernel) (by decide +kernel) (fun _ _ _ h => h) (Or.inl ⟨by rfl, ?_⟩) hb0 ?_
      case refine_2 =>
        intro w' hSw
        have s0' := keepcell hSw s0
        have s1' := keepcell hSw s1
        have d0' := keepcell hSw d0
        have d1' := keepcell hSw d1
        have e0' := keepcell hSw e0
        have e1' := keepcell hSw e1
        go_simp
        try (with_reducible rfl)
      try simp only [Act.put, List.setIfInBounds_toArray, List.set_cons_zero, List.set_cons_succ]
      refine wpM_take (i := 3) (oi := ⟨some 26, _, _, _, _, _⟩) (v := ?_) rfl (by decide +kernel) (by decide +kernel) (by decide +kernel) (fun _ _ _ h => h) (Or.inl ⟨by rfl, ?_⟩) hb0 ?_
      case refine_2 =>
        intro w' hSw
        have s0' := keepcell hSw s0
        have s1' := keepcell hSw s1
        have d0' := keepcell hSw d0
        have d1' := keepcell hSw d1
        have e0' := keepcell hSw e0
        have e1' := keepcell hSw e1
        go_simp
        try (with_reducible rfl)
      try simp only [Act.put, List.setIfInBounds_toArray, List.set_cons_zero, List.set_cons_succ]
      refine wpM_take (i := 4) (oi := ⟨some 27, _, _, _, _, _⟩) (v := ?_) rfl (by decide +kernel) (by decide +kernel) (by decide +kernel) (fun _ _ _ h => h) (Or.inl ⟨by rfl, ?_⟩) hb0 ?_
      case refine_2 =>
        intro w' hSw
        have s0' := keepcell hSw s0
        have s1' := keepcell hSw s1
        have d0' := keepcell hSw d0
        have d1' := keepcell hSw d1
        have e0' := keepcell hSw e0
        have e1' := keepcell hSw e1
        go_simp
        try (with_reducible rfl)
      try simp only [Act.put, List.setIfInBounds_toArray, List.set_cons_zero, List.set_cons_succ]
      refine wpM_take (i := 5) (oi := ⟨some 28, _, _, _, _, _⟩) (v := ?_) rfl (by decide +kernel) (by decide +kernel) (by decide +kernel) (fun _ _ _ h => h) (Or.inl ⟨by rfl, ?_⟩) hb0 ?_
      case refine_2 =>
        intro w' hSw
        have s0' := keepcell hSw s0
        have s1' := keepcell hSw s1
        have d0' := keepcell hSw d0
        have d1' := keepcell hSw d1
        have e0' := keepcell hSw e0
        have e1' := keepcell hSw e1
        go_simp
        try (with_reducible rfl)
      try simp only [Act.put, List.setIfInBounds_toArray, List.set_cons_zero, List.set_cons_succ]
      refine wpM_step (i := 6) (o := ⟨some 29, _, _, _, _, _⟩) rfl (by decide +kernel) (by decide) (fun KK hK => ?_)
      go_simp
      refine CM.out.mono ?_
      rintro e y1 ⟨v1, rfl, hv1, hb1⟩
      have hb01 : Below X1.heap.size X1 y1 := hb0.trans (hb1.mono hb0.size)
      have HHz1 := Lib.hid (HHz.out.keep hb1)
      have HV1 := Lib.hid (hv1.tight HMZ.out).bg
      clear hv1 hb1
      refine hK.out _ _ hb01 ?_
      clear hK KK
      try simp only [Act.put, List.setIfInBounds_toArray, List.set_cons_zero, List.set_cons_succ]
      have CA := Lib.hid (Add_any b.val v1 b.z (a.z * x.z) (2 * N + 1) (2 * N) y1 HHz1.out.nb.bg HV1.out (by omega) (by omega))
      unfold Bg.val at CA
      refine wpM_step (i := 7) (o := ⟨some 30, _, _, _, _, _⟩) rfl (by decide +kernel) (by decide) (fun KK hK => ?_)
      go_simp
      refine CA.out.mono ?_
      rintro e y2 ⟨v2, rfl, hv2, hb2⟩
      have hb02 : Below X1.heap.size X1 y2 := hb01.trans (hb2.mono hb01.size)
      have HHz2 := Lib.hid (HHz1.out.keep hb2)
      have HV2 := Lib.hid ((hv2.mono HHz1.out.below.size (Nat.le_refl _)).tight HNZ.out)
      clear hv2 hb2
      refine hK.out _ _ hb02 ?_
      clear hK KK
      try simp only [Act.put, List.setIfInBounds_toArray, List.set_cons_zero, List.set_cons_succ]
      obtain ⟨sb, Av, nv, cv, rfl⟩ := HV2.out.expose
      refine wpM_done (by decide +kernel) ?_
      simp only [List.drop_succ_cons, List.drop_zero]
      clear s0 s1 d0 d1 e0 e1
      have b0 : y2.cell? ⟨ks, 0, none⟩ = some (.bool b.neg) := HHz2.out.kb.cell 0
      have f0 := Joins.unfrozen_of_block HHz2.out.kb 0
      have hk1 : Blk (y2.setCell ⟨ks, 0, none⟩ (.bool sb)) ks 37 #[.bool sb, .slice b.A b.n b.c] := Joins.block_setCell HHz2.out.kb _
      have b1 : (y2.setCell ⟨ks, 0, none⟩ (.bool sb)).cell? ⟨ks, 1, none⟩ = some (.slice b.A b.n b.c) := hk1.cell 1
      have f1 := Joins.unfrozen_of_block hk1 1
      have HSTF := Lib.hid (HHz2.out.set ⟨sb, Av, nv, cv, b.z + a.z * x.z⟩ HV2.out)
      clear hk1
      go_wp2
      go_roundw
      case rel => exact ⟨k + 1, ⟨sb, Av, nv, cv, b.z + a.z * x.z⟩, by go_num, hlt, by rw [HSN.out, HBZ.out], HSTF.out⟩
      case measure => simp [intOf]; omega
    · obtain rfl : k = qn := by omega
      have hlt2 : ¬ ((k : Int) < (k : Int)) := by omega
      have HR := Lib.hid (show r = decide (b.z ≤ qb.z) by
        rw [HEE.out, HBZ.out, List.take_of_length_le (by rw [List.length_map, HL.out]; exact Nat.le_refl _), List.take_of_length_le (by rw [List.length_map, HXL.out]; exact Nat.le_refl _)])
      have s0 : X0.cell? ⟨ks, 0, none⟩ = some (.bool b.neg) := HHX.out.kb.cell 0
      have s1 : X0.cell? ⟨ks, 1, none⟩ = some (.slice b.A b.n b.c) := HHX.out.kb.cell 1
      have q1 : X0.cell? ⟨kx, 1, none⟩ = some (.bool qb.neg) := HHX.out.kq.cell 1
      have q2 : X0.cell? ⟨kx, 2, none⟩ = some (.slice qb.A qb.n qb.c) := HHX.out.kq.cell 2
      have CC := Lib.hid (Compare_any b.val qb.val b.z qb.z (2 * N + 1) X0 HHX.out.nb.bg ((HQB.out.below HHX.out.below).mono (by omega)) (by omega))
      have HCZ := Lib.hid (cmp_le b.z qb.z)
      unfold Bg.val at CC
      generalize cmpZ b.z qb.z = cz at CC HCZ
      go_wp2_with fail
      clear s0 s1 q1 q2
      refine CC.out.mono ?_
      rintro e5 w5 ⟨rfl, hb5⟩
      have HB5 := Lib.hid (HHX.out.below.trans (hb5.mono HHX.out.below.size))
      clear hb5 CC
      go_wp2
      go_ret
      exact ⟨by rw [HR.out, ← HCZ.out]; rfl, HB5.out⟩
set_option maxRecDepth 100000 in
set_option maxHeartbeats 4000000 in
theorem RHolds_any (w : World) (q : Iq) (A : Option Addr) (n c : Nat) (X : List Bg) (N : Nat) (h : q.ok w N) (hx : Bigs w A n X N) (hN : N ≤ 1000) (hqn : q.n < 4294967296) : Calls Try.prog 26 #[q.val, .slice A n c] w fun e w' => e = .returned (.bool (hldM q.m (X.map Bg.z))) ∧ Below w.heap.size w w' := by
  obtain ⟨r, hr⟩ : ∃ r, hldM q.m (X.map Bg.z) = r := ⟨_, rfl⟩
  rw [hr]
  obtain ⟨QA, qn, qc, L, qb⟩ := q
  dsimp only at hqn
  have HL := Lib.hid (show L.length = qn from h.1.len)
  have HXL := Lib.hid hx.len
  have HE := Lib.hid (show r = (decide (qn = n) && decide (dotM (L.map Bg.z) (X.map Bg.z) ≤ qb.z)) by
    rw [← hr, ← HL.out, ← hx.len]; unfold hldM Iq.m; simp only [List.length_map])
  have HFIT := Lib.hid (show ∀ k, (dotM ((L.map Bg.z).take k) ((X.map Bg.z).take k)).natAbs < 4294967296 ^ (2 * N + 1) from fun k => dot_fit h.1.2.2 hx.2.2 (by rw [HL.out]; exact hqn))
  have HLA := Lib.hid h.1
  have HXA := Lib.hid hx
  have HQB := Lib.hid (show qb.ok w N from h.2)
  have hn63 := hx.2.1
  clear hr h hx
  unfold Iq.val
  dsimp only
  obtain ⟨kx, hkx⟩ : ∃ kx, kx = w.heap.size := ⟨_, rfl⟩
  obtain ⟨W1, hW1⟩ : ∃ W1, W1 = w.alloc (.cells #[.slice QA qn qc, .bool qb.neg, .slice qb.A qb.n qb.c] 44) := ⟨_, rfl⟩
  have HB1 := Lib.hid (show Below w.heap.size w W1 by rw [hW1]; exact (Below.refl _ _).alloc (Nat.le_refl _) _)
  have KX := Lib.hid (show Blk W1 kx 44 #[.slice QA qn qc, .bool qb.neg, .slice qb.A qb.n qb.c] by rw [hW1]; exact Blk.new_ hkx rfl)
  have hkxw : kx < W1.heap.size := KX.out.lt
  go_enter Try.func26, Try.ntmps26
  go_upto_region 1 with fail
  rw [← hkx, ← hW1]
  have c0 : W1.cell? ⟨kx, 0, none⟩ = some (.slice QA qn qc) := KX.out.cell 0
  by_cases hnn : qn = n
  case neg =>
    have hni : ((qn : Int) == (n : Int)) = false := by simpa using (show ¬ (qn : Int) = (n : Int) by omega)
    have HR := Lib.hid (show r = false by rw [HE.out, decide_eq_false hnn, Bool.false_and])
    clear hnn hkx hW1
    go_wp2
    go_ret
    exact ⟨by rw [HR.out]; rfl, HB1.out⟩
  subst hnn
  have HEE := Lib.hid (show r = decide (dotM (L.map Bg.z) (X.map Bg.z) ≤ qb.z) by rw [HE.out, decide_eq_true rfl, Bool.true_and])
  obtain ⟨ks, hks⟩ : ∃ ks, ks = W1.heap.size := ⟨_, rfl⟩
  obtain ⟨W2, hW2⟩ : ∃ W2, W2 = W1.alloc (.cells #[.bool false, .slice none 0 0] 37) := ⟨_, rfl⟩
  have hb2 : Below W1.heap.size W1 W2 := by rw [hW2]; exact (Below.refl _ _).alloc (Nat.le_refl _) _
  have HH := Lib.hid (show HLD w W2 kx ks ⟨QA, qn, qc, L, qb⟩ Bg.zero (2 * N + 1) from ⟨HB1.out.trans (hb2.mono HB1.out.size), KX.out.below hb2, by rw [hW2]; exact Blk.new_ hks rfl, (NB.zero _ _).mono (Nat.le_refl _) (Nat.zero_le _), by have := HB1.out.size; omega⟩)
  clear hb2 hkx hW1
  go_upto_region 4 with fail
  rw [← hks, ← hW2]
  clear hks hW2 c0
  have c0 : W2.cell? ⟨kx, 0, none⟩ = some (.slice QA qn qc) := HH.out.kq.cell 0
  go_wp2
  clear c0
  go_loopw [6] (fun si wr => ∃ (k : Nat) (b : Bg), si = .int .i64 (k : Int) ∧ k ≤ qn ∧ b.z = dotM ((L.map Bg.z).take k) ((X.map Bg.z).take k) ∧ HLD w wr kx ks ⟨QA, qn, qc, L, qb⟩ b (2 * N + 1)) (fun si _ => qn - (intOf si).toNat)
  case atStart => exact ⟨0, Bg.zero, rfl, Nat.zero_le _, rfl, HH.out⟩
  case round =>
    obtain ⟨k, b, rfl, hkn, hbz, hh⟩ := hrel
    generalize wr = X0 at *
    have HBZ := Lib.hid hbz
    have HHX := Lib.hid hh
    clear hbz hh
    by_cases hlt : k < qn
    · have hki : (k : Int) < (qn : Int) := by omega
      have hk0 : (0 : Int) ≤ (k : Int) := by omega
      have hkL : k < L.length := by rw [HL.out]; exact hlt
      have hkX : k < X.length := by rw [HXL.out]; exact hlt
      have HSN := Lib.hid (dotM_snoc (L.map Bg.z) (X.map Bg.z) k (by rw [List.length_map]; exact hkL) (by rw [List.length_map]; exact hkX))
      rw [List.getElem_map, List.getElem_map] at HSN
      have HNX := Lib.hid (HFIT.out (k + 1))
      obtain ⟨bA, off, rfl, -, hcl⟩ := HLA.out.at (by omega)
      obtain ⟨bX, offX, rfl, -, hcx⟩ := HXA.out.at (by omega)
      obtain ⟨d0, d1⟩ := hcl X0 HHX.out.below k hkL
      obtain ⟨e0, e1⟩ := hcx X0 HHX.out.below k hkX
      have HCX := Lib.hid (fun W hW => hcx W hW k hkX)
      have HA1 := Lib.hid (HLA.out.2.2 _ (List.getElem_mem hkL))
      have HX1 := Lib.hid (HXA.out.2.2 _ (List.getElem_mem hkX))
      clear hcl hcx
      generalize L[k] = a at *
      generalize X[k] = x at *
      have HNZ := Lib.hid (show (b.z + a.z * x.z).natAbs < 4294967296 ^ (2 * N + 1) by rw [HBZ.out, ← HSN.out]; exact HNX.out)
      have HMZ := Lib.hid (mul_fit HA1.out HX1.out)
      go_upto_region 7 with fail
      have q0 : X0.cell? ⟨kx, 0, none⟩ = some (.slice (some ⟨bA, off, none⟩) qn qc) := HHX.out.kq.cell 0
      have s0 : X0.cell? ⟨ks, 0, none⟩ = some (.bool b.neg) := HHX.out.kb.cell 0
      have s1 : X0.cell? ⟨ks, 1, none⟩ = some (.slice b.A b.n b.c) := HHX.out.kb.cell 1
      have hb0 : Below X0.heap.size X0 X0.drew := below_drew (Below.refl _ _)
      refine wp_region_mix 12 (fun w' => Below X0.heap.size X0 w') (by kernel_rfl) (by decide) ?_
      have HHz := Lib.hid (HHX.out.keep hb0)
      generalize X0.drew = y0 at hb0 HHz ⊢
      have CM := Lib.hid (RMul_any a.val x.val a.z x.z N y0 (HA1.out.below HHz.out.below) (HX1.out.below HHz.out.below) (by omega))
      unfold Bg.val at CM
      refine wpM_take (i := 0) (oi := ⟨some 20, _, _, _, _, _⟩) (v := ?_) rfl (by decide +kernel) (by decide +kernel) (by decide +kernel) (fun _ _ _ h => h) (Or.inl ⟨by rfl, ?_⟩) hb0 ?_
      case refine_2 =>
        intro w' hSw
        have s0' := keepcell hSw s0
        have s1' := keepcell hSw s1
        have d0' := keepcell hSw d0
        have d1' := keepcell hSw d1
        have e0' := keepcell hSw e0
        have e1' := keepcell hSw e1
        have q0' := keepcell hSw q0
        go_simp
        try (with_reducible rfl)
      try simp only [Act.put, List.setIfInBounds_toArray, List.set_cons_zero, List.set_cons_succ]
      refine wpM_take (i := 1) (oi := ⟨some 21, _, _, _, _, _⟩) (v := ?_) rfl (by decide +kernel) (by decide +kernel) (by decide +kernel) (fun _ _ _ h => h) (Or.inl ⟨by rfl, ?_⟩) hb0 ?_
      case refine_2 =>
        intro w' hSw
        have s0' := keepcell hSw s0
        have s1' := keepcell hSw s1
        have d0' := keepcell hSw d0
        have d1' := keepcell hSw d1
        have e0' := keepcell hSw e0
        have e1' := keepcell hSw e1
        have q0' := keepcell hSw q0
        go_simp
        try (with_reducible rfl)
      try simp only [Act.put, List.setIfInBounds_toArray, List.set_cons_zero, List.set_cons_succ]
      refine wpM_take (i := 2) (oi := ⟨some 22, _, _, _, _, _⟩) (v := ?_) rfl (by decide +kernel) (by decide +kernel) (by decide +kernel) (fun _ _ _ h => h) (Or.inl ⟨by rfl, ?_⟩) hb0 ?_
      case refine_2 =>
        intro w' hSw
        have s0' := keepcell hSw s0
        have s1' := keepcell hSw s1
        have d0' := keepcell hSw d0
        have d1' := keepcell hSw d1
        have e0' := keepcell hSw e0
        have e1' := keepcell hSw e1
        have q0' := keepcell hSw q0
        go_simp
        try (with_reducible rfl)
      try simp only [Act.put, List.setIfInBounds_toArray, List.set_cons_zero, List.set_cons_succ]
      refine wpM_take (i := 3) (oi := ⟨some 23, _, _, _, _, _⟩) (v := ?_) rfl (by decide +kernel) (by decide +kernel) (by decide +kernel) (fun _ _ _ h => h) (Or.inl ⟨by rfl, ?_⟩) hb0 ?_
      case refine_2 =>
        intro w' hSw
        have s0' := keepcell hSw s0
        have s1' := keepcell hSw s1
        have d0' := keepcell hSw d0
        have d1' := keepcell hSw d1
        have e0' := keepcell hSw e0
        have e1' := keepcell hSw e1
        have q0' := keepcell hSw q0
        go_simp
        try (with_reducible rfl)
      try simp only [Act.put, List.setIfInBounds_toArray, List.set_cons_zero, List.set_cons_succ]
      refine wpM_take (i := 4) (oi := ⟨some 24, _, _, _, _, _⟩) (v := ?_) rfl (by decide +kernel) (by decide +kernel) (by decide +kernel) (fun _ _ _ h => h) (Or.inl ⟨by rfl, ?_⟩) hb0 ?_
      case refine_2 =>
        intro w' hSw
        have s0' := keepcell hSw s0
        have s1' := keepcell hSw s1
        have d0' := keepcell hSw d0
        have d1' := keepcell hSw d1
        have e0' := keepcell hSw e0
        have e1' := keepcell hSw e1
        have q0' := keepcell hSw q0
        go_simp
        try (with_reducible rfl)
      try simp only [Act.put, List.setIfInBounds_toArray, List.set_cons_zero, List.set_cons_succ]
      refine wpM_take (i := 5) (oi := ⟨some 25, _, _, _, _, _⟩) (v := ?_) rfl (by decide +kernel) (by decide +kernel) (by decide +kernel) (fun _ _ _ h => h) (Or.inl ⟨by rfl, ?_⟩) hb0 ?_
      case refine_2 =>
        intro w' hSw
        have s0' := keepcell hSw s0
        have s1' := keepcell hSw s1
        have d0' := keepcell hSw d0
        have d1' := keepcell hSw d1
        have e0' := keepcell hSw e0
        have e1' := keepcell hSw e1
        have q0' := keepcell hSw q0
        go_simp
        try (with_reducible rfl)
      try simp only [Act.put, List.setIfInBounds_toArray, List.set_cons_zero, List.set_cons_succ]
      refine wpM_take (i := 6) (oi := ⟨some 26, _, _, _, _, _⟩) (v := ?_) rfl (by decide +kernel) (by decide +kernel) (by decide +kernel) (fun _ _ _ h => h) (Or.inl ⟨by rfl, ?_⟩) hb0 ?_
      case refine_2 =>
        intro w' hSw
        have s0' := keepcell hSw s0
        have s1' := keepcell hSw s1
        have d0' := keepcell hSw d0
        have d1' := keepcell hSw d1
        have e0' := keepcell hSw e0
        have e1' := keepcell hSw e1
        have q0' := keepcell hSw q0
        go_simp
        try (with_reducible rfl)
      try simp only [Act.put, List.setIfInBounds_toArray, List.set_cons_zero, List.set_cons_succ]
      refine wpM_take (i := 7) (oi := ⟨some 27, _, _, _, _, _⟩) (v := ?_) rfl (by decide +kernel) (by decide +kernel) (by decide +kernel) (fun _ _ _ h => h) (Or.inl ⟨by rfl, ?_⟩) hb0 ?_
      case refine_2 =>
        intro w' hSw
        have s0' := keepcell hSw s0
        have s1' := keepcell hSw s1
        have d0' := keepcell hSw d0
        have d1' := keepcell hSw d1
        have e0' := keepcell hSw e0
        have e1' := keepcell hSw e1
        have q0' := keepcell hSw q0
        go_simp
        try (with_reducible rfl)
      try simp only [Act.put, List.setIfInBounds_toArray, List.set_cons_zero, List.set_cons_succ]
      refine wpM_take (i := 8) (oi := ⟨some 28, _, _, _, _, _⟩) (v := ?_) rfl (by decide +kernel) (by decide +kernel) (by decide +kernel) (fun _ _ _ h => h) (Or.inl ⟨by rfl, ?_⟩) hb0 ?_
      case refine_2 =>
        intro w' hSw
        have s0' := keepcell hSw s0
        have s1' := keepcell hSw s1
        have d0' := keepcell hSw d0
        have d1' := keepcell hSw d1
        have e0' := keepcell hSw e0
        have e1' := keepcell hSw e1
        have q0' := keepcell hSw q0
        go_simp
        try (with_reducible rfl)
      try simp only [Act.put, List.setIfInBounds_toArray, List.set_cons_zero, List.set_cons_succ]
      refine wpM_take (i := 9) (oi := ⟨some 29, _, _, _, _, _⟩) (v := ?_) rfl (by decide +kernel) (by decide +kernel) (by decide +kernel) (fun _ _ _ h => h) (Or.inl ⟨by rfl, ?_⟩) hb0 ?_
      case refine_2 =>
        intro w' hSw
        have s0' := keepcell hSw s0
        have s1' := keepcell hSw s1
        have d0' := keepcell hSw d0
        have d1' := keepcell hSw d1
        have e0' := keepcell hSw e0
        have e1' := keepcell hSw e1
        have q0' := keepcell hSw q0
        go_simp
        try (with_reducible rfl)
      try simp only [Act.put, List.setIfInBounds_toArray, List.set_cons_zero, List.set_cons_succ]
      refine wpM_step (i := 10) (o := ⟨some 30, _, _, _, _, _⟩) rfl (by decide +kernel) (by decide) (fun KK hK => ?_)
      go_simp
      refine CM.out.mono ?_
      rintro e y1 ⟨v1, rfl, hv1, hb1⟩
      have hb01 : Below X0.heap.size X0 y1 := hb0.trans (hb1.mono hb0.size)
      have HHz1 := Lib.hid (HHz.out.keep hb1)
      have HV1 := Lib.hid (hv1.tight HMZ.out).bg
      clear hv1 hb1
      refine hK.out _ _ hb01 ?_
      clear hK KK
      try simp only [Act.put, List.setIfInBounds_toArray, List.set_cons_zero, List.set_cons_succ]
      have CA := Lib.hid (RAdd_any b.val v1 b.z (a.z * x.z) (2 * N + 1) y1 HHz1.out.nb.bg (HV1.out.mono (by omega)) (by omega))
      unfold Bg.val at CA
      refine wpM_step (i := 11) (o := ⟨some 31, _, _, _, _, _⟩) rfl (by decide +kernel) (by decide) (fun KK hK => ?_)
      go_simp
      refine CA.out.mono ?_
      rintro e y2 ⟨v2, rfl, hv2, hb2⟩
      have hb02 : Below X0.heap.size X0 y2 := hb01.trans (hb2.mono hb01.size)
      have HHz2 := Lib.hid (HHz1.out.keep hb2)
      have HV2 := Lib.hid ((hv2.mono HHz1.out.below.size (Nat.le_refl _)).tight HNZ.out)
      clear hv2 hb2
      refine hK.out _ _ hb02 ?_
      clear hK KK
      try simp only [Act.put, List.setIfInBounds_toArray, List.set_cons_zero, List.set_cons_succ]
      obtain ⟨sb, Av, nv, cv, rfl⟩ := HV2.out.expose
      refine wpM_done (by decide +kernel) ?_
      simp only [List.drop_succ_cons, List.drop_zero]
      clear s0 s1 d0 d1 e0 e1 q0
      have b0 : y2.cell? ⟨ks, 0, none⟩ = some (.bool b.neg) := HHz2.out.kb.cell 0
      have f0 := Joins.unfrozen_of_block HHz2.out.kb 0
      have hk1 : Blk (y2.setCell ⟨ks, 0, none⟩ (.bool sb)) ks 37 #[.bool sb, .slice b.A b.n b.c] := Joins.block_setCell HHz2.out.kb _
      have b1 : (y2.setCell ⟨ks, 0, none⟩ (.bool sb)).cell? ⟨ks, 1, none⟩ = some (.slice b.A b.n b.c) := hk1.cell 1
      have f1 := Joins.unfrozen_of_block hk1 1
      have HSTF := Lib.hid (HHz2.out.set ⟨sb, Av, nv, cv, b.z + a.z * x.z⟩ HV2.out)
      clear hk1
      go_wp2
      go_roundw
      case rel => exact ⟨k + 1, ⟨sb, Av, nv, cv, b.z + a.z * x.z⟩, by go_num, hlt, by rw [HSN.out, HBZ.out], HSTF.out⟩
      case measure => simp [intOf]; omega
    · obtain rfl : k = qn := by omega
      have hlt2 : ¬ ((k : Int) < (k : Int)) := by omega
      have HR := Lib.hid (show r = decide (b.z ≤ qb.z) by
        rw [HEE.out, HBZ.out, List.take_of_length_le (by rw [List.length_map, HL.out]; exact Nat.le_refl _), List.take_of_length_le (by rw [List.length_map, HXL.out]; exact Nat.le_refl _)])
      have s0 : X0.cell? ⟨ks, 0, none⟩ = some (.bool b.neg) := HHX.out.kb.cell 0
      have s1 : X0.cell? ⟨ks, 1, none⟩ = some (.slice b.A b.n b.c) := HHX.out.kb.cell 1
      have q1 : X0.cell? ⟨kx, 1, none⟩ = some (.bool qb.neg) := HHX.out.kq.cell 1
      have q2 : X0.cell? ⟨kx, 2, none⟩ = some (.slice qb.A qb.n qb.c) := HHX.out.kq.cell 2
      have CC := Lib.hid (RCompare_any b.val qb.val b.z qb.z (2 * N + 1) X0 HHX.out.nb.bg ((HQB.out.below HHX.out.below).mono (by omega)) (by omega))
      have HCZ := Lib.hid (cmp_le b.z qb.z)
      unfold Bg.val at CC
      generalize cmpZ b.z qb.z = cz at CC HCZ
      go_wp2_with fail
      clear s0 s1 q1 q2
      refine CC.out.mono ?_
      rintro e5 w5 ⟨rfl, hb5⟩
      have HB5 := Lib.hid (HHX.out.below.trans (hb5.mono HHX.out.below.size))
      clear hb5 CC
      go_wp2
      go_ret
      exact ⟨by rw [HR.out, ← HCZ.out]; rfl, HB5.out⟩
end Go.Proofs.Ythfolccofjaknaa
