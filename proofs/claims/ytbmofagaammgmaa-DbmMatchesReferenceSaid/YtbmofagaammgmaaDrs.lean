/- The reference's Solution. -/
import Derived.Test.YtbmofagaammgmaaDst
namespace Go.Proofs.Ytbmofagaammgmaa
open Go.ChangeShapes Go.WideShapes Go.ChangeAt Go.RowKit Go.ChangeMaps

noncomputable def solM (B : List Bd) : Bool := open Classical in decide (∃ Y : Nat → Int, ∀ b ∈ B, Y b.i - Y b.j ≤ b.c)
theorem solM_t {B : List Bd} (h : ∃ Y : Nat → Int, ∀ b ∈ B, Y b.i - Y b.j ≤ b.c) : solM B = true := by unfold solM; exact @decide_eq_true _ (Classical.propDecidable _) h
theorem solM_f {B : List Bd} (h : ¬ ∃ Y : Nat → Int, ∀ b ∈ B, Y b.i - Y b.j ≤ b.c) : solM B = false := by unfold solM; exact @decide_eq_false _ (Classical.propDecidable _) h
def GB (N : Nat) (x : List Int) (t : Nat) : Prop := x.length = N ∧ ∀ v, v < N → -((t : Int) * 1125899906842624) ≤ x.getD v 0 ∧ x.getD v 0 ≤ 0
theorem GB.step {N t : Nat} {s : List Int × Bool} (h : GB N s.1 t) (b : Bd) (hi : b.i < N) (hj : b.j < N) (hc : -1125899906842624 ≤ b.c) : GB N (gst s b).1 (t + 1) := by
  obtain ⟨h1, h2⟩ := h
  have e : ((t + 1 : Nat) : Int) * 1125899906842624 = (t : Int) * 1125899906842624 + 1125899906842624 := by rw [Int.natCast_add, Int.add_mul]; omega
  unfold gst
  split
  · rename_i hv
    refine ⟨by simp [h1], fun v hv' => ?_⟩
    have g := getD_set s.1 b.i v (s.1.getD b.j 0 + b.c) (by rw [h1]; exact hi)
    dsimp only
    rw [g, e]
    have a1 := h2 b.i hi
    have a2 := h2 b.j hj
    have a3 := h2 v hv'
    split <;> omega
  · refine ⟨h1, fun v hv' => ?_⟩
    have a3 := h2 v hv'
    rw [e]
    omega
theorem GB.mono {N t t' : Nat} {x : List Int} (h : GB N x t) (ht : t ≤ t') : GB N x t' := ⟨h.1, fun v hv => by have := h.2 v hv; omega⟩
def SoP (B : List Bd) (w : World) (e : Ending) (w' : World) : Prop := ∃ (A : Option Addr) (k c : Nat), e = .returned (.tuple #[.slice A k c, .bool (solM B)]) ∧ Below w.heap.size w w'
set_option maxRecDepth 100000 in
set_option maxHeartbeats 4000000 in
theorem Solution_any (w : World) (n : Nat) (hn : n ≤ 10) (A : Option Addr) (m c0 : Nat) (R : List Rb) (h : Rbs w A m R) (hm : m ≤ 40) (hok : ∀ b ∈ R, okB n b = true) (c : Nat × Nat → Int) (P : List (Nat × Nat)) (hs : Sys (R.map toBd) c P) (hP : ∀ p ∈ P, p.1 < n + 1 ∧ p.2 < n + 1) :
    Calls Try.prog 14 #[.int .i64 (n : Int), .slice A m c0] w (SoP (R.map toBd) w) := by
  have HL := Lib.hid h.len
  have HA := Lib.hid h.at
  obtain ⟨B, hB⟩ : ∃ B, B = R.map toBd := ⟨_, rfl⟩
  have hBl : B.length = m := by rw [hB, List.length_map, h.len]
  have HBN := Lib.hid (show ∀ b ∈ B, b.i < n + 1 ∧ b.j < n + 1 ∧ -1125899906842624 ≤ b.c ∧ b.c ≤ 1125899906842624 from fun b hb => by
    rw [hB] at hb
    obtain ⟨x, hx, rfl⟩ := List.mem_map.1 hb
    have := hok x hx
    unfold okB at this
    obtain ⟨q1, q2, q3, q4⟩ := addE_ok (of_decide_eq_true this)
    unfold toBd
    dsimp only
    omega)
  have HIJ := Lib.hid (show ∀ x ∈ R, (0 ≤ x.i ∧ x.i ≤ (n : Int)) ∧ 0 ≤ x.j ∧ x.j ≤ (n : Int) from fun x hx => by
    have := hok x hx
    unfold okB at this
    obtain ⟨q1, q2, q3, q4⟩ := addE_ok (of_decide_eq_true this)
    exact ⟨q1, q2⟩)
  have HBB := Lib.hid (show ∀ b ∈ B, b.i < n + 1 ∧ b.j < n + 1 from fun b hb => ⟨(HBN.out b hb).1, (HBN.out b hb).2.1⟩)
  have HDONE := Lib.hid (show (∃ Y : Nat → Int, ∀ b ∈ B, Y b.i - Y b.j ≤ b.c) → (grd B (gsk B (n + 1) n)).2 = false from fun ⟨Y, hY⟩ => by
    have := gsk_done (B := B) (N := n + 1) (by rw [hB]; exact hs) HBB.out hP Y hY (by omega)
    rw [show n + 1 - 1 = n by omega] at this
    exact this)
  have HBE := Lib.hid hB
  rw [← hB]
  clear h hok hs hP hB
  have hmk : ∀ w, (Instr.makeSlice 28 (.int .i64 ((n : Int) + 1)) (.int .i64 ((n : Int) + 1))).run Try.prog w = .ok (.slice (some ⟨w.heap.size, 0, none⟩) (n + 1) (n + 1)) (w.alloc (.cells (ics (List.replicate (n + 1) 0)) 2)) := make28 (n + 1) (by omega)
  have hw1 : IntKind.i64.wrap ((n : Int) + 1) = (n : Int) + 1 := IntWalk.i64_in _ (by omega)
  obtain ⟨gx, hgx⟩ : ∃ gx, gx = w.heap.size := ⟨_, rfl⟩
  have HX0 := Lib.hid (show RW (w.alloc (.cells (ics (List.replicate (n + 1) 0)) 2)) gx 2 (gsk B (n + 1) 0) by rw [hgx]; exact RW.made w 2 _)
  have HB0 := Lib.hid (show Below w.heap.size w (w.alloc (.cells (ics (List.replicate (n + 1) 0)) 2)) from (Below.refl _ _).alloc (Nat.le_refl _) _)
  have HG0 := Lib.hid (show GB (n + 1) (gsk B (n + 1) 0) 0 from ⟨by unfold gsk; simp, fun v hv => by unfold gsk; simp [List.getD, hv]⟩)
  have hgw : w.heap.size ≤ gx := by omega
  have HGX := Lib.hid hgx
  clear hgx
  obtain ⟨sv, hsv⟩ : ∃ b, solM B = b := ⟨_, rfl⟩
  have HSV := Lib.hid hsv
  have HPOST := Lib.hid (show ∀ (A : Option Addr) (k c : Nat) (w' : World), Below w.heap.size w w' → SoP B w (.returned (.tuple #[.slice A k c, .bool sv])) w' from fun A k c w' hb => ⟨A, k, c, by rw [hsv], hb⟩)
  clear hsv
  go_enter Try.func14, Try.ntmps14
  go_wp2
  rw [← HGX.out]
  go_loopw [7] (fun s7 wr => ∃ r : Nat, s7 = .int .i64 (r : Int) ∧ r ≤ n + 2 ∧ RW wr gx 2 (gsk B (n + 1) r) ∧ GB (n + 1) (gsk B (n + 1) r) (r * m) ∧ (∀ j, j < r → (grd B (gsk B (n + 1) j)).2 = true) ∧ Below w.heap.size w wr) (fun s7 _ => n + 2 - (intOf s7).toNat)
  case atStart => exact ⟨0, rfl, Nat.zero_le _, HX0.out, by rw [Nat.zero_mul]; exact HG0.out, fun j hj => by omega, HB0.out⟩
  case round =>
    obtain ⟨r, rfl, hrn, hX, hG, hch, hB⟩ := hrel
    have HX := Lib.hid hX
    have HG := Lib.hid hG
    have HCH := Lib.hid hch
    have HB := Lib.hid hB
    clear hX hG hch hB
    by_cases hr : r ≤ n + 1
    · have hri : (r : Int) ≤ (n : Int) + 1 := by omega
      have hrm : r * m + m ≤ 480 := by
        have h1 := Nat.mul_le_mul (show r + 1 ≤ 12 by omega) hm
        rw [Nat.succ_mul] at h1
        omega
      obtain ⟨X, hXe⟩ : ∃ X, X = gsk B (n + 1) r := ⟨_, rfl⟩
      rw [← hXe] at HX HG
      have HXE := Lib.hid hXe
      clear hXe
      generalize wr = W at *
      go_wp2
      go_loopw [8, 9] (fun s8 s9 wr => ∃ (q : Nat) (st : List Int × Bool), s9 = .int .i64 (q : Int) ∧ s8 = .bool st.2 ∧ q ≤ m ∧ (B.take q).foldl gst (X, false) = st ∧ RW wr gx 2 st.1 ∧ GB (n + 1) st.1 (r * m + q) ∧ Below w.heap.size w wr) (fun _ s9 _ => m - (intOf s9).toNat)
      case atStart => exact ⟨0, (X, false), rfl, rfl, Nat.zero_le _, rfl, HX.out, HG.out, HB.out⟩
      case round =>
        obtain ⟨q, st, rfl, rfl, hqm, hst, hX, hG, hB⟩ := hrel
        have HST := Lib.hid hst
        have HX4 := Lib.hid hX
        have HG4 := Lib.hid hG
        have HB4 := Lib.hid hB
        clear hst hX hG hB
        generalize wr = W4 at *
        by_cases hlq : q < m
        · have hqi : (q : Int) < (m : Int) := by omega
          have hq0 : (0 : Int) ≤ (q : Int) := by omega
          have hqR : q < R.length := by rw [HL.out]; exact hlq
          have hqB : q < B.length := by omega
          obtain ⟨bA, off, rfl, hbl, hc⟩ := HA.out (by omega)
          have HCC := Lib.hid (fun w' (hw : Below w.heap.size w w') => hc w' hw q hqR)
          have hij := HIJ.out _ (List.getElem_mem hqR)
          have hBq : B[q] = toBd R[q] := by
            have e := HBE.out
            subst e
            rw [List.getElem_map]
          have HFS := Lib.hid (show (B.take (q + 1)).foldl gst (X, false) = gst st B[q] by
            rw [List.take_succ_eq_append_getElem hqB, List.foldl_append, HST.out]
            rfl)
          have HBQ := Lib.hid (HBN.out _ (List.getElem_mem hqB))
          rw [hBq] at HFS HBQ
          clear hc hbl hBq
          generalize R[q] = x at *
          obtain ⟨xi0, xj0, cc⟩ := x
          dsimp only at hij HCC
          obtain ⟨a, rfl⟩ : ∃ a : Nat, xi0 = (a : Int) := ⟨xi0.toNat, by omega⟩
          obtain ⟨b, rfl⟩ : ∃ b : Nat, xj0 = (b : Int) := ⟨xj0.toNat, by omega⟩
          have e0 : toBd ⟨(a : Int), (b : Int), cc⟩ = ⟨a, b, cc⟩ := by unfold toBd; simp
          rw [e0] at HFS HBQ
          have hbq := HBQ.out
          dsimp only at hbq
          have hgs := HG4.out.step ⟨a, b, cc⟩ hbq.1 hbq.2.1 hbq.2.2.1
          have hva := HG4.out.2 a hbq.1
          have hvb := HG4.out.2 b hbq.2.1
          have hX1 : st.1.length = n + 1 := HG4.out.1
          have HGS := Lib.hid hgs
          obtain ⟨va, hvae⟩ : ∃ va, st.1.getD a 0 = va := ⟨_, rfl⟩
          obtain ⟨vb, hvbe⟩ : ∃ vb, st.1.getD b 0 = vb := ⟨_, rfl⟩
          have HGST := Lib.hid (show gst st ⟨a, b, cc⟩ = if va > vb + cc then (st.1.set a (vb + cc), true) else st by
            unfold gst
            dsimp only
            rw [hvae, hvbe])
          rw [hvae] at hva
          rw [hvbe] at hvb
          have HVA := Lib.hid hvae
          have HVB := Lib.hid hvbe
          clear hgs hvae hvbe e0
          have hai : (a : Int) < (n : Int) + 1 := by omega
          have hbi : (b : Int) < (n : Int) + 1 := by omega
          have ha0 : (0 : Int) ≤ (a : Int) := by omega
          have hb0' : (0 : Int) ≤ (b : Int) := by omega
          have hwr : IntKind.i64.wrap (vb + cc) = vb + cc := IntWalk.i64_in _ (by omega)
          have HBI := Lib.hid hbq
          clear hbq hva hvb hij
          obtain ⟨r0, r1, r2⟩ := HCC.out W4 HB4.out
          have xi : W4.cell? ⟨gx, a, none⟩ = some (.int .i64 va) := by rw [← HVA.out]; exact HX4.out.cell (by omega)
          have xj : W4.cell? ⟨gx, b, none⟩ = some (.int .i64 vb) := by rw [← HVB.out]; exact HX4.out.cell (by omega)
          by_cases hgt : va > vb + cc
          · have HFN := Lib.hid (show (B.take (q + 1)).foldl gst (X, false) = (st.1.set a (vb + cc), true) by rw [HFS.out, HGST.out, if_pos hgt])
            have HG8 := Lib.hid (show GB (n + 1) (st.1.set a (vb + cc)) (r * m + (q + 1)) by have := HGS.out; rw [HGST.out, if_pos hgt] at this; exact this)
            go_upto_region 9 with fail
            have hb0 : Below W4.heap.size W4 W4.drew := below_drew (Below.refl _ _)
            refine wp_region_mixE (fun w' => Below W4.heap.size W4 w') (by kernel_rfl) ?_
            have HX5 := Lib.hid (HX4.out.below hb0)
            have HB5 := Lib.hid (HB4.out.trans (hb0.mono HB4.out.size))
            have r0n := keepcell hb0 r0
            have r1n := keepcell hb0 r1
            have r2n := keepcell hb0 r2
            generalize W4.drew = W5 at hb0 HX5 HB5 r0n r1n r2n ⊢
            refine wpE_take (i := 0) (oi := ⟨some 27, _, _, _, _, _⟩) (v := ?_) rfl (by decide +kernel) (by decide +kernel) (by decide +kernel) (fun _ _ _ h => h) (Or.inl ⟨by rfl, ?_⟩) hb0 ?_
            case refine_2 =>
              intro w' hSw
              have r0' := keepcell hSw r0
              have r1' := keepcell hSw r1
              have r2' := keepcell hSw r2
              have xi' := keepcell hSw xi
              have xj' := keepcell hSw xj
              go_simp
              try (with_reducible rfl)
            try simp only [Act.put, List.setIfInBounds_toArray, List.set_cons_zero, List.set_cons_succ]
            refine wpE_take (i := 1) (oi := ⟨some 28, _, _, _, _, _⟩) (v := ?_) rfl (by decide +kernel) (by decide +kernel) (by decide +kernel) (fun _ _ _ h => h) (Or.inl ⟨by rfl, ?_⟩) hb0 ?_
            case refine_2 =>
              intro w' hSw
              have r0' := keepcell hSw r0
              have r1' := keepcell hSw r1
              have r2' := keepcell hSw r2
              have xi' := keepcell hSw xi
              have xj' := keepcell hSw xj
              go_simp
              try (with_reducible rfl)
            try simp only [Act.put, List.setIfInBounds_toArray, List.set_cons_zero, List.set_cons_succ]
            refine wpE_take (i := 2) (oi := ⟨some 29, _, _, _, _, _⟩) (v := ?_) rfl (by decide +kernel) (by decide +kernel) (by decide +kernel) (fun _ _ _ h => h) (Or.inl ⟨by rfl, ?_⟩) hb0 ?_
            case refine_2 =>
              intro w' hSw
              have r0' := keepcell hSw r0
              have r1' := keepcell hSw r1
              have r2' := keepcell hSw r2
              have xi' := keepcell hSw xi
              have xj' := keepcell hSw xj
              go_simp
              try (with_reducible rfl)
            try simp only [Act.put, List.setIfInBounds_toArray, List.set_cons_zero, List.set_cons_succ]
            refine wpE_take (i := 3) (oi := ⟨some 30, _, _, _, _, _⟩) (v := ?_) rfl (by decide +kernel) (by decide +kernel) (by decide +kernel) (fun _ _ _ h => h) (Or.inl ⟨by rfl, ?_⟩) hb0 ?_
            case refine_2 =>
              intro w' hSw
              have r0' := keepcell hSw r0
              have r1' := keepcell hSw r1
              have r2' := keepcell hSw r2
              have xi' := keepcell hSw xi
              have xj' := keepcell hSw xj
              go_simp
              try (with_reducible rfl)
            try simp only [Act.put, List.setIfInBounds_toArray, List.set_cons_zero, List.set_cons_succ]
            refine wpE_take (i := 4) (oi := ⟨some 31, _, _, _, _, _⟩) (v := ?_) rfl (by decide +kernel) (by decide +kernel) (by decide +kernel) (fun _ _ _ h => h) (Or.inl ⟨by rfl, ?_⟩) hb0 ?_
            case refine_2 =>
              intro w' hSw
              have r0' := keepcell hSw r0
              have r1' := keepcell hSw r1
              have r2' := keepcell hSw r2
              have xi' := keepcell hSw xi
              have xj' := keepcell hSw xj
              go_simp
              try (with_reducible rfl)
            try simp only [Act.put, List.setIfInBounds_toArray, List.set_cons_zero, List.set_cons_succ]
            refine wpE_take (i := 5) (oi := ⟨some 32, _, _, _, _, _⟩) (v := ?_) rfl (by decide +kernel) (by decide +kernel) (by decide +kernel) (fun _ _ _ h => h) (Or.inl ⟨by rfl, ?_⟩) hb0 ?_
            case refine_2 =>
              intro w' hSw
              have r0' := keepcell hSw r0
              have r1' := keepcell hSw r1
              have r2' := keepcell hSw r2
              have xi' := keepcell hSw xi
              have xj' := keepcell hSw xj
              go_simp
              try (with_reducible rfl)
            try simp only [Act.put, List.setIfInBounds_toArray, List.set_cons_zero, List.set_cons_succ]
            refine wpE_take (i := 6) (oi := ⟨some 33, _, _, _, _, _⟩) (v := ?_) rfl (by decide +kernel) (by decide +kernel) (by decide +kernel) (fun _ _ _ h => h) (Or.inl ⟨by rfl, ?_⟩) hb0 ?_
            case refine_2 =>
              intro w' hSw
              have r0' := keepcell hSw r0
              have r1' := keepcell hSw r1
              have r2' := keepcell hSw r2
              have xi' := keepcell hSw xi
              have xj' := keepcell hSw xj
              go_simp
              try (with_reducible rfl)
            try simp only [Act.put, List.setIfInBounds_toArray, List.set_cons_zero, List.set_cons_succ]
            refine wpE_take (i := 7) (oi := ⟨some 34, _, _, _, _, _⟩) (v := ?_) rfl (by decide +kernel) (by decide +kernel) (by decide +kernel) (fun _ _ _ h => h) (Or.inl ⟨by rfl, ?_⟩) hb0 ?_
            case refine_2 =>
              intro w' hSw
              have r0' := keepcell hSw r0
              have r1' := keepcell hSw r1
              have r2' := keepcell hSw r2
              have xi' := keepcell hSw xi
              have xj' := keepcell hSw xj
              go_simp
              try (with_reducible rfl)
            try simp only [Act.put, List.setIfInBounds_toArray, List.set_cons_zero, List.set_cons_succ]
            refine wpE_take (i := 8) (oi := ⟨some 35, _, _, _, _, _⟩) (v := ?_) rfl (by decide +kernel) (by decide +kernel) (by decide +kernel) (fun _ _ _ h => h) (Or.inl ⟨by rfl, ?_⟩) hb0 ?_
            case refine_2 =>
              intro w' hSw
              have r0' := keepcell hSw r0
              have r1' := keepcell hSw r1
              have r2' := keepcell hSw r2
              have xi' := keepcell hSw xi
              have xj' := keepcell hSw xj
              go_simp
              try (with_reducible rfl)
            try simp only [Act.put, List.setIfInBounds_toArray, List.set_cons_zero, List.set_cons_succ]
            refine wpE_take (i := 9) (oi := ⟨some 36, _, _, _, _, _⟩) (v := ?_) rfl (by decide +kernel) (by decide +kernel) (by decide +kernel) (fun _ _ _ h => h) (Or.inl ⟨by rfl, ?_⟩) hb0 ?_
            case refine_2 =>
              intro w' hSw
              have r0' := keepcell hSw r0
              have r1' := keepcell hSw r1
              have r2' := keepcell hSw r2
              have xi' := keepcell hSw xi
              have xj' := keepcell hSw xj
              go_simp
              try (with_reducible rfl)
            try simp only [Act.put, List.setIfInBounds_toArray, List.set_cons_zero, List.set_cons_succ]
            refine wpE_take (i := 10) (oi := ⟨some 37, _, _, _, _, _⟩) (v := ?_) rfl (by decide +kernel) (by decide +kernel) (by decide +kernel) (fun _ _ _ h => h) (Or.inl ⟨by rfl, ?_⟩) hb0 ?_
            case refine_2 =>
              intro w' hSw
              have r0' := keepcell hSw r0
              have r1' := keepcell hSw r1
              have r2' := keepcell hSw r2
              have xi' := keepcell hSw xi
              have xj' := keepcell hSw xj
              go_simp
              try (with_reducible rfl)
            try simp only [Act.put, List.setIfInBounds_toArray, List.set_cons_zero, List.set_cons_succ]
            refine wpE_take (i := 11) (oi := ⟨some 38, _, _, _, _, _⟩) (v := ?_) rfl (by decide +kernel) (by decide +kernel) (by decide +kernel) (fun _ _ _ h => h) (Or.inl ⟨by rfl, ?_⟩) hb0 ?_
            case refine_2 =>
              intro w' hSw
              have r0' := keepcell hSw r0
              have r1' := keepcell hSw r1
              have r2' := keepcell hSw r2
              have xi' := keepcell hSw xi
              have xj' := keepcell hSw xj
              go_simp
              try (with_reducible rfl)
            try simp only [Act.put, List.setIfInBounds_toArray, List.set_cons_zero, List.set_cons_succ]
            refine wpE_take (i := 12) (oi := ⟨some 39, _, _, _, _, _⟩) (v := ?_) rfl (by decide +kernel) (by decide +kernel) (by decide +kernel) (fun _ _ _ h => h) (Or.inl ⟨by rfl, ?_⟩) hb0 ?_
            case refine_2 =>
              intro w' hSw
              have r0' := keepcell hSw r0
              have r1' := keepcell hSw r1
              have r2' := keepcell hSw r2
              have xi' := keepcell hSw xi
              have xj' := keepcell hSw xj
              go_simp
              try (with_reducible rfl)
            try simp only [Act.put, List.setIfInBounds_toArray, List.set_cons_zero, List.set_cons_succ]
            refine wpE_take (i := 13) (oi := ⟨some 40, _, _, _, _, _⟩) (v := ?_) rfl (by decide +kernel) (by decide +kernel) (by decide +kernel) (fun _ _ _ h => h) (Or.inl ⟨by rfl, ?_⟩) hb0 ?_
            case refine_2 =>
              intro w' hSw
              have r0' := keepcell hSw r0
              have r1' := keepcell hSw r1
              have r2' := keepcell hSw r2
              have xi' := keepcell hSw xi
              have xj' := keepcell hSw xj
              go_simp
              try (with_reducible rfl)
            try simp only [Act.put, List.setIfInBounds_toArray, List.set_cons_zero, List.set_cons_succ]
            refine wpE_take (i := 14) (oi := ⟨some 41, _, _, _, _, _⟩) (v := ?_) rfl (by decide +kernel) (by decide +kernel) (by decide +kernel) (fun _ _ _ h => h) (Or.inl ⟨by rfl, ?_⟩) hb0 ?_
            case refine_2 =>
              intro w' hSw
              have r0' := keepcell hSw r0
              have r1' := keepcell hSw r1
              have r2' := keepcell hSw r2
              have xi' := keepcell hSw xi
              have xj' := keepcell hSw xj
              go_simp
              try (with_reducible rfl)
            try simp only [Act.put, List.setIfInBounds_toArray, List.set_cons_zero, List.set_cons_succ]
            refine wpE_take (i := 15) (oi := ⟨some 42, _, _, _, _, _⟩) (v := ?_) rfl (by decide +kernel) (by decide +kernel) (by decide +kernel) (fun _ _ _ h => h) (Or.inl ⟨by rfl, ?_⟩) hb0 ?_
            case refine_2 =>
              intro w' hSw
              have r0' := keepcell hSw r0
              have r1' := keepcell hSw r1
              have r2' := keepcell hSw r2
              have xi' := keepcell hSw xi
              have xj' := keepcell hSw xj
              go_simp
              try (with_reducible rfl)
            try simp only [Act.put, List.setIfInBounds_toArray, List.set_cons_zero, List.set_cons_succ]
            refine wpE_take (i := 16) (oi := ⟨some 43, _, _, _, _, _⟩) (v := ?_) rfl (by decide +kernel) (by decide +kernel) (by decide +kernel) (fun _ _ _ h => h) (Or.inl ⟨by rfl, ?_⟩) hb0 ?_
            case refine_2 =>
              intro w' hSw
              have r0' := keepcell hSw r0
              have r1' := keepcell hSw r1
              have r2' := keepcell hSw r2
              have xi' := keepcell hSw xi
              have xj' := keepcell hSw xj
              go_simp
              try (with_reducible rfl)
            try simp only [Act.put, List.setIfInBounds_toArray, List.set_cons_zero, List.set_cons_succ]
            refine wpE_take (i := 17) (oi := ⟨some 44, _, _, _, _, _⟩) (v := ?_) rfl (by decide +kernel) (by decide +kernel) (by decide +kernel) (fun _ _ _ h => h) (Or.inl ⟨by rfl, ?_⟩) hb0 ?_
            case refine_2 =>
              intro w' hSw
              have r0' := keepcell hSw r0
              have r1' := keepcell hSw r1
              have r2' := keepcell hSw r2
              have xi' := keepcell hSw xi
              have xj' := keepcell hSw xj
              go_simp
              try (with_reducible rfl)
            try simp only [Act.put, List.setIfInBounds_toArray, List.set_cons_zero, List.set_cons_succ]
            refine wpE_take (i := 18) (oi := ⟨some 45, _, _, _, _, _⟩) (v := ?_) rfl (by decide +kernel) (by decide +kernel) (by decide +kernel) (fun _ _ _ h => h) (Or.inl ⟨by rfl, ?_⟩) hb0 ?_
            case refine_2 =>
              intro w' hSw
              have r0' := keepcell hSw r0
              have r1' := keepcell hSw r1
              have r2' := keepcell hSw r2
              have xi' := keepcell hSw xi
              have xj' := keepcell hSw xj
              go_simp
              try (with_reducible rfl)
            try simp only [Act.put, List.setIfInBounds_toArray, List.set_cons_zero, List.set_cons_succ]
            refine wpE_take (i := 19) (oi := ⟨some 46, _, _, _, _, _⟩) (v := ?_) rfl (by decide +kernel) (by decide +kernel) (by decide +kernel) (fun _ _ _ h => h) (Or.inl ⟨by rfl, ?_⟩) hb0 ?_
            case refine_2 =>
              intro w' hSw
              have r0' := keepcell hSw r0
              have r1' := keepcell hSw r1
              have r2' := keepcell hSw r2
              have xi' := keepcell hSw xi
              have xj' := keepcell hSw xj
              go_simp
              try (with_reducible rfl)
            try simp only [Act.put, List.setIfInBounds_toArray, List.set_cons_zero, List.set_cons_succ]
            refine wpE_take (i := 20) (oi := ⟨some 47, _, _, _, _, _⟩) (v := ?_) rfl (by decide +kernel) (by decide +kernel) (by decide +kernel) (fun _ _ _ h => h) (Or.inl ⟨by rfl, ?_⟩) hb0 ?_
            case refine_2 =>
              intro w' hSw
              have r0' := keepcell hSw r0
              have r1' := keepcell hSw r1
              have r2' := keepcell hSw r2
              have xi' := keepcell hSw xi
              have xj' := keepcell hSw xj
              go_simp
              try (with_reducible rfl)
            try simp only [Act.put, List.setIfInBounds_toArray, List.set_cons_zero, List.set_cons_succ]
            refine wpE_take (i := 21) (oi := ⟨some 48, _, _, _, _, _⟩) (v := ?_) rfl (by decide +kernel) (by decide +kernel) (by decide +kernel) (fun _ _ _ h => h) (Or.inl ⟨by rfl, ?_⟩) hb0 ?_
            case refine_2 =>
              intro w' hSw
              have r0' := keepcell hSw r0
              have r1' := keepcell hSw r1
              have r2' := keepcell hSw r2
              have xi' := keepcell hSw xi
              have xj' := keepcell hSw xj
              go_simp
              try (with_reducible rfl)
            try simp only [Act.put, List.setIfInBounds_toArray, List.set_cons_zero, List.set_cons_succ]
            refine wpE_take (i := 22) (oi := ⟨some 49, _, _, _, _, _⟩) (v := .bool true) rfl (by decide +kernel) (by decide +kernel) (by decide +kernel) (fun _ _ _ h => h) (Or.inl ⟨by rfl, ?_⟩) hb0 ?_
            case refine_1 =>
              intro w' hSw
              go_simp
              try (with_reducible rfl)
            try simp only [Act.put, List.setIfInBounds_toArray, List.set_cons_zero, List.set_cons_succ]
            refine wpE_done (by decide +kernel) ?_
            clear r0 r1 r2 xi xj hb0 HX4 HB4
            go_upto_region 10 with fail
            have r0 := r0n
            have r1 := r1n
            have r2 := r2n
            clear r0n r1n r2n
            have xi : W5.cell? ⟨gx, a, none⟩ = some (.int .i64 va) := by rw [← HVA.out]; exact HX5.out.cell (by omega)
            have xj : W5.cell? ⟨gx, b, none⟩ = some (.int .i64 vb) := by rw [← HVB.out]; exact HX5.out.cell (by omega)
            have hb0 : Below W5.heap.size W5 W5.drew := below_drew (Below.refl _ _)
            refine wp_region_mix 21 (fun w' => Below W5.heap.size W5 w') (by kernel_rfl) (by decide) ?_
            have HX6 := Lib.hid (HX5.out.below hb0)
            have HB6 := Lib.hid (HB5.out.trans (hb0.mono HB5.out.size))
            generalize W5.drew = W6 at hb0 HX6 HB6 ⊢
            refine wpM_take (i := 0) (oi := ⟨some 50, _, _, _, _, _⟩) (v := ?_) rfl (by decide +kernel) (by decide +kernel) (by decide +kernel) (fun _ _ _ h => h) (Or.inl ⟨by rfl, ?_⟩) hb0 ?_
            case refine_2 =>
              intro w' hSw
              have r0' := keepcell hSw r0
              have r1' := keepcell hSw r1
              have r2' := keepcell hSw r2
              have xi' := keepcell hSw xi
              have xj' := keepcell hSw xj
              go_simp
              try (with_reducible rfl)
            try simp only [Act.put, List.setIfInBounds_toArray, List.set_cons_zero, List.set_cons_succ]
            refine wpM_take (i := 1) (oi := ⟨some 51, _, _, _, _, _⟩) (v := ?_) rfl (by decide +kernel) (by decide +kernel) (by decide +kernel) (fun _ _ _ h => h) (Or.inl ⟨by rfl, ?_⟩) hb0 ?_
            case refine_2 =>
              intro w' hSw
              have r0' := keepcell hSw r0
              have r1' := keepcell hSw r1
              have r2' := keepcell hSw r2
              have xi' := keepcell hSw xi
              have xj' := keepcell hSw xj
              go_simp
              try (with_reducible rfl)
            try simp only [Act.put, List.setIfInBounds_toArray, List.set_cons_zero, List.set_cons_succ]
            refine wpM_take (i := 2) (oi := ⟨some 52, _, _, _, _, _⟩) (v := ?_) rfl (by decide +kernel) (by decide +kernel) (by decide +kernel) (fun _ _ _ h => h) (Or.inl ⟨by rfl, ?_⟩) hb0 ?_
            case refine_2 =>
              intro w' hSw
              have r0' := keepcell hSw r0
              have r1' := keepcell hSw r1
              have r2' := keepcell hSw r2
              have xi' := keepcell hSw xi
              have xj' := keepcell hSw xj
              go_simp
              try (with_reducible rfl)
            try simp only [Act.put, List.setIfInBounds_toArray, List.set_cons_zero, List.set_cons_succ]
            refine wpM_take (i := 3) (oi := ⟨some 53, _, _, _, _, _⟩) (v := ?_) rfl (by decide +kernel) (by decide +kernel) (by decide +kernel) (fun _ _ _ h => h) (Or.inl ⟨by rfl, ?_⟩) hb0 ?_
            case refine_2 =>
              intro w' hSw
              have r0' := keepcell hSw r0
              have r1' := keepcell hSw r1
              have r2' := keepcell hSw r2
              have xi' := keepcell hSw xi
              have xj' := keepcell hSw xj
              go_simp
              try (with_reducible rfl)
            try simp only [Act.put, List.setIfInBounds_toArray, List.set_cons_zero, List.set_cons_succ]
            refine wpM_take (i := 4) (oi := ⟨some 54, _, _, _, _, _⟩) (v := ?_) rfl (by decide +kernel) (by decide +kernel) (by decide +kernel) (fun _ _ _ h => h) (Or.inl ⟨by rfl, ?_⟩) hb0 ?_
            case refine_2 =>
              intro w' hSw
              have r0' := keepcell hSw r0
              have r1' := keepcell hSw r1
              have r2' := keepcell hSw r2
              have xi' := keepcell hSw xi
              have xj' := keepcell hSw xj
              go_simp
              try (with_reducible rfl)
            try simp only [Act.put, List.setIfInBounds_toArray, List.set_cons_zero, List.set_cons_succ]
            refine wpM_take (i := 5) (oi := ⟨some 55, _, _, _, _, _⟩) (v := ?_) rfl (by decide +kernel) (by decide +kernel) (by decide +kernel) (fun _ _ _ h => h) (Or.inl ⟨by rfl, ?_⟩) hb0 ?_
            case refine_2 =>
              intro w' hSw
              have r0' := keepcell hSw r0
              have r1' := keepcell hSw r1
              have r2' := keepcell hSw r2
              have xi' := keepcell hSw xi
              have xj' := keepcell hSw xj
              go_simp
              try (with_reducible rfl)
            try simp only [Act.put, List.setIfInBounds_toArray, List.set_cons_zero, List.set_cons_succ]
            refine wpM_take (i := 6) (oi := ⟨some 56, _, _, _, _, _⟩) (v := ?_) rfl (by decide +kernel) (by decide +kernel) (by decide +kernel) (fun _ _ _ h => h) (Or.inl ⟨by rfl, ?_⟩) hb0 ?_
            case refine_2 =>
              intro w' hSw
              have r0' := keepcell hSw r0
              have r1' := keepcell hSw r1
              have r2' := keepcell hSw r2
              have xi' := keepcell hSw xi
              have xj' := keepcell hSw xj
              go_simp
              try (with_reducible rfl)
            try simp only [Act.put, List.setIfInBounds_toArray, List.set_cons_zero, List.set_cons_succ]
            refine wpM_take (i := 7) (oi := ⟨some 57, _, _, _, _, _⟩) (v := ?_) rfl (by decide +kernel) (by decide +kernel) (by decide +kernel) (fun _ _ _ h => h) (Or.inl ⟨by rfl, ?_⟩) hb0 ?_
            case refine_2 =>
              intro w' hSw
              have r0' := keepcell hSw r0
              have r1' := keepcell hSw r1
              have r2' := keepcell hSw r2
              have xi' := keepcell hSw xi
              have xj' := keepcell hSw xj
              go_simp
              try (with_reducible rfl)
            try simp only [Act.put, List.setIfInBounds_toArray, List.set_cons_zero, List.set_cons_succ]
            refine wpM_take (i := 8) (oi := ⟨some 58, _, _, _, _, _⟩) (v := ?_) rfl (by decide +kernel) (by decide +kernel) (by decide +kernel) (fun _ _ _ h => h) (Or.inl ⟨by rfl, ?_⟩) hb0 ?_
            case refine_2 =>
              intro w' hSw
              have r0' := keepcell hSw r0
              have r1' := keepcell hSw r1
              have r2' := keepcell hSw r2
              have xi' := keepcell hSw xi
              have xj' := keepcell hSw xj
              go_simp
              try (with_reducible rfl)
            try simp only [Act.put, List.setIfInBounds_toArray, List.set_cons_zero, List.set_cons_succ]
            refine wpM_take (i := 9) (oi := ⟨some 59, _, _, _, _, _⟩) (v := ?_) rfl (by decide +kernel) (by decide +kernel) (by decide +kernel) (fun _ _ _ h => h) (Or.inl ⟨by rfl, ?_⟩) hb0 ?_
            case refine_2 =>
              intro w' hSw
              have r0' := keepcell hSw r0
              have r1' := keepcell hSw r1
              have r2' := keepcell hSw r2
              have xi' := keepcell hSw xi
              have xj' := keepcell hSw xj
              go_simp
              try (with_reducible rfl)
            try simp only [Act.put, List.setIfInBounds_toArray, List.set_cons_zero, List.set_cons_succ]
            refine wpM_take (i := 10) (oi := ⟨some 60, _, _, _, _, _⟩) (v := ?_) rfl (by decide +kernel) (by decide +kernel) (by decide +kernel) (fun _ _ _ h => h) (Or.inl ⟨by rfl, ?_⟩) hb0 ?_
            case refine_2 =>
              intro w' hSw
              have r0' := keepcell hSw r0
              have r1' := keepcell hSw r1
              have r2' := keepcell hSw r2
              have xi' := keepcell hSw xi
              have xj' := keepcell hSw xj
              go_simp
              try (with_reducible rfl)
            try simp only [Act.put, List.setIfInBounds_toArray, List.set_cons_zero, List.set_cons_succ]
            refine wpM_take (i := 11) (oi := ⟨some 61, _, _, _, _, _⟩) (v := ?_) rfl (by decide +kernel) (by decide +kernel) (by decide +kernel) (fun _ _ _ h => h) (Or.inl ⟨by rfl, ?_⟩) hb0 ?_
            case refine_2 =>
              intro w' hSw
              have r0' := keepcell hSw r0
              have r1' := keepcell hSw r1
              have r2' := keepcell hSw r2
              have xi' := keepcell hSw xi
              have xj' := keepcell hSw xj
              go_simp
              try (with_reducible rfl)
            try simp only [Act.put, List.setIfInBounds_toArray, List.set_cons_zero, List.set_cons_succ]
            refine wpM_take (i := 12) (oi := ⟨some 62, _, _, _, _, _⟩) (v := ?_) rfl (by decide +kernel) (by decide +kernel) (by decide +kernel) (fun _ _ _ h => h) (Or.inl ⟨by rfl, ?_⟩) hb0 ?_
            case refine_2 =>
              intro w' hSw
              have r0' := keepcell hSw r0
              have r1' := keepcell hSw r1
              have r2' := keepcell hSw r2
              have xi' := keepcell hSw xi
              have xj' := keepcell hSw xj
              go_simp
              try (with_reducible rfl)
            try simp only [Act.put, List.setIfInBounds_toArray, List.set_cons_zero, List.set_cons_succ]
            refine wpM_take (i := 13) (oi := ⟨some 63, _, _, _, _, _⟩) (v := ?_) rfl (by decide +kernel) (by decide +kernel) (by decide +kernel) (fun _ _ _ h => h) (Or.inl ⟨by rfl, ?_⟩) hb0 ?_
            case refine_2 =>
              intro w' hSw
              have r0' := keepcell hSw r0
              have r1' := keepcell hSw r1
              have r2' := keepcell hSw r2
              have xi' := keepcell hSw xi
              have xj' := keepcell hSw xj
              go_simp
              try (with_reducible rfl)
            try simp only [Act.put, List.setIfInBounds_toArray, List.set_cons_zero, List.set_cons_succ]
            refine wpM_take (i := 14) (oi := ⟨some 64, _, _, _, _, _⟩) (v := ?_) rfl (by decide +kernel) (by decide +kernel) (by decide +kernel) (fun _ _ _ h => h) (Or.inl ⟨by rfl, ?_⟩) hb0 ?_
            case refine_2 =>
              intro w' hSw
              have r0' := keepcell hSw r0
              have r1' := keepcell hSw r1
              have r2' := keepcell hSw r2
              have xi' := keepcell hSw xi
              have xj' := keepcell hSw xj
              go_simp
              try (with_reducible rfl)
            try simp only [Act.put, List.setIfInBounds_toArray, List.set_cons_zero, List.set_cons_succ]
            refine wpM_take (i := 15) (oi := ⟨some 65, _, _, _, _, _⟩) (v := ?_) rfl (by decide +kernel) (by decide +kernel) (by decide +kernel) (fun _ _ _ h => h) (Or.inl ⟨by rfl, ?_⟩) hb0 ?_
            case refine_2 =>
              intro w' hSw
              have r0' := keepcell hSw r0
              have r1' := keepcell hSw r1
              have r2' := keepcell hSw r2
              have xi' := keepcell hSw xi
              have xj' := keepcell hSw xj
              go_simp
              try (with_reducible rfl)
            try simp only [Act.put, List.setIfInBounds_toArray, List.set_cons_zero, List.set_cons_succ]
            refine wpM_take (i := 16) (oi := ⟨some 66, _, _, _, _, _⟩) (v := ?_) rfl (by decide +kernel) (by decide +kernel) (by decide +kernel) (fun _ _ _ h => h) (Or.inl ⟨by rfl, ?_⟩) hb0 ?_
            case refine_2 =>
              intro w' hSw
              have r0' := keepcell hSw r0
              have r1' := keepcell hSw r1
              have r2' := keepcell hSw r2
              have xi' := keepcell hSw xi
              have xj' := keepcell hSw xj
              go_simp
              try (with_reducible rfl)
            try simp only [Act.put, List.setIfInBounds_toArray, List.set_cons_zero, List.set_cons_succ]
            refine wpM_take (i := 17) (oi := ⟨some 67, _, _, _, _, _⟩) (v := ?_) rfl (by decide +kernel) (by decide +kernel) (by decide +kernel) (fun _ _ _ h => h) (Or.inl ⟨by rfl, ?_⟩) hb0 ?_
            case refine_2 =>
              intro w' hSw
              have r0' := keepcell hSw r0
              have r1' := keepcell hSw r1
              have r2' := keepcell hSw r2
              have xi' := keepcell hSw xi
              have xj' := keepcell hSw xj
              go_simp
              try (with_reducible rfl)
            try simp only [Act.put, List.setIfInBounds_toArray, List.set_cons_zero, List.set_cons_succ]
            refine wpM_take (i := 18) (oi := ⟨some 68, _, _, _, _, _⟩) (v := ?_) rfl (by decide +kernel) (by decide +kernel) (by decide +kernel) (fun _ _ _ h => h) (Or.inl ⟨by rfl, ?_⟩) hb0 ?_
            case refine_2 =>
              intro w' hSw
              have r0' := keepcell hSw r0
              have r1' := keepcell hSw r1
              have r2' := keepcell hSw r2
              have xi' := keepcell hSw xi
              have xj' := keepcell hSw xj
              go_simp
              try (with_reducible rfl)
            try simp only [Act.put, List.setIfInBounds_toArray, List.set_cons_zero, List.set_cons_succ]
            refine wpM_take (i := 19) (oi := ⟨some 69, _, _, _, _, _⟩) (v := ?_) rfl (by decide +kernel) (by decide +kernel) (by decide +kernel) (fun _ _ _ h => h) (Or.inl ⟨by rfl, ?_⟩) hb0 ?_
            case refine_2 =>
              intro w' hSw
              have r0' := keepcell hSw r0
              have r1' := keepcell hSw r1
              have r2' := keepcell hSw r2
              have xi' := keepcell hSw xi
              have xj' := keepcell hSw xj
              go_simp
              try (with_reducible rfl)
            try simp only [Act.put, List.setIfInBounds_toArray, List.set_cons_zero, List.set_cons_succ]
            refine wpM_take (i := 20) (oi := ⟨some 70, _, _, _, _, _⟩) (v := ?_) rfl (by decide +kernel) (by decide +kernel) (by decide +kernel) (fun _ _ _ h => h) (Or.inl ⟨by rfl, ?_⟩) hb0 ?_
            case refine_2 =>
              intro w' hSw
              have r0' := keepcell hSw r0
              have r1' := keepcell hSw r1
              have r2' := keepcell hSw r2
              have xi' := keepcell hSw xi
              have xj' := keepcell hSw xj
              go_simp
              try (with_reducible rfl)
            try simp only [Act.put, List.setIfInBounds_toArray, List.set_cons_zero, List.set_cons_succ]
            refine wpM_done (by decide +kernel) ?_
            simp only [List.drop_succ_cons, List.drop_zero]
            clear r0 r1 r2 xi xj hb0 HX5 HB5
            have xi : W6.cell? ⟨gx, a, none⟩ = some (.int .i64 va) := by rw [← HVA.out]; exact HX6.out.cell (by omega)
            have fi := HX6.out.free a
            have HX7 := Lib.hid (HX6.out.set a (vb + cc))
            have HB7 := Lib.hid (HB6.out.setCell (p := ⟨gx, a, none⟩) hgw (.int .i64 (vb + cc)))
            go_wp2
            go_roundw
            case rel => exact ⟨q + 1, (st.1.set a (vb + cc), true), by go_num, rfl, hlq, HFN.out, HX7.out, HG8.out, HB7.out⟩
            case measure => simp [intOf]; omega
          · have HFN := Lib.hid (show (B.take (q + 1)).foldl gst (X, false) = st by rw [HFS.out, HGST.out, if_neg hgt])
            have hgt2 : decide (va > vb + cc) = false := decide_eq_false hgt
            go_upto_region 9 with fail
            have hb0 : Below W4.heap.size W4 W4.drew := below_drew (Below.refl _ _)
            refine wp_region_mixE (fun w' => Below W4.heap.size W4 w') (by kernel_rfl) ?_
            have HX5 := Lib.hid (HX4.out.below hb0)
            have HB5 := Lib.hid (HB4.out.trans (hb0.mono HB4.out.size))
            have r0n := keepcell hb0 r0
            have r1n := keepcell hb0 r1
            have r2n := keepcell hb0 r2
            generalize W4.drew = W5 at hb0 HX5 HB5 r0n r1n r2n ⊢
            refine wpE_take (i := 0) (oi := ⟨some 27, _, _, _, _, _⟩) (v := ?_) rfl (by decide +kernel) (by decide +kernel) (by decide +kernel) (fun _ _ _ h => h) (Or.inl ⟨by rfl, ?_⟩) hb0 ?_
            case refine_2 =>
              intro w' hSw
              have r0' := keepcell hSw r0
              have r1' := keepcell hSw r1
              have r2' := keepcell hSw r2
              have xi' := keepcell hSw xi
              have xj' := keepcell hSw xj
              go_simp
              try (with_reducible rfl)
            try simp only [Act.put, List.setIfInBounds_toArray, List.set_cons_zero, List.set_cons_succ]
            refine wpE_take (i := 1) (oi := ⟨some 28, _, _, _, _, _⟩) (v := ?_) rfl (by decide +kernel) (by decide +kernel) (by decide +kernel) (fun _ _ _ h => h) (Or.inl ⟨by rfl, ?_⟩) hb0 ?_
            case refine_2 =>
              intro w' hSw
              have r0' := keepcell hSw r0
              have r1' := keepcell hSw r1
              have r2' := keepcell hSw r2
              have xi' := keepcell hSw xi
              have xj' := keepcell hSw xj
              go_simp
              try (with_reducible rfl)
            try simp only [Act.put, List.setIfInBounds_toArray, List.set_cons_zero, List.set_cons_succ]
            refine wpE_take (i := 2) (oi := ⟨some 29, _, _, _, _, _⟩) (v := ?_) rfl (by decide +kernel) (by decide +kernel) (by decide +kernel) (fun _ _ _ h => h) (Or.inl ⟨by rfl, ?_⟩) hb0 ?_
            case refine_2 =>
              intro w' hSw
              have r0' := keepcell hSw r0
              have r1' := keepcell hSw r1
              have r2' := keepcell hSw r2
              have xi' := keepcell hSw xi
              have xj' := keepcell hSw xj
              go_simp
              try (with_reducible rfl)
            try simp only [Act.put, List.setIfInBounds_toArray, List.set_cons_zero, List.set_cons_succ]
            refine wpE_take (i := 3) (oi := ⟨some 30, _, _, _, _, _⟩) (v := ?_) rfl (by decide +kernel) (by decide +kernel) (by decide +kernel) (fun _ _ _ h => h) (Or.inl ⟨by rfl, ?_⟩) hb0 ?_
            case refine_2 =>
              intro w' hSw
              have r0' := keepcell hSw r0
              have r1' := keepcell hSw r1
              have r2' := keepcell hSw r2
              have xi' := keepcell hSw xi
              have xj' := keepcell hSw xj
              go_simp
              try (with_reducible rfl)
            try simp only [Act.put, List.setIfInBounds_toArray, List.set_cons_zero, List.set_cons_succ]
            refine wpE_take (i := 4) (oi := ⟨some 31, _, _, _, _, _⟩) (v := ?_) rfl (by decide +kernel) (by decide +kernel) (by decide +kernel) (fun _ _ _ h => h) (Or.inl ⟨by rfl, ?_⟩) hb0 ?_
            case refine_2 =>
              intro w' hSw
              have r0' := keepcell hSw r0
              have r1' := keepcell hSw r1
              have r2' := keepcell hSw r2
              have xi' := keepcell hSw xi
              have xj' := keepcell hSw xj
              go_simp
              try (with_reducible rfl)
            try simp only [Act.put, List.setIfInBounds_toArray, List.set_cons_zero, List.set_cons_succ]
            refine wpE_take (i := 5) (oi := ⟨some 32, _, _, _, _, _⟩) (v := ?_) rfl (by decide +kernel) (by decide +kernel) (by decide +kernel) (fun _ _ _ h => h) (Or.inl ⟨by rfl, ?_⟩) hb0 ?_
            case refine_2 =>
              intro w' hSw
              have r0' := keepcell hSw r0
              have r1' := keepcell hSw r1
              have r2' := keepcell hSw r2
              have xi' := keepcell hSw xi
              have xj' := keepcell hSw xj
              go_simp
              try (with_reducible rfl)
            try simp only [Act.put, List.setIfInBounds_toArray, List.set_cons_zero, List.set_cons_succ]
            refine wpE_take (i := 6) (oi := ⟨some 33, _, _, _, _, _⟩) (v := ?_) rfl (by decide +kernel) (by decide +kernel) (by decide +kernel) (fun _ _ _ h => h) (Or.inl ⟨by rfl, ?_⟩) hb0 ?_
            case refine_2 =>
              intro w' hSw
              have r0' := keepcell hSw r0
              have r1' := keepcell hSw r1
              have r2' := keepcell hSw r2
              have xi' := keepcell hSw xi
              have xj' := keepcell hSw xj
              go_simp
              try (with_reducible rfl)
            try simp only [Act.put, List.setIfInBounds_toArray, List.set_cons_zero, List.set_cons_succ]
            refine wpE_take (i := 7) (oi := ⟨some 34, _, _, _, _, _⟩) (v := ?_) rfl (by decide +kernel) (by decide +kernel) (by decide +kernel) (fun _ _ _ h => h) (Or.inl ⟨by rfl, ?_⟩) hb0 ?_
            case refine_2 =>
              intro w' hSw
              have r0' := keepcell hSw r0
              have r1' := keepcell hSw r1
              have r2' := keepcell hSw r2
              have xi' := keepcell hSw xi
              have xj' := keepcell hSw xj
              go_simp
              try (with_reducible rfl)
            try simp only [Act.put, List.setIfInBounds_toArray, List.set_cons_zero, List.set_cons_succ]
            refine wpE_take (i := 8) (oi := ⟨some 35, _, _, _, _, _⟩) (v := ?_) rfl (by decide +kernel) (by decide +kernel) (by decide +kernel) (fun _ _ _ h => h) (Or.inl ⟨by rfl, ?_⟩) hb0 ?_
            case refine_2 =>
              intro w' hSw
              have r0' := keepcell hSw r0
              have r1' := keepcell hSw r1
              have r2' := keepcell hSw r2
              have xi' := keepcell hSw xi
              have xj' := keepcell hSw xj
              go_simp
              try (with_reducible rfl)
            try simp only [Act.put, List.setIfInBounds_toArray, List.set_cons_zero, List.set_cons_succ]
            refine wpE_take (i := 9) (oi := ⟨some 36, _, _, _, _, _⟩) (v := ?_) rfl (by decide +kernel) (by decide +kernel) (by decide +kernel) (fun _ _ _ h => h) (Or.inl ⟨by rfl, ?_⟩) hb0 ?_
            case refine_2 =>
              intro w' hSw
              have r0' := keepcell hSw r0
              have r1' := keepcell hSw r1
              have r2' := keepcell hSw r2
              have xi' := keepcell hSw xi
              have xj' := keepcell hSw xj
              go_simp
              try (with_reducible rfl)
            try simp only [Act.put, List.setIfInBounds_toArray, List.set_cons_zero, List.set_cons_succ]
            refine wpE_take (i := 10) (oi := ⟨some 37, _, _, _, _, _⟩) (v := ?_) rfl (by decide +kernel) (by decide +kernel) (by decide +kernel) (fun _ _ _ h => h) (Or.inl ⟨by rfl, ?_⟩) hb0 ?_
            case refine_2 =>
              intro w' hSw
              have r0' := keepcell hSw r0
              have r1' := keepcell hSw r1
              have r2' := keepcell hSw r2
              have xi' := keepcell hSw xi
              have xj' := keepcell hSw xj
              go_simp
              try (with_reducible rfl)
            try simp only [Act.put, List.setIfInBounds_toArray, List.set_cons_zero, List.set_cons_succ]
            refine wpE_take (i := 11) (oi := ⟨some 38, _, _, _, _, _⟩) (v := ?_) rfl (by decide +kernel) (by decide +kernel) (by decide +kernel) (fun _ _ _ h => h) (Or.inl ⟨by rfl, ?_⟩) hb0 ?_
            case refine_2 =>
              intro w' hSw
              have r0' := keepcell hSw r0
              have r1' := keepcell hSw r1
              have r2' := keepcell hSw r2
              have xi' := keepcell hSw xi
              have xj' := keepcell hSw xj
              go_simp
              try (with_reducible rfl)
            try simp only [Act.put, List.setIfInBounds_toArray, List.set_cons_zero, List.set_cons_succ]
            refine wpE_take (i := 12) (oi := ⟨some 39, _, _, _, _, _⟩) (v := ?_) rfl (by decide +kernel) (by decide +kernel) (by decide +kernel) (fun _ _ _ h => h) (Or.inl ⟨by rfl, ?_⟩) hb0 ?_
            case refine_2 =>
              intro w' hSw
              have r0' := keepcell hSw r0
              have r1' := keepcell hSw r1
              have r2' := keepcell hSw r2
              have xi' := keepcell hSw xi
              have xj' := keepcell hSw xj
              go_simp
              try (with_reducible rfl)
            try simp only [Act.put, List.setIfInBounds_toArray, List.set_cons_zero, List.set_cons_succ]
            refine wpE_take (i := 13) (oi := ⟨some 40, _, _, _, _, _⟩) (v := ?_) rfl (by decide +kernel) (by decide +kernel) (by decide +kernel) (fun _ _ _ h => h) (Or.inl ⟨by rfl, ?_⟩) hb0 ?_
            case refine_2 =>
              intro w' hSw
              have r0' := keepcell hSw r0
              have r1' := keepcell hSw r1
              have r2' := keepcell hSw r2
              have xi' := keepcell hSw xi
              have xj' := keepcell hSw xj
              go_simp
              try (with_reducible rfl)
            try simp only [Act.put, List.setIfInBounds_toArray, List.set_cons_zero, List.set_cons_succ]
            refine wpE_take (i := 14) (oi := ⟨some 41, _, _, _, _, _⟩) (v := ?_) rfl (by decide +kernel) (by decide +kernel) (by decide +kernel) (fun _ _ _ h => h) (Or.inl ⟨by rfl, ?_⟩) hb0 ?_
            case refine_2 =>
              intro w' hSw
              have r0' := keepcell hSw r0
              have r1' := keepcell hSw r1
              have r2' := keepcell hSw r2
              have xi' := keepcell hSw xi
              have xj' := keepcell hSw xj
              go_simp
              try (with_reducible rfl)
            try simp only [Act.put, List.setIfInBounds_toArray, List.set_cons_zero, List.set_cons_succ]
            refine wpE_take (i := 15) (oi := ⟨some 42, _, _, _, _, _⟩) (v := ?_) rfl (by decide +kernel) (by decide +kernel) (by decide +kernel) (fun _ _ _ h => h) (Or.inl ⟨by rfl, ?_⟩) hb0 ?_
            case refine_2 =>
              intro w' hSw
              have r0' := keepcell hSw r0
              have r1' := keepcell hSw r1
              have r2' := keepcell hSw r2
              have xi' := keepcell hSw xi
              have xj' := keepcell hSw xj
              go_simp
              try (with_reducible rfl)
            try simp only [Act.put, List.setIfInBounds_toArray, List.set_cons_zero, List.set_cons_succ]
            refine wpE_take (i := 16) (oi := ⟨some 43, _, _, _, _, _⟩) (v := ?_) rfl (by decide +kernel) (by decide +kernel) (by decide +kernel) (fun _ _ _ h => h) (Or.inl ⟨by rfl, ?_⟩) hb0 ?_
            case refine_2 =>
              intro w' hSw
              have r0' := keepcell hSw r0
              have r1' := keepcell hSw r1
              have r2' := keepcell hSw r2
              have xi' := keepcell hSw xi
              have xj' := keepcell hSw xj
              go_simp
              try (with_reducible rfl)
            try simp only [Act.put, List.setIfInBounds_toArray, List.set_cons_zero, List.set_cons_succ]
            refine wpE_take (i := 17) (oi := ⟨some 44, _, _, _, _, _⟩) (v := ?_) rfl (by decide +kernel) (by decide +kernel) (by decide +kernel) (fun _ _ _ h => h) (Or.inl ⟨by rfl, ?_⟩) hb0 ?_
            case refine_2 =>
              intro w' hSw
              have r0' := keepcell hSw r0
              have r1' := keepcell hSw r1
              have r2' := keepcell hSw r2
              have xi' := keepcell hSw xi
              have xj' := keepcell hSw xj
              go_simp
              try (with_reducible rfl)
            try simp only [Act.put, List.setIfInBounds_toArray, List.set_cons_zero, List.set_cons_succ]
            refine wpE_take (i := 18) (oi := ⟨some 45, _, _, _, _, _⟩) (v := ?_) rfl (by decide +kernel) (by decide +kernel) (by decide +kernel) (fun _ _ _ h => h) (Or.inl ⟨by rfl, ?_⟩) hb0 ?_
            case refine_2 =>
              intro w' hSw
              have r0' := keepcell hSw r0
              have r1' := keepcell hSw r1
              have r2' := keepcell hSw r2
              have xi' := keepcell hSw xi
              have xj' := keepcell hSw xj
              go_simp
              try (with_reducible rfl)
            try simp only [Act.put, List.setIfInBounds_toArray, List.set_cons_zero, List.set_cons_succ]
            refine wpE_take (i := 19) (oi := ⟨some 46, _, _, _, _, _⟩) (v := ?_) rfl (by decide +kernel) (by decide +kernel) (by decide +kernel) (fun _ _ _ h => h) (Or.inl ⟨by rfl, ?_⟩) hb0 ?_
            case refine_2 =>
              intro w' hSw
              have r0' := keepcell hSw r0
              have r1' := keepcell hSw r1
              have r2' := keepcell hSw r2
              have xi' := keepcell hSw xi
              have xj' := keepcell hSw xj
              go_simp
              try (with_reducible rfl)
            try simp only [Act.put, List.setIfInBounds_toArray, List.set_cons_zero, List.set_cons_succ]
            refine wpE_take (i := 20) (oi := ⟨some 47, _, _, _, _, _⟩) (v := ?_) rfl (by decide +kernel) (by decide +kernel) (by decide +kernel) (fun _ _ _ h => h) (Or.inl ⟨by rfl, ?_⟩) hb0 ?_
            case refine_2 =>
              intro w' hSw
              have r0' := keepcell hSw r0
              have r1' := keepcell hSw r1
              have r2' := keepcell hSw r2
              have xi' := keepcell hSw xi
              have xj' := keepcell hSw xj
              go_simp
              try (with_reducible rfl)
            try simp only [Act.put, List.setIfInBounds_toArray, List.set_cons_zero, List.set_cons_succ]
            refine wpE_take (i := 21) (oi := ⟨some 48, _, _, _, _, _⟩) (v := ?_) rfl (by decide +kernel) (by decide +kernel) (by decide +kernel) (fun _ _ _ h => h) (Or.inl ⟨by rfl, ?_⟩) hb0 ?_
            case refine_2 =>
              intro w' hSw
              have r0' := keepcell hSw r0
              have r1' := keepcell hSw r1
              have r2' := keepcell hSw r2
              have xi' := keepcell hSw xi
              have xj' := keepcell hSw xj
              go_simp
              try (with_reducible rfl)
            try simp only [Act.put, List.setIfInBounds_toArray, List.set_cons_zero, List.set_cons_succ]
            refine wpE_take (i := 22) (oi := ⟨some 49, _, _, _, _, _⟩) (v := .bool false) rfl (by decide +kernel) (by decide +kernel) (by decide +kernel) (fun _ _ _ h => h) (Or.inl ⟨by rfl, ?_⟩) hb0 ?_
            case refine_1 =>
              intro w' hSw
              go_simp
              try (with_reducible rfl)
            try simp only [Act.put, List.setIfInBounds_toArray, List.set_cons_zero, List.set_cons_succ]
            refine wpE_done (by decide +kernel) ?_
            clear r0 r1 r2 xi xj hb0 HX4 HB4
            go_wp2
            go_roundw
            case rel => exact ⟨q + 1, st, by go_num, rfl, hlq, HFN.out, HX5.out, HG4.out.mono (by omega), HB5.out⟩
            case measure => simp [intOf]; omega
        · obtain rfl : q = m := by omega
          have hlq2 : ¬ ((q : Int) < (q : Int)) := by omega
          have hst : grd B X = st := by
            have := HST.out
            rw [List.take_of_length_le (by omega)] at this
            exact this
          obtain ⟨Z, ch⟩ := st
          dsimp only at HX4 HG4 hst ⊢
          cases ch
          · have hX1 : X.length = n + 1 := HG.out.1
            have HST2 := Lib.hid (show sv = true by
              rw [← HSV.out]
              refine solM_t ⟨fun v => X.getD v 0, fun b hb => ?_⟩
              have := grd_no (x := X) (fun b hb => by rw [hX1]; exact HBB.out b hb) (by rw [hst]) b hb
              dsimp only
              omega)
            have hZ1 : Z.length = n + 1 := HG4.out.1
            have hni : (n : Int) < (n : Int) + 1 := by omega
            have hn0 : (0 : Int) ≤ (n : Int) := by omega
            obtain ⟨zr, hzr⟩ : ∃ zr, Z.getD n 0 = zr := ⟨_, rfl⟩
            have xn : W4.cell? ⟨gx, n, none⟩ = some (.int .i64 zr) := by rw [← hzr]; exact HX4.out.cell (by omega)
            clear hst hzr HST HG4
            go_wp2
            clear xn
            go_loopw [11] (fun s11 wr => ∃ (k : Nat) (Y : List Int), s11 = .int .i64 (k : Int) ∧ k ≤ n + 1 ∧ Y.length = n + 1 ∧ RW wr gx 2 Y ∧ Below w.heap.size w wr) (fun s11 _ => n + 1 - (intOf s11).toNat)
            case atStart => exact ⟨0, Z, rfl, Nat.zero_le _, hZ1, HX4.out, HB4.out⟩
            case round =>
              obtain ⟨k, Y, rfl, hkn, hY1, hY, hB⟩ := hrel
              have HY := Lib.hid hY
              have HB8 := Lib.hid hB
              clear hY hB
              by_cases hlk : k ≤ n
              · have hki : (k : Int) ≤ (n : Int) := by omega
                have hki2 : (k : Int) < (n : Int) + 1 := by omega
                have hk0 : (0 : Int) ≤ (k : Int) := by omega
                obtain ⟨yk, hyk⟩ : ∃ yk, Y.getD k 0 = yk := ⟨_, rfl⟩
                have xk : wr.cell? ⟨gx, k, none⟩ = some (.int .i64 yk) := by rw [← hyk]; exact HY.out.cell (by omega)
                have fk := HY.out.free k
                obtain ⟨dv, hdv⟩ : ∃ dv, IntKind.i64.wrap (yk - zr) = dv := ⟨_, rfl⟩
                have HY9 := Lib.hid (HY.out.set k dv)
                have HB9 := Lib.hid (HB8.out.setCell (p := ⟨gx, k, none⟩) hgw (.int .i64 dv))
                have hwk : IntKind.i64.wrap ((k : Int) + 1) = (k : Int) + 1 := IntWalk.i64_in _ (by omega)
                clear hyk
                go_wp2
                go_roundw
                case rel => exact ⟨k + 1, Y.set k dv, by go_num, by omega, by simp [hY1], HY9.out, HB9.out⟩
                case measure => simp [intOf]; omega
              · obtain rfl : k = n + 1 := by omega
                have hki : ¬ (((n + 1 : Nat) : Int) ≤ (n : Int)) := by omega
                have hcn : ¬ (n + 1 = n) := by omega
                have HP2 := HPOST.out (some ⟨gx, 0, none⟩) n (n + 1) wr HB8.out
                rw [HST2.out] at HP2
                have HP2 := Lib.hid HP2
                go_wp2
                go_ret2
                exact HP2.out
          · have HNX := Lib.hid (show gsk B (n + 1) (r + 1) = Z by
              show (grd B (gsk B (n + 1) r)).1 = Z
              rw [← HXE.out, hst])
            have HCN := Lib.hid (show ∀ j, j < r + 1 → (grd B (gsk B (n + 1) j)).2 = true from fun j hj => by
              by_cases hjr : j < r
              · exact HCH.out j hjr
              · obtain rfl : j = r := by omega
                rw [← HXE.out, hst])
            have HGN := Lib.hid (show GB (n + 1) (gsk B (n + 1) (r + 1)) ((r + 1) * q) by rw [HNX.out, Nat.succ_mul]; exact HG4.out)
            have hwk : IntKind.i64.wrap ((r : Int) + 1) = (r : Int) + 1 := IntWalk.i64_in _ (by omega)
            clear hst
            go_wp2
            go_roundw
            case rel => exact ⟨r + 1, by go_num, by omega, by rw [HNX.out]; exact HX4.out, HGN.out, HCN.out, HB4.out⟩
            case measure => simp [intOf]; omega
    · have hri : ¬ ((r : Int) ≤ (n : Int) + 1) := by omega
      have HSF := Lib.hid (show sv = false by
        rw [← HSV.out]
        refine solM_f (fun h => ?_)
        have h1 := HDONE.out h
        have h2 := HCH.out n (by omega)
        rw [h1] at h2
        cases h2)
      have HP2 := HPOST.out none 0 0 wr HB.out
      rw [HSF.out] at HP2
      have HP2 := Lib.hid HP2
      go_wp2
      go_ret2
      exact HP2.out
end Go.Proofs.Ytbmofagaammgmaa
