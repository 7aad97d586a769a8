/- Law BoxHull: for every input the call returns true, and its arguments read afterwards as before. -/
import Derived.Test.YtcocdhndhlegiaaAwk
import Derived.Test.YtcocdhndhlegiaaOpn
import Derived.Test.YtcocdhndhlegiaaChn
import Derived.Test.YtcocdhndhlegiaaApf
import Derived.Test.YtcocdhndhlegiaaSrg
import Derived.Test.YtcocdhndhlegiaaShm
import Derived.Deep.Cut
namespace Go.Proofs.Ytcocdhndhlegiaa
open Go.ChangeShapes Go.WideShapes Go.ChangeAt Go.RowKit Go.ChangeMaps

set_option maxRecDepth 100000 in
set_option maxHeartbeats 4000000 in
theorem boxHull_walk (t0 : Int) (A0 : Option Addr) (n0 c0 : Nat) (R0 : List Sd) (t1 : Int) (A1 : Option Addr) (n1 c1 : Nat) (R1 : List Sd) (A2 : Option Addr) (n2 c2 : Nat) (R2 : List V3) (w : World) (h0 : Sds w A0 n0 R0 ∧ n0 ≤ c0 ∧ c0 ≤ 9223372036854775807 ∧ ∀ x ∈ R0, x.in) (h1 : Sds w A1 n1 R1 ∧ n1 ≤ c1 ∧ c1 ≤ 9223372036854775807 ∧ ∀ x ∈ R1, x.in) (k2 : Vls w A2 n2 R2) (l2 : n2 ≤ 9223372036854775807) (g2 : ∀ x ∈ R2, x.in) : Calls Try.prog 6 #[.agg #[.int .i64 t0, .slice A0 n0 c0], .agg #[.int .i64 t1, .slice A1 n1 c1], .slice A2 n2 c2] w fun e w' => e = .returned (.bool true) ∧ Below w.heap.size w w' := by
  have L0 := Lib.hid h0.1.len
  have L1 := Lib.hid h1.1.len
  have L2 := Lib.hid k2.len
  have HL2 := Lib.hid l2
  obtain ⟨h0, p0, q0, r0⟩ := h0
  obtain ⟨o0, ho0⟩ : ∃ x, boxOk R0 = x := ⟨_, rfl⟩
  have HO0 := Lib.hid ho0
  have C0 := Lib.hid (fun W (hW : Below w.heap.size w W) => Right_any t0 A0 n0 c0 R0 W (h0.below hW) (by omega) (fun x hx => by have := r0 x hx; unfold Sd.in at this; omega))
  simp only [ho0] at C0
  have H0 := Lib.hid (fun W (hW : Below w.heap.size w W) => h0.below hW)
  clear h0 p0 q0 r0 ho0
  obtain ⟨h1, p1, q1, r1⟩ := h1
  obtain ⟨o1, ho1⟩ : ∃ x, boxOk R1 = x := ⟨_, rfl⟩
  have HO1 := Lib.hid ho1
  have C1 := Lib.hid (fun W (hW : Below w.heap.size w W) => Right_any t1 A1 n1 c1 R1 W (h1.below hW) (by omega) (fun x hx => by have := r1 x hx; unfold Sd.in at this; omega))
  simp only [ho1] at C1
  have H1 := Lib.hid (fun W (hW : Below w.heap.size w W) => h1.below hW)
  clear h1 p1 q1 r1 ho1
  obtain ⟨o2, ho2⟩ : ∃ x, rowOk R2 = x := ⟨_, rfl⟩
  have HO2 := Lib.hid ho2
  have C2 := Lib.hid (fun W (hW : Below w.heap.size w W) => valid_any A2 n2 c2 R2 W (k2.below hW) (fun x hx => by have := g2 x hx; unfold V3.in at this; unfold V3.ok; omega) l2)
  simp only [ho2] at C2
  have H2 := Lib.hid (fun W (hW : Below w.heap.size w W) => k2.below hW)
  clear k2 l2 g2 ho2
  obtain ⟨w0, hw0⟩ : ∃ W, W = ((w.alloc (.cells #[.int .i64 t0, .slice A0 n0 c0] 24)).alloc (.cells #[.int .i64 t1, .slice A1 n1 c1] 24)) := ⟨_, rfl⟩
  have HB := Lib.hid (show Below w.heap.size w w0 by rw [hw0]; exact (((Below.refl _ w).alloc (Nat.le_refl _) _).alloc (by simp) _))
  have K0 := Lib.hid (show Blk w0 (w.heap.size + 0) 24 #[.int .i64 t0, .slice A0 n0 c0] by rw [hw0]; exact (Blk.new_ (by simp) rfl : Blk (w.alloc _) _ _ _).alloc _)
  have K1 := Lib.hid (show Blk w0 (w.heap.size + 1) 24 #[.int .i64 t1, .slice A1 n1 c1] by rw [hw0]; exact Blk.new_ (by simp) rfl)
  go_enter Try.func6, Try.ntmps6
  go_wp2_with fail
  rw [← hw0]
  clear hw0
  refine (awake_any _).mono ?_
  rintro e x1 ⟨rfl, hb⟩
  replace HB := Lib.hid (HB.out.trans (hb.mono HB.out.size))
  replace K0 := Lib.hid (K0.out.below hb)
  replace K1 := Lib.hid (K1.out.below hb)
  clear hb
  have c0_0 : x1.cell? ⟨w.heap.size, 0, none⟩ = some (.int .i64 t0) := K0.out.cell 0
  have c0_1 : x1.cell? ⟨w.heap.size, 1, none⟩ = some (.slice A0 n0 c0) := K0.out.cell 1
  have c1_0 : x1.cell? ⟨w.heap.size + 1, 0, none⟩ = some (.int .i64 t1) := K1.out.cell 0
  have c1_1 : x1.cell? ⟨w.heap.size + 1, 1, none⟩ = some (.slice A1 n1 c1) := K1.out.cell 1
  go_wp2_with fail
  clear c0_0 c0_1 c1_0 c1_1
  refine (C0.out _ HB.out).mono ?_
  rintro e x2 ⟨rfl, hb⟩
  replace HB := Lib.hid (HB.out.trans (hb.mono HB.out.size))
  replace K0 := Lib.hid (K0.out.below hb)
  replace K1 := Lib.hid (K1.out.below hb)
  clear hb
  cases o0
  · go_wp2_with fail
    refine (awake_any _).mono ?_
    rintro e y1 ⟨rfl, hb⟩
    replace HB := Lib.hid (HB.out.trans (hb.mono HB.out.size))
    clear hb
    go_wp2
    go_ret
    exact ⟨rfl, HB.out⟩
  have c0_0 : x2.cell? ⟨w.heap.size, 0, none⟩ = some (.int .i64 t0) := K0.out.cell 0
  have c0_1 : x2.cell? ⟨w.heap.size, 1, none⟩ = some (.slice A0 n0 c0) := K0.out.cell 1
  have c1_0 : x2.cell? ⟨w.heap.size + 1, 0, none⟩ = some (.int .i64 t1) := K1.out.cell 0
  have c1_1 : x2.cell? ⟨w.heap.size + 1, 1, none⟩ = some (.slice A1 n1 c1) := K1.out.cell 1
  go_wp2_with fail
  clear c0_0 c0_1 c1_0 c1_1
  refine (C1.out _ HB.out).mono ?_
  rintro e x3 ⟨rfl, hb⟩
  replace HB := Lib.hid (HB.out.trans (hb.mono HB.out.size))
  replace K0 := Lib.hid (K0.out.below hb)
  replace K1 := Lib.hid (K1.out.below hb)
  clear hb
  cases o1
  · go_wp2_with fail
    refine (awake_any _).mono ?_
    rintro e y1 ⟨rfl, hb⟩
    replace HB := Lib.hid (HB.out.trans (hb.mono HB.out.size))
    clear hb
    go_wp2
    go_ret
    exact ⟨rfl, HB.out⟩
  have c0_0 : x3.cell? ⟨w.heap.size, 0, none⟩ = some (.int .i64 t0) := K0.out.cell 0
  have c0_1 : x3.cell? ⟨w.heap.size, 1, none⟩ = some (.slice A0 n0 c0) := K0.out.cell 1
  have c1_0 : x3.cell? ⟨w.heap.size + 1, 0, none⟩ = some (.int .i64 t1) := K1.out.cell 0
  have c1_1 : x3.cell? ⟨w.heap.size + 1, 1, none⟩ = some (.slice A1 n1 c1) := K1.out.cell 1
  go_wp2_with fail
  clear c0_0 c0_1 c1_0 c1_1
  refine (C2.out _ HB.out).mono ?_
  rintro e x4 ⟨rfl, hb⟩
  replace HB := Lib.hid (HB.out.trans (hb.mono HB.out.size))
  replace K0 := Lib.hid (K0.out.below hb)
  replace K1 := Lib.hid (K1.out.below hb)
  clear hb
  cases o2
  · go_wp2_with fail
    refine (awake_any _).mono ?_
    rintro e y1 ⟨rfl, hb⟩
    replace HB := Lib.hid (HB.out.trans (hb.mono HB.out.size))
    clear hb
    go_wp2
    go_ret
    exact ⟨rfl, HB.out⟩
  have hn0 : n0 ≤ 1000 := by have := boxOk_len HO0.out; have := L0.out; omega
  have hn1 : n1 ≤ 1000 := by have := boxOk_len HO1.out; have := L1.out; omega
  have hn2 : n2 ≤ 1000 := by have := rowOk_len HO2.out; have := L2.out; omega
  by_cases htt : t0 = t1
  · subst htt
    have c0_0 : x4.cell? ⟨w.heap.size, 0, none⟩ = some (.int .i64 t0) := K0.out.cell 0
    have c0_1 : x4.cell? ⟨w.heap.size, 1, none⟩ = some (.slice A0 n0 c0) := K0.out.cell 1
    have c1_0 : x4.cell? ⟨w.heap.size + 1, 0, none⟩ = some (.int .i64 t0) := K1.out.cell 0
    have c1_1 : x4.cell? ⟨w.heap.size + 1, 1, none⟩ = some (.slice A1 n1 c1) := K1.out.cell 1
    by_cases hc : n0 = n1 ∨ n0 = 0 ∨ n1 = 0
    · have HHC := Lib.hid hc
      obtain ⟨m, T, hm, hcont, hHH, hRH⟩ := hull_pack t0 A0 n0 c0 R0 A1 n1 c1 R1 L0.out L1.out hn0 hn1 (by omega)
      have HCO := Lib.hid hcont
      have HHH := Lib.hid hHH
      have HRH := Lib.hid hRH
      clear hcont hHH hRH
      obtain ⟨d0, hd0⟩ : ∃ x, ((n0 : Int) == n1) = x := ⟨_, rfl⟩
      have hd0' : ((n0 : Int) != n1) = !d0 := by rw [← hd0]; rfl
      have HDD := Lib.hid (show d0 = true ∨ ¬ (0 : Int) < n0 ∨ ¬ (0 : Int) < n1 from by
        rcases hc with h | h | h
        · exact .inl (by rw [← hd0, h]; simp)
        · exact .inr (.inl (by omega))
        · exact .inr (.inr (by omega)))
      clear hc hd0
      have hupto : True := trivial
      go_upto_region 3 with fail
      go_cut [51] from 33 (fun s51 wx => s51 = .bool false ∧ wx = x4)
      case first =>
        rcases HDD.out with h | h | h
        · subst h
          go_wp2_with fail
          go_meet
          case rel => exact ⟨by first | rfl | (simp; omega), rfl⟩
        · cases d0
          · go_wp2_with fail
            go_meet
            case rel => exact ⟨by first | rfl | (simp; omega), rfl⟩
          · go_wp2_with fail
            go_meet
            case rel => exact ⟨by first | rfl | (simp; omega), rfl⟩
        · by_cases h0 : (0 : Int) < n0
          · cases d0
            · go_wp2_with fail
              go_meet
              case rel => exact ⟨by first | rfl | (simp; omega), rfl⟩
            · go_wp2_with fail
              go_meet
              case rel => exact ⟨by first | rfl | (simp; omega), rfl⟩
          · cases d0
            · go_wp2_with fail
              go_meet
              case rel => exact ⟨by first | rfl | (simp; omega), rfl⟩
            · go_wp2_with fail
              go_meet
              case rel => exact ⟨by first | rfl | (simp; omega), rfl⟩
      case rest =>
        obtain ⟨rfl, hwc⟩ := hcut
        rw [hwc]
        clear hwc
        go_wp2_with fail
        have hb : Below x4.heap.size x4 x4.drew := below_drew (Below.refl _ _)
        refine wp_region_mix 6 (fun w' => Below x4.heap.size x4 w') (by kernel_rfl) (by decide) ?_
        generalize x4.drew = y0 at hb ⊢
        refine wpM_take (i := 0) (oi := ⟨some 52, _, _, _, _, _⟩) (v := ?_) rfl (by decide +kernel) (by decide +kernel) (by decide +kernel) (fun _ _ _ h => h) (Or.inl ⟨by rfl, ?_⟩) hb ?_
        case refine_2 =>
          intro w' hSw
          have c0_0' := keepcell hSw c0_0
          have c0_1' := keepcell hSw c0_1
          have c1_0' := keepcell hSw c1_0
          have c1_1' := keepcell hSw c1_1
          go_simp
          try (with_reducible rfl)
        try simp only [Act.put, List.setIfInBounds_toArray, List.set_cons_zero, List.set_cons_succ]
        refine wpM_take (i := 2) (oi := ⟨some 54, _, _, _, _, _⟩) (v := ?_) rfl (by decide +kernel) (by decide +kernel) (by decide +kernel) (fun _ _ _ h => h) (Or.inl ⟨by rfl, ?_⟩) hb ?_
        case refine_2 =>
          intro w' hSw
          have c0_0' := keepcell hSw c0_0
          have c0_1' := keepcell hSw c0_1
          have c1_0' := keepcell hSw c1_0
          have c1_1' := keepcell hSw c1_1
          go_simp
          try (with_reducible rfl)
        try simp only [Act.put, List.setIfInBounds_toArray, List.set_cons_zero, List.set_cons_succ]
        refine wpM_chains (fun i => if i = 5 then 7 else 52 + i) [1, 3, 4, 5] (fun i v W => (i = 1 → ∃ D d, v = Value.agg #[.int .i64 t0, .slice D n0 d] ∧ Sds W D n0 R0) ∧ (i = 3 → ∃ D d, v = Value.agg #[.int .i64 t0, .slice D n1 d] ∧ Sds W D n1 R1) ∧ (i = 4 → ∃ D d, v = Value.agg #[.int .i64 t0, .slice D m d] ∧ Sds W D m T) ∧ (i = 5 → ∃ g, v = Value.pointer (some ⟨g, 0, none⟩) ∧ Blk W g 33 #[.int .i64 0, .slice none 0 0] ∧ x4.heap.size ≤ g) ∧ True) (by decide +kernel) (fun i v W W' h0 hb => ⟨fun e => (fun h => let ⟨D, d, e, s⟩ := h; ⟨D, d, e, s.below hb⟩) (h0.1 e), fun e => (fun h => let ⟨D, d, e, s⟩ := h; ⟨D, d, e, s.below hb⟩) (h0.2.1 e), fun e => (fun h => let ⟨D, d, e, s⟩ := h; ⟨D, d, e, s.below hb⟩) (h0.2.2.1 e), fun e => (fun h => let ⟨g, e, s, z⟩ := h; ⟨g, e, s.below hb, z⟩) (h0.2.2.2.1 e), trivial⟩) hb ?_ ?_
        · refine List.forall_mem_cons.2 ⟨?_, List.forall_mem_cons.2 ⟨?_, List.forall_mem_cons.2 ⟨?_, List.forall_mem_cons.2 ⟨?_, List.forall_mem_nil _⟩⟩⟩⟩
          · refine ⟨⟨some 53, _, _, _, _, _⟩, rfl, rfl, fun vs W K hS hd hK => ?_⟩
            simp only [puts, List.foldl_cons, List.foldl_nil, Act.put, List.setIfInBounds_toArray, List.set_cons_zero, List.set_cons_succ, Nat.reduceAdd, Nat.reduceSub, Nat.reduceEqDiff, reduceIte] at hK ⊢
            go_simp
            refine (own_any t0 A0 n0 c0 R0 W (H0.out _ (HB.out.trans (hS.mono HB.out.size))) hn0).mono ?_
            rintro e W' ⟨D, d, rfl, s, hb⟩
            exact hK _ _ (hS.trans (hb.mono hS.size)) hb ⟨fun _ => ⟨D, d, rfl, s⟩, fun e => absurd e (by decide), fun e => absurd e (by decide), fun e => absurd e (by decide), trivial⟩
          · refine ⟨⟨some 55, _, _, _, _, _⟩, rfl, rfl, fun vs W K hS hd hK => ?_⟩
            simp only [puts, List.foldl_cons, List.foldl_nil, Act.put, List.setIfInBounds_toArray, List.set_cons_zero, List.set_cons_succ, Nat.reduceAdd, Nat.reduceSub, Nat.reduceEqDiff, reduceIte] at hK ⊢
            go_simp
            refine (own_any t0 A1 n1 c1 R1 W (H1.out _ (HB.out.trans (hS.mono HB.out.size))) hn1).mono ?_
            rintro e W' ⟨D, d, rfl, s, hb⟩
            exact hK _ _ (hS.trans (hb.mono hS.size)) hb ⟨fun e => absurd e (by decide), fun _ => ⟨D, d, rfl, s⟩, fun e => absurd e (by decide), fun e => absurd e (by decide), trivial⟩
          · refine ⟨⟨some 56, _, _, _, _, _⟩, rfl, rfl, fun vs W K hS hd hK => ?_⟩
            obtain ⟨D1, d1, e1, s1⟩ := (hd 1 (by decide) (by decide +kernel)).1 rfl
            obtain ⟨D2, d2, e2, s2⟩ := (hd 3 (by decide) (by decide +kernel)).2.1 rfl
            simp only [puts, List.foldl_cons, List.foldl_nil, Act.put, List.setIfInBounds_toArray, List.set_cons_zero, List.set_cons_succ, Nat.reduceAdd, Nat.reduceSub, Nat.reduceEqDiff, reduceIte] at hK ⊢
            simp only [e1, e2] at hK ⊢
            go_simp
            refine (HHH.out W _ _ _ _ s1 s2).mono ?_
            rintro e W' ⟨D, d, rfl, s, hb⟩
            exact hK _ _ (hS.trans (hb.mono hS.size)) hb ⟨fun e => absurd e (by decide), fun e => absurd e (by decide), fun _ => ⟨D, d, rfl, s⟩, fun e => absurd e (by decide), trivial⟩
          · refine ⟨⟨some 7, _, _, _, _, _⟩, rfl, rfl, fun vs W K hS hd hK => ?_⟩
            simp only [puts, List.foldl_cons, List.foldl_nil, Act.put, List.setIfInBounds_toArray, List.set_cons_zero, List.set_cons_succ, Nat.reduceAdd, Nat.reduceSub, Nat.reduceEqDiff, reduceIte] at hK ⊢
            go_simp
            exact hK _ _ (hS.alloc hS.size _) ((Below.refl _ _).alloc (Nat.le_refl _) _) ⟨fun e => absurd e (by decide), fun e => absurd e (by decide), fun e => absurd e (by decide), fun _ => ⟨_, rfl, Blk.new _ _ _, hS.size⟩, trivial⟩
        · intro vs W hS hd
          obtain ⟨D, d, e1, s1⟩ := (hd 4 (by decide)).2.2.1 rfl
          obtain ⟨g, e2, s2, hg⟩ := (hd 5 (by decide)).2.2.2.1 rfl
          simp only [puts, List.foldl_cons, List.foldl_nil, Act.put, List.setIfInBounds_toArray, List.set_cons_zero, List.set_cons_succ, Nat.reduceAdd, Nat.reduceSub, Nat.reduceEqDiff, reduceIte]
          simp only [e1, e2]
          simp only [List.drop_succ_cons, List.drop_zero]
          have gr := grown_row W g #[.int .i64 t0, .slice D m d]
          have hx0 := K0.out.lt
          have hx1 := K1.out.lt
          have HBW := HB.out.trans (hS.mono HB.out.size)
          have hle := HB.out.size
          have hd : Sds (W.setRow g #[.int .i64 t0, .slice D m d]) D m T := sds_set s1 s2 _
          have KB := Lib.hid (show Blk (W.setRow g #[.int .i64 t0, .slice D m d]) g 33 #[.int .i64 t0, .slice D m d] from s2.setRow)
          have K0' := Lib.hid (show Blk (W.setRow g #[.int .i64 t0, .slice D m d]) (w.heap.size + 0) 24 _ from (gr.block _ (K0.out.below hS).lt (by simp; omega)).trans (K0.out.below hS))
          have K1' := Lib.hid (show Blk (W.setRow g #[.int .i64 t0, .slice D m d]) (w.heap.size + 1) 24 _ from (gr.block _ (K1.out.below hS).lt (by simp; omega)).trans (K1.out.below hS))
          replace HB := Lib.hid (show Below w.heap.size w (W.setRow g #[.int .i64 t0, .slice D m d]) from HBW.grown gr HBW.size (fun j hj => by injection hj with hj; omega))
          have HD := Lib.hid hd
          go_wp2_with ((refine wpList_store_row (o := ⟨none, _, _, _, _, _⟩) rfl 33 _ _ rfl g #[.int .i64 t0, .slice D m d] rfl rfl 33 _ s2 (by kernel_rfl) rfl (by simp [Value.oneCell']) ?_))
          clear gr hS HBW hd s1 s2 e1 e2 hx0 hx1 K0 K1 hg hle
          generalize W.setRow g #[.int .i64 t0, .slice D m d] = z5 at *
          generalize g = gb at *
          have K0 := K0'
          have K1 := K1'
          clear K0' K1'
          obtain ⟨b0, hb0⟩ : ∃ x, contB R0 R2 = x := ⟨_, rfl⟩
          obtain ⟨b1, hb1⟩ : ∃ x, contB R1 R2 = x := ⟨_, rfl⟩
          obtain ⟨cb, hcb⟩ : ∃ x, contB T R2 = x := ⟨_, rfl⟩
          have HM0 := Lib.hid (fun W X x (hX : Sds W X n0 R0) (hY : Vls W A2 n2 R2) => Contains_any t0 X n0 x R0 A2 n2 c2 R2 W hX hY hn0 (by omega))
          have HM1 := Lib.hid (fun W X x (hX : Sds W X n1 R1) (hY : Vls W A2 n2 R2) => Contains_any t0 X n1 x R1 A2 n2 c2 R2 W hX hY hn1 (by omega))
          have HM := Lib.hid (fun W X x (hX : Sds W X m T) (hY : Vls W A2 n2 R2) => Contains_any t0 X m x T A2 n2 c2 R2 W hX hY hm (by omega))
          have HMR := Lib.hid (fun W X x (hX : Sds W X m T) (hY : Vls W A2 n2 R2) => RContains_any t0 X m x T A2 n2 c2 R2 W hX hY hm (by omega))
          have HIF := Lib.hid (show b0 = true ∨ b1 = true → cb = true from fun h => by rw [← hcb]; exact HCO.out R2 (by rw [hb0, hb1]; exact h))
          simp only [hb0] at HM0
          simp only [hb1] at HM1
          simp only [hcb] at HM HMR
          clear hb0 hb1 hcb
          have c0_0 : z5.cell? ⟨w.heap.size, 0, none⟩ = some (.int .i64 t0) := K0.out.cell 0
          have c0_1 : z5.cell? ⟨w.heap.size, 1, none⟩ = some (.slice A0 n0 c0) := K0.out.cell 1
          have c1_0 : z5.cell? ⟨w.heap.size + 1, 0, none⟩ = some (.int .i64 t0) := K1.out.cell 0
          have c1_1 : z5.cell? ⟨w.heap.size + 1, 1, none⟩ = some (.slice A1 n1 c1) := K1.out.cell 1
          have kb0 : z5.cell? ⟨gb, 0, none⟩ = some (.int .i64 t0) := KB.out.cell 0
          have kb1 : z5.cell? ⟨gb, 1, none⟩ = some (.slice D m d) := KB.out.cell 1
          cases b0
          · cases b1
            · have hb : Below z5.heap.size z5 z5.drew := below_drew (Below.refl _ _)
              refine wp_region_mix 36 (fun w' => Below z5.heap.size z5 w') (by kernel_rfl) (by decide) ?_
              generalize z5.drew = y0 at hb ⊢
              refine wpM_take (i := 0) (oi := ⟨some 57, _, _, _, _, _⟩) (v := ?_) rfl (by decide +kernel) (by decide +kernel) (by decide +kernel) (fun _ _ _ h => h) (Or.inl ⟨by rfl, ?_⟩) hb ?_
              case refine_2 =>
                intro w' hSw
                have c0_0' := keepcell hSw c0_0
                have c0_1' := keepcell hSw c0_1
                have c1_0' := keepcell hSw c1_0
                have c1_1' := keepcell hSw c1_1
                have kb0' := keepcell hSw kb0
                have kb1' := keepcell hSw kb1
                go_simp
                try (with_reducible rfl)
              try simp only [Act.put, List.setIfInBounds_toArray, List.set_cons_zero, List.set_cons_succ]
              refine wpM_take (i := 2) (oi := ⟨some 59, _, _, _, _, _⟩) (v := ?_) rfl (by decide +kernel) (by decide +kernel) (by decide +kernel) (fun _ _ _ h => h) (Or.inl ⟨by rfl, ?_⟩) hb ?_
              case refine_2 =>
                intro w' hSw
                have c0_0' := keepcell hSw c0_0
                have c0_1' := keepcell hSw c0_1
                have c1_0' := keepcell hSw c1_0
                have c1_1' := keepcell hSw c1_1
                have kb0' := keepcell hSw kb0
                have kb1' := keepcell hSw kb1
                go_simp
                try (with_reducible rfl)
              try simp only [Act.put, List.setIfInBounds_toArray, List.set_cons_zero, List.set_cons_succ]
              refine wpM_take (i := 3) (oi := ⟨some 60, _, _, _, _, _⟩) (v := ?_) rfl (by decide +kernel) (by decide +kernel) (by decide +kernel) (fun _ _ _ h => h) (Or.inl ⟨by rfl, ?_⟩) hb ?_
              case refine_2 =>
                intro w' hSw
                have c0_0' := keepcell hSw c0_0
                have c0_1' := keepcell hSw c0_1
                have c1_0' := keepcell hSw c1_0
                have c1_1' := keepcell hSw c1_1
                have kb0' := keepcell hSw kb0
                have kb1' := keepcell hSw kb1
                go_simp
                try (with_reducible rfl)
              try simp only [Act.put, List.setIfInBounds_toArray, List.set_cons_zero, List.set_cons_succ]
              refine wpM_step (i := 1) (o := ⟨some 58, _, _, _, _, _⟩) rfl (by decide +kernel) (by decide) (fun K hK => ?_)
              go_simp
              refine (back_any t0 D m d T y0 (HD.out.below hb) hm).mono ?_
              rintro e y1 ⟨E1, x1, rfl, S1, h1y⟩
              have b1y : Below z5.heap.size z5 y1 := hb.trans (h1y.mono hb.size)
              clear h1y
              refine hK.out _ _ b1y ?_
              clear hK K
              try simp only [Act.put, List.setIfInBounds_toArray, List.set_cons_zero, List.set_cons_succ]
              refine wpM_step (i := 4) (o := ⟨some 61, _, _, _, _, _⟩) rfl (by decide +kernel) (by decide) (fun K hK => ?_)
              go_simp
              refine (HRH.out y1 (H0.out _ (HB.out.trans (b1y.mono HB.out.size))) (H1.out _ (HB.out.trans (b1y.mono HB.out.size)))).mono ?_
              rintro e y2 ⟨E2, x2, rfl, S2, h2y⟩
              have b2y : Below z5.heap.size z5 y2 := b1y.trans (h2y.mono b1y.size)
              have S1 := S1.below h2y
              clear h2y
              refine hK.out _ _ b2y ?_
              clear hK K
              try simp only [Act.put, List.setIfInBounds_toArray, List.set_cons_zero, List.set_cons_succ]
              refine wpM_step (i := 5) (o := ⟨some 62, _, _, _, _, _⟩) rfl (by decide +kernel) (by decide) (fun K hK => ?_)
              go_simp
              refine (Same_any t0 t0 _ m _ T _ m _ T y2 S1 S2 hm hm).mono ?_
              rintro e y3 ⟨rfl, h3y⟩
              have b3y : Below z5.heap.size z5 y3 := b2y.trans (h3y.mono b2y.size)
              clear h3y
              rw [sameB_refl t0 T]
              refine hK.out _ _ b3y ?_
              clear hK K
              try simp only [Act.put, List.setIfInBounds_toArray, List.set_cons_zero, List.set_cons_succ]
              refine wpM_take (i := 6) (oi := ⟨some 63, _, _, _, _, _⟩) (v := ?_) rfl (by decide +kernel) (by decide +kernel) (by decide +kernel) (fun _ _ _ h => h) (Or.inl ⟨by rfl, ?_⟩) b3y ?_
              case refine_2 =>
                intro w' hSw
                have c0_0' := keepcell hSw c0_0
                have c0_1' := keepcell hSw c0_1
                have c1_0' := keepcell hSw c1_0
                have c1_1' := keepcell hSw c1_1
                have kb0' := keepcell hSw kb0
                have kb1' := keepcell hSw kb1
                go_simp
                try (with_reducible rfl)
              try simp only [Act.put, List.setIfInBounds_toArray, List.set_cons_zero, List.set_cons_succ]
              refine wpM_take (i := 7) (oi := ⟨some 64, _, _, _, _, _⟩) (v := ?_) rfl (by decide +kernel) (by decide +kernel) (by decide +kernel) (fun _ _ _ h => h) (Or.inl ⟨by rfl, ?_⟩) b3y ?_
              case refine_2 =>
                intro w' hSw
                have c0_0' := keepcell hSw c0_0
                have c0_1' := keepcell hSw c0_1
                have c1_0' := keepcell hSw c1_0
                have c1_1' := keepcell hSw c1_1
                have kb0' := keepcell hSw kb0
                have kb1' := keepcell hSw kb1
                go_simp
                try (with_reducible rfl)
              try simp only [Act.put, List.setIfInBounds_toArray, List.set_cons_zero, List.set_cons_succ]
              refine wpM_take (i := 8) (oi := ⟨some 65, _, _, _, _, _⟩) (v := ?_) rfl (by decide +kernel) (by decide +kernel) (by decide +kernel) (fun _ _ _ h => h) (Or.inl ⟨by rfl, ?_⟩) b3y ?_
              case refine_2 =>
                intro w' hSw
                have c0_0' := keepcell hSw c0_0
                have c0_1' := keepcell hSw c0_1
                have c1_0' := keepcell hSw c1_0
                have c1_1' := keepcell hSw c1_1
                have kb0' := keepcell hSw kb0
                have kb1' := keepcell hSw kb1
                go_simp
                try (with_reducible rfl)
              try simp only [Act.put, List.setIfInBounds_toArray, List.set_cons_zero, List.set_cons_succ]
              refine wpM_take (i := 10) (oi := ⟨some 67, _, _, _, _, _⟩) (v := ?_) rfl (by decide +kernel) (by decide +kernel) (by decide +kernel) (fun _ _ _ h => h) (Or.inl ⟨by rfl, ?_⟩) b3y ?_
              case refine_2 =>
                intro w' hSw
                have c0_0' := keepcell hSw c0_0
                have c0_1' := keepcell hSw c0_1
                have c1_0' := keepcell hSw c1_0
                have c1_1' := keepcell hSw c1_1
                have kb0' := keepcell hSw kb0
                have kb1' := keepcell hSw kb1
                go_simp
                try (with_reducible rfl)
              try simp only [Act.put, List.setIfInBounds_toArray, List.set_cons_zero, List.set_cons_succ]
              refine wpM_take (i := 11) (oi := ⟨some 68, _, _, _, _, _⟩) (v := ?_) rfl (by decide +kernel) (by decide +kernel) (by decide +kernel) (fun _ _ _ h => h) (Or.inl ⟨by rfl, ?_⟩) b3y ?_
              case refine_2 =>
                intro w' hSw
                have c0_0' := keepcell hSw c0_0
                have c0_1' := keepcell hSw c0_1
                have c1_0' := keepcell hSw c1_0
                have c1_1' := keepcell hSw c1_1
                have kb0' := keepcell hSw kb0
                have kb1' := keepcell hSw kb1
                go_simp
                try (with_reducible rfl)
              try simp only [Act.put, List.setIfInBounds_toArray, List.set_cons_zero, List.set_cons_succ]
              refine wpM_take (i := 13) (oi := ⟨some 70, _, _, _, _, _⟩) (v := ?_) rfl (by decide +kernel) (by decide +kernel) (by decide +kernel) (fun _ _ _ h => h) (Or.inl ⟨by rfl, ?_⟩) b3y ?_
              case refine_2 =>
                intro w' hSw
                have c0_0' := keepcell hSw c0_0
                have c0_1' := keepcell hSw c0_1
                have c1_0' := keepcell hSw c1_0
                have c1_1' := keepcell hSw c1_1
                have kb0' := keepcell hSw kb0
                have kb1' := keepcell hSw kb1
                go_simp
                try (with_reducible rfl)
              try simp only [Act.put, List.setIfInBounds_toArray, List.set_cons_zero, List.set_cons_succ]
              refine wpM_step (i := 9) (o := ⟨some 66, _, _, _, _, _⟩) rfl (by decide +kernel) (by decide) (fun K hK => ?_)
              go_simp
              refine (HM.out y3 _ _ (HD.out.below b3y) (H2.out _ (HB.out.trans (b3y.mono HB.out.size)))).mono ?_
              rintro e y4 ⟨rfl, h4y⟩
              have b4y : Below z5.heap.size z5 y4 := b3y.trans (h4y.mono b3y.size)
              clear h4y
              refine hK.out _ _ b4y ?_
              clear hK K
              try simp only [Act.put, List.setIfInBounds_toArray, List.set_cons_zero, List.set_cons_succ]
              refine wpM_step (i := 12) (o := ⟨some 69, _, _, _, _, _⟩) rfl (by decide +kernel) (by decide) (fun K hK => ?_)
              go_simp
              refine (HRH.out y4 (H0.out _ (HB.out.trans (b4y.mono HB.out.size))) (H1.out _ (HB.out.trans (b4y.mono HB.out.size)))).mono ?_
              rintro e y5 ⟨E3, x3, rfl, S3, h5y⟩
              have b5y : Below z5.heap.size z5 y5 := b4y.trans (h5y.mono b4y.size)
              clear h5y
              refine hK.out _ _ b5y ?_
              clear hK K
              try simp only [Act.put, List.setIfInBounds_toArray, List.set_cons_zero, List.set_cons_succ]
              refine wpM_step (i := 14) (o := ⟨some 71, _, _, _, _, _⟩) rfl (by decide +kernel) (by decide) (fun K hK => ?_)
              go_simp
              refine (HMR.out y5 _ _ S3 (H2.out _ (HB.out.trans (b5y.mono HB.out.size)))).mono ?_
              rintro e y6 ⟨rfl, h6y⟩
              have b6y : Below z5.heap.size z5 y6 := b5y.trans (h6y.mono b5y.size)
              clear h6y
              refine hK.out _ _ b6y ?_
              clear hK K
              try simp only [Act.put, List.setIfInBounds_toArray, List.set_cons_zero, List.set_cons_succ]
              refine wpM_take (i := 15) (oi := ⟨some 72, _, _, _, _, _⟩) (v := ?_) rfl (by decide +kernel) (by decide +kernel) (by decide +kernel) (fun _ _ _ h => h) (Or.inl ⟨by rfl, ?_⟩) b6y ?_
              case refine_2 =>
                intro w' hSw
                have c0_0' := keepcell hSw c0_0
                have c0_1' := keepcell hSw c0_1
                have c1_0' := keepcell hSw c1_0
                have c1_1' := keepcell hSw c1_1
                have kb0' := keepcell hSw kb0
                have kb1' := keepcell hSw kb1
                go_simp
                try (with_reducible rfl)
              try simp only [Act.put, List.setIfInBounds_toArray, List.set_cons_zero, List.set_cons_succ]
              try simp only [beq_self_eq_true]
              refine wpM_take (i := 16) (oi := ⟨some 73, _, _, _, _, _⟩) (v := ?_) rfl (by decide +kernel) (by decide +kernel) (by decide +kernel) (fun _ _ _ h => h) (Or.inl ⟨by rfl, ?_⟩) b6y ?_
              case refine_2 =>
                intro w' hSw
                have c0_0' := keepcell hSw c0_0
                have c0_1' := keepcell hSw c0_1
                have c1_0' := keepcell hSw c1_0
                have c1_1' := keepcell hSw c1_1
                have kb0' := keepcell hSw kb0
                have kb1' := keepcell hSw kb1
                go_simp
                try (with_reducible rfl)
              try simp only [Act.put, List.setIfInBounds_toArray, List.set_cons_zero, List.set_cons_succ]
              refine wpM_take (i := 17) (oi := ⟨some 74, _, _, _, _, _⟩) (v := ?_) rfl (by decide +kernel) (by decide +kernel) (by decide +kernel) (fun _ _ _ h => h) (Or.inl ⟨by rfl, ?_⟩) b6y ?_
              case refine_2 =>
                intro w' hSw
                have c0_0' := keepcell hSw c0_0
                have c0_1' := keepcell hSw c0_1
                have c1_0' := keepcell hSw c1_0
                have c1_1' := keepcell hSw c1_1
                have kb0' := keepcell hSw kb0
                have kb1' := keepcell hSw kb1
                go_simp
                try (with_reducible rfl)
              try simp only [Act.put, List.setIfInBounds_toArray, List.set_cons_zero, List.set_cons_succ]
              refine wpM_take (i := 18) (oi := ⟨some 75, _, _, _, _, _⟩) (v := ?_) rfl (by decide +kernel) (by decide +kernel) (by decide +kernel) (fun _ _ _ h => h) (Or.inl ⟨by rfl, ?_⟩) b6y ?_
              case refine_2 =>
                intro w' hSw
                have c0_0' := keepcell hSw c0_0
                have c0_1' := keepcell hSw c0_1
                have c1_0' := keepcell hSw c1_0
                have c1_1' := keepcell hSw c1_1
                have kb0' := keepcell hSw kb0
                have kb1' := keepcell hSw kb1
                go_simp
                try (with_reducible rfl)
              try simp only [Act.put, List.setIfInBounds_toArray, List.set_cons_zero, List.set_cons_succ]
              refine wpM_take (i := 20) (oi := ⟨some 77, _, _, _, _, _⟩) (v := ?_) rfl (by decide +kernel) (by decide +kernel) (by decide +kernel) (fun _ _ _ h => h) (Or.inl ⟨by rfl, ?_⟩) b6y ?_
              case refine_2 =>
                intro w' hSw
                have c0_0' := keepcell hSw c0_0
                have c0_1' := keepcell hSw c0_1
                have c1_0' := keepcell hSw c1_0
                have c1_1' := keepcell hSw c1_1
                have kb0' := keepcell hSw kb0
                have kb1' := keepcell hSw kb1
                go_simp
                try (with_reducible rfl)
              try simp only [Act.put, List.setIfInBounds_toArray, List.set_cons_zero, List.set_cons_succ]
              refine wpM_step (i := 19) (o := ⟨some 76, _, _, _, _, _⟩) rfl (by decide +kernel) (by decide) (fun K hK => ?_)
              go_simp
              refine (own_any t0 A0 n0 c0 R0 y6 (H0.out _ (HB.out.trans (b6y.mono HB.out.size))) hn0).mono ?_
              rintro e y7 ⟨E4, x4, rfl, S4, h7y⟩
              have b7y : Below z5.heap.size z5 y7 := b6y.trans (h7y.mono b6y.size)
              clear h7y
              refine hK.out _ _ b7y ?_
              clear hK K
              try simp only [Act.put, List.setIfInBounds_toArray, List.set_cons_zero, List.set_cons_succ]
              refine wpM_step (i := 21) (o := ⟨some 78, _, _, _, _, _⟩) rfl (by decide +kernel) (by decide) (fun K hK => ?_)
              go_simp
              refine (HM0.out y7 _ _ S4 (H2.out _ (HB.out.trans (b7y.mono HB.out.size)))).mono ?_
              rintro e y8 ⟨rfl, h8y⟩
              have b8y : Below z5.heap.size z5 y8 := b7y.trans (h8y.mono b7y.size)
              clear h8y
              refine hK.out _ _ b8y ?_
              clear hK K
              try simp only [Act.put, List.setIfInBounds_toArray, List.set_cons_zero, List.set_cons_succ]
              refine wpM_take (i := 22) (oi := ⟨some 79, _, _, _, _, _⟩) (v := ?_) rfl (by decide +kernel) (by decide +kernel) (by decide +kernel) (fun _ _ _ h => h) (Or.inl ⟨by rfl, ?_⟩) b8y ?_
              case refine_2 =>
                intro w' hSw
                have c0_0' := keepcell hSw c0_0
                have c0_1' := keepcell hSw c0_1
                have c1_0' := keepcell hSw c1_0
                have c1_1' := keepcell hSw c1_1
                have kb0' := keepcell hSw kb0
                have kb1' := keepcell hSw kb1
                go_simp
                try (with_reducible rfl)
              try simp only [Act.put, List.setIfInBounds_toArray, List.set_cons_zero, List.set_cons_succ]
              refine wpM_take (i := 23) (oi := ⟨some 80, _, _, _, _, _⟩) (v := ?_) rfl (by decide +kernel) (by decide +kernel) (by decide +kernel) (fun _ _ _ h => h) (Or.inl ⟨by rfl, ?_⟩) b8y ?_
              case refine_2 =>
                intro w' hSw
                have c0_0' := keepcell hSw c0_0
                have c0_1' := keepcell hSw c0_1
                have c1_0' := keepcell hSw c1_0
                have c1_1' := keepcell hSw c1_1
                have kb0' := keepcell hSw kb0
                have kb1' := keepcell hSw kb1
                go_simp
                try (with_reducible rfl)
              try simp only [Act.put, List.setIfInBounds_toArray, List.set_cons_zero, List.set_cons_succ]
              refine wpM_take (i := 24) (oi := ⟨some 81, _, _, _, _, _⟩) (v := ?_) rfl (by decide +kernel) (by decide +kernel) (by decide +kernel) (fun _ _ _ h => h) (Or.inl ⟨by rfl, ?_⟩) b8y ?_
              case refine_2 =>
                intro w' hSw
                have c0_0' := keepcell hSw c0_0
                have c0_1' := keepcell hSw c0_1
                have c1_0' := keepcell hSw c1_0
                have c1_1' := keepcell hSw c1_1
                have kb0' := keepcell hSw kb0
                have kb1' := keepcell hSw kb1
                go_simp
                try (with_reducible rfl)
              try simp only [Act.put, List.setIfInBounds_toArray, List.set_cons_zero, List.set_cons_succ]
              refine wpM_take (i := 26) (oi := ⟨some 83, _, _, _, _, _⟩) (v := ?_) rfl (by decide +kernel) (by decide +kernel) (by decide +kernel) (fun _ _ _ h => h) (Or.inl ⟨by rfl, ?_⟩) b8y ?_
              case refine_2 =>
                intro w' hSw
                have c0_0' := keepcell hSw c0_0
                have c0_1' := keepcell hSw c0_1
                have c1_0' := keepcell hSw c1_0
                have c1_1' := keepcell hSw c1_1
                have kb0' := keepcell hSw kb0
                have kb1' := keepcell hSw kb1
                go_simp
                try (with_reducible rfl)
              try simp only [Act.put, List.setIfInBounds_toArray, List.set_cons_zero, List.set_cons_succ]
              refine wpM_step (i := 25) (o := ⟨some 82, _, _, _, _, _⟩) rfl (by decide +kernel) (by decide) (fun K hK => ?_)
              go_simp
              refine (own_any t0 A1 n1 c1 R1 y8 (H1.out _ (HB.out.trans (b8y.mono HB.out.size))) hn1).mono ?_
              rintro e y9 ⟨E5, x5, rfl, S5, h9y⟩
              have b9y : Below z5.heap.size z5 y9 := b8y.trans (h9y.mono b8y.size)
              clear h9y
              refine hK.out _ _ b9y ?_
              clear hK K
              try simp only [Act.put, List.setIfInBounds_toArray, List.set_cons_zero, List.set_cons_succ]
              refine wpM_step (i := 27) (o := ⟨some 84, _, _, _, _, _⟩) rfl (by decide +kernel) (by decide) (fun K hK => ?_)
              go_simp
              refine (HM1.out y9 _ _ S5 (H2.out _ (HB.out.trans (b9y.mono HB.out.size)))).mono ?_
              rintro e y10 ⟨rfl, h10y⟩
              have b10y : Below z5.heap.size z5 y10 := b9y.trans (h10y.mono b9y.size)
              clear h10y
              refine hK.out _ _ b10y ?_
              clear hK K
              try simp only [Act.put, List.setIfInBounds_toArray, List.set_cons_zero, List.set_cons_succ]
              refine wpM_take (i := 28) (oi := ⟨some 85, _, _, _, _, _⟩) (v := ?_) rfl (by decide +kernel) (by decide +kernel) (by decide +kernel) (fun _ _ _ h => h) (Or.inl ⟨by rfl, ?_⟩) b10y ?_
              case refine_2 =>
                intro w' hSw
                have c0_0' := keepcell hSw c0_0
                have c0_1' := keepcell hSw c0_1
                have c1_0' := keepcell hSw c1_0
                have c1_1' := keepcell hSw c1_1
                have kb0' := keepcell hSw kb0
                have kb1' := keepcell hSw kb1
                go_simp
                try (with_reducible rfl)
              try simp only [Act.put, List.setIfInBounds_toArray, List.set_cons_zero, List.set_cons_succ]
              refine wpM_take (i := 29) (oi := ⟨some 86, _, _, _, _, _⟩) (v := ?_) rfl (by decide +kernel) (by decide +kernel) (by decide +kernel) (fun _ _ _ h => h) (Or.inl ⟨by rfl, ?_⟩) b10y ?_
              case refine_2 =>
                intro w' hSw
                have c0_0' := keepcell hSw c0_0
                have c0_1' := keepcell hSw c0_1
                have c1_0' := keepcell hSw c1_0
                have c1_1' := keepcell hSw c1_1
                have kb0' := keepcell hSw kb0
                have kb1' := keepcell hSw kb1
                go_simp
                try (with_reducible rfl)
              try simp only [Act.put, List.setIfInBounds_toArray, List.set_cons_zero, List.set_cons_succ]
              refine wpM_take (i := 30) (oi := ⟨some 87, _, _, _, _, _⟩) (v := ?_) rfl (by decide +kernel) (by decide +kernel) (by decide +kernel) (fun _ _ _ h => h) (Or.inl ⟨by rfl, ?_⟩) b10y ?_
              case refine_2 =>
                intro w' hSw
                have c0_0' := keepcell hSw c0_0
                have c0_1' := keepcell hSw c0_1
                have c1_0' := keepcell hSw c1_0
                have c1_1' := keepcell hSw c1_1
                have kb0' := keepcell hSw kb0
                have kb1' := keepcell hSw kb1
                go_simp
                try (with_reducible rfl)
              try simp only [Act.put, List.setIfInBounds_toArray, List.set_cons_zero, List.set_cons_succ]
              refine wpM_take (i := 31) (oi := ⟨some 88, _, _, _, _, _⟩) (v := undef) rfl (by decide +kernel) (by decide +kernel) (by decide +kernel) (fun _ _ _ h => h) (Or.inr ⟨by rfl, rfl⟩) b10y ?_
              try simp only [Act.put, List.setIfInBounds_toArray, List.set_cons_zero, List.set_cons_succ]
              refine wpM_take (i := 32) (oi := ⟨some 89, _, _, _, _, _⟩) (v := undef) rfl (by decide +kernel) (by decide +kernel) (by decide +kernel) (fun _ _ _ h => h) (Or.inr ⟨by rfl, rfl⟩) b10y ?_
              try simp only [Act.put, List.setIfInBounds_toArray, List.set_cons_zero, List.set_cons_succ]
              refine wpM_take (i := 33) (oi := ⟨some 90, _, _, _, _, _⟩) (v := undef) rfl (by decide +kernel) (by decide +kernel) (by decide +kernel) (fun _ _ _ h => h) (Or.inr ⟨by rfl, rfl⟩) b10y ?_
              try simp only [Act.put, List.setIfInBounds_toArray, List.set_cons_zero, List.set_cons_succ]
              refine wpM_take (i := 34) (oi := ⟨some 91, _, _, _, _, _⟩) (v := ?_) rfl (by decide +kernel) (by decide +kernel) (by decide +kernel) (fun _ _ _ h => h) (Or.inl ⟨by rfl, ?_⟩) b10y ?_
              case refine_2 =>
                intro w' hSw
                have c0_0' := keepcell hSw c0_0
                have c0_1' := keepcell hSw c0_1
                have c1_0' := keepcell hSw c1_0
                have c1_1' := keepcell hSw c1_1
                have kb0' := keepcell hSw kb0
                have kb1' := keepcell hSw kb1
                go_simp
                try (with_reducible rfl)
              try simp only [Act.put, List.setIfInBounds_toArray, List.set_cons_zero, List.set_cons_succ]
              refine wpM_take (i := 35) (oi := ⟨some 92, _, _, _, _, _⟩) (v := ?_) rfl (by decide +kernel) (by decide +kernel) (by decide +kernel) (fun _ _ _ h => h) (Or.inl ⟨by rfl, ?_⟩) b10y ?_
              case refine_2 =>
                intro w' hSw
                have c0_0' := keepcell hSw c0_0
                have c0_1' := keepcell hSw c0_1
                have c1_0' := keepcell hSw c1_0
                have c1_1' := keepcell hSw c1_1
                have kb0' := keepcell hSw kb0
                have kb1' := keepcell hSw kb1
                go_simp
                try (with_reducible rfl)
              try simp only [Act.put, List.setIfInBounds_toArray, List.set_cons_zero, List.set_cons_succ]
              refine wpM_done (by decide +kernel) ?_
              simp only [List.drop_succ_cons, List.drop_zero]
              go_wp2
              go_ret
              exact ⟨rfl, HB.out.trans (b10y.mono HB.out.size)⟩
            · have hcb := HIF.out (.inr rfl)
              subst hcb
              have hb : Below z5.heap.size z5 z5.drew := below_drew (Below.refl _ _)
              refine wp_region_mix 36 (fun w' => Below z5.heap.size z5 w') (by kernel_rfl) (by decide) ?_
              generalize z5.drew = y0 at hb ⊢
              refine wpM_take (i := 0) (oi := ⟨some 57, _, _, _, _, _⟩) (v := ?_) rfl (by decide +kernel) (by decide +kernel) (by decide +kernel) (fun _ _ _ h => h) (Or.inl ⟨by rfl, ?_⟩) hb ?_
              case refine_2 =>
                intro w' hSw
                have c0_0' := keepcell hSw c0_0
                have c0_1' := keepcell hSw c0_1
                have c1_0' := keepcell hSw c1_0
                have c1_1' := keepcell hSw c1_1
                have kb0' := keepcell hSw kb0
                have kb1' := keepcell hSw kb1
                go_simp
                try (with_reducible rfl)
              try simp only [Act.put, List.setIfInBounds_toArray, List.set_cons_zero, List.set_cons_succ]
              refine wpM_take (i := 2) (oi := ⟨some 59, _, _, _, _, _⟩) (v := ?_) rfl (by decide +kernel) (by decide +kernel) (by decide +kernel) (fun _ _ _ h => h) (Or.inl ⟨by rfl, ?_⟩) hb ?_
              case refine_2 =>
                intro w' hSw
                have c0_0' := keepcell hSw c0_0
                have c0_1' := keepcell hSw c0_1
                have c1_0' := keepcell hSw c1_0
                have c1_1' := keepcell hSw c1_1
                have kb0' := keepcell hSw kb0
                have kb1' := keepcell hSw kb1
                go_simp
                try (with_reducible rfl)
              try simp only [Act.put, List.setIfInBounds_toArray, List.set_cons_zero, List.set_cons_succ]
              refine wpM_take (i := 3) (oi := ⟨some 60, _, _, _, _, _⟩) (v := ?_) rfl (by decide +kernel) (by decide +kernel) (by decide +kernel) (fun _ _ _ h => h) (Or.inl ⟨by rfl, ?_⟩) hb ?_
              case refine_2 =>
                intro w' hSw
                have c0_0' := keepcell hSw c0_0
                have c0_1' := keepcell hSw c0_1
                have c1_0' := keepcell hSw c1_0
                have c1_1' := keepcell hSw c1_1
                have kb0' := keepcell hSw kb0
                have kb1' := keepcell hSw kb1
                go_simp
                try (with_reducible rfl)
              try simp only [Act.put, List.setIfInBounds_toArray, List.set_cons_zero, List.set_cons_succ]
              refine wpM_step (i := 1) (o := ⟨some 58, _, _, _, _, _⟩) rfl (by decide +kernel) (by decide) (fun K hK => ?_)
              go_simp
              refine (back_any t0 D m d T y0 (HD.out.below hb) hm).mono ?_
              rintro e y1 ⟨E1, x1, rfl, S1, h1y⟩
              have b1y : Below z5.heap.size z5 y1 := hb.trans (h1y.mono hb.size)
              clear h1y
              refine hK.out _ _ b1y ?_
              clear hK K
              try simp only [Act.put, List.setIfInBounds_toArray, List.set_cons_zero, List.set_cons_succ]
              refine wpM_step (i := 4) (o := ⟨some 61, _, _, _, _, _⟩) rfl (by decide +kernel) (by decide) (fun K hK => ?_)
              go_simp
              refine (HRH.out y1 (H0.out _ (HB.out.trans (b1y.mono HB.out.size))) (H1.out _ (HB.out.trans (b1y.mono HB.out.size)))).mono ?_
              rintro e y2 ⟨E2, x2, rfl, S2, h2y⟩
              have b2y : Below z5.heap.size z5 y2 := b1y.trans (h2y.mono b1y.size)
              have S1 := S1.below h2y
              clear h2y
              refine hK.out _ _ b2y ?_
              clear hK K
              try simp only [Act.put, List.setIfInBounds_toArray, List.set_cons_zero, List.set_cons_succ]
              refine wpM_step (i := 5) (o := ⟨some 62, _, _, _, _, _⟩) rfl (by decide +kernel) (by decide) (fun K hK => ?_)
              go_simp
              refine (Same_any t0 t0 _ m _ T _ m _ T y2 S1 S2 hm hm).mono ?_
              rintro e y3 ⟨rfl, h3y⟩
              have b3y : Below z5.heap.size z5 y3 := b2y.trans (h3y.mono b2y.size)
              clear h3y
              rw [sameB_refl t0 T]
              refine hK.out _ _ b3y ?_
              clear hK K
              try simp only [Act.put, List.setIfInBounds_toArray, List.set_cons_zero, List.set_cons_succ]
              refine wpM_take (i := 6) (oi := ⟨some 63, _, _, _, _, _⟩) (v := ?_) rfl (by decide +kernel) (by decide +kernel) (by decide +kernel) (fun _ _ _ h => h) (Or.inl ⟨by rfl, ?_⟩) b3y ?_
              case refine_2 =>
                intro w' hSw
                have c0_0' := keepcell hSw c0_0
                have c0_1' := keepcell hSw c0_1
                have c1_0' := keepcell hSw c1_0
                have c1_1' := keepcell hSw c1_1
                have kb0' := keepcell hSw kb0
                have kb1' := keepcell hSw kb1
                go_simp
                try (with_reducible rfl)
              try simp only [Act.put, List.setIfInBounds_toArray, List.set_cons_zero, List.set_cons_succ]
              refine wpM_take (i := 7) (oi := ⟨some 64, _, _, _, _, _⟩) (v := ?_) rfl (by decide +kernel) (by decide +kernel) (by decide +kernel) (fun _ _ _ h => h) (Or.inl ⟨by rfl, ?_⟩) b3y ?_
              case refine_2 =>
                intro w' hSw
                have c0_0' := keepcell hSw c0_0
                have c0_1' := keepcell hSw c0_1
                have c1_0' := keepcell hSw c1_0
                have c1_1' := keepcell hSw c1_1
                have kb0' := keepcell hSw kb0
                have kb1' := keepcell hSw kb1
                go_simp
                try (with_reducible rfl)
              try simp only [Act.put, List.setIfInBounds_toArray, List.set_cons_zero, List.set_cons_succ]
              refine wpM_take (i := 8) (oi := ⟨some 65, _, _, _, _, _⟩) (v := ?_) rfl (by decide +kernel) (by decide +kernel) (by decide +kernel) (fun _ _ _ h => h) (Or.inl ⟨by rfl, ?_⟩) b3y ?_
              case refine_2 =>
                intro w' hSw
                have c0_0' := keepcell hSw c0_0
                have c0_1' := keepcell hSw c0_1
                have c1_0' := keepcell hSw c1_0
                have c1_1' := keepcell hSw c1_1
                have kb0' := keepcell hSw kb0
                have kb1' := keepcell hSw kb1
                go_simp
                try (with_reducible rfl)
              try simp only [Act.put, List.setIfInBounds_toArray, List.set_cons_zero, List.set_cons_succ]
              refine wpM_take (i := 10) (oi := ⟨some 67, _, _, _, _, _⟩) (v := ?_) rfl (by decide +kernel) (by decide +kernel) (by decide +kernel) (fun _ _ _ h => h) (Or.inl ⟨by rfl, ?_⟩) b3y ?_
              case refine_2 =>
                intro w' hSw
                have c0_0' := keepcell hSw c0_0
                have c0_1' := keepcell hSw c0_1
                have c1_0' := keepcell hSw c1_0
                have c1_1' := keepcell hSw c1_1
                have kb0' := keepcell hSw kb0
                have kb1' := keepcell hSw kb1
                go_simp
                try (with_reducible rfl)
              try simp only [Act.put, List.setIfInBounds_toArray, List.set_cons_zero, List.set_cons_succ]
              refine wpM_take (i := 11) (oi := ⟨some 68, _, _, _, _, _⟩) (v := ?_) rfl (by decide +kernel) (by decide +kernel) (by decide +kernel) (fun _ _ _ h => h) (Or.inl ⟨by rfl, ?_⟩) b3y ?_
              case refine_2 =>
                intro w' hSw
                have c0_0' := keepcell hSw c0_0
                have c0_1' := keepcell hSw c0_1
                have c1_0' := keepcell hSw c1_0
                have c1_1' := keepcell hSw c1_1
                have kb0' := keepcell hSw kb0
                have kb1' := keepcell hSw kb1
                go_simp
                try (with_reducible rfl)
              try simp only [Act.put, List.setIfInBounds_toArray, List.set_cons_zero, List.set_cons_succ]
              refine wpM_take (i := 13) (oi := ⟨some 70, _, _, _, _, _⟩) (v := ?_) rfl (by decide +kernel) (by decide +kernel) (by decide +kernel) (fun _ _ _ h => h) (Or.inl ⟨by rfl, ?_⟩) b3y ?_
              case refine_2 =>
                intro w' hSw
                have c0_0' := keepcell hSw c0_0
                have c0_1' := keepcell hSw c0_1
                have c1_0' := keepcell hSw c1_0
                have c1_1' := keepcell hSw c1_1
                have kb0' := keepcell hSw kb0
                have kb1' := keepcell hSw kb1
                go_simp
                try (with_reducible rfl)
              try simp only [Act.put, List.setIfInBounds_toArray, List.set_cons_zero, List.set_cons_succ]
              refine wpM_step (i := 9) (o := ⟨some 66, _, _, _, _, _⟩) rfl (by decide +kernel) (by decide) (fun K hK => ?_)
              go_simp
              refine (HM.out y3 _ _ (HD.out.below b3y) (H2.out _ (HB.out.trans (b3y.mono HB.out.size)))).mono ?_
              rintro e y4 ⟨rfl, h4y⟩
              have b4y : Below z5.heap.size z5 y4 := b3y.trans (h4y.mono b3y.size)
              clear h4y
              refine hK.out _ _ b4y ?_
              clear hK K
              try simp only [Act.put, List.setIfInBounds_toArray, List.set_cons_zero, List.set_cons_succ]
              refine wpM_step (i := 12) (o := ⟨some 69, _, _, _, _, _⟩) rfl (by decide +kernel) (by decide) (fun K hK => ?_)
              go_simp
              refine (HRH.out y4 (H0.out _ (HB.out.trans (b4y.mono HB.out.size))) (H1.out _ (HB.out.trans (b4y.mono HB.out.size)))).mono ?_
              rintro e y5 ⟨E3, x3, rfl, S3, h5y⟩
              have b5y : Below z5.heap.size z5 y5 := b4y.trans (h5y.mono b4y.size)
              clear h5y
              refine hK.out _ _ b5y ?_
              clear hK K
              try simp only [Act.put, List.setIfInBounds_toArray, List.set_cons_zero, List.set_cons_succ]
              refine wpM_step (i := 14) (o := ⟨some 71, _, _, _, _, _⟩) rfl (by decide +kernel) (by decide) (fun K hK => ?_)
              go_simp
              refine (HMR.out y5 _ _ S3 (H2.out _ (HB.out.trans (b5y.mono HB.out.size)))).mono ?_
              rintro e y6 ⟨rfl, h6y⟩
              have b6y : Below z5.heap.size z5 y6 := b5y.trans (h6y.mono b5y.size)
              clear h6y
              refine hK.out _ _ b6y ?_
              clear hK K
              try simp only [Act.put, List.setIfInBounds_toArray, List.set_cons_zero, List.set_cons_succ]
              refine wpM_take (i := 15) (oi := ⟨some 72, _, _, _, _, _⟩) (v := ?_) rfl (by decide +kernel) (by decide +kernel) (by decide +kernel) (fun _ _ _ h => h) (Or.inl ⟨by rfl, ?_⟩) b6y ?_
              case refine_2 =>
                intro w' hSw
                have c0_0' := keepcell hSw c0_0
                have c0_1' := keepcell hSw c0_1
                have c1_0' := keepcell hSw c1_0
                have c1_1' := keepcell hSw c1_1
                have kb0' := keepcell hSw kb0
                have kb1' := keepcell hSw kb1
                go_simp
                try (with_reducible rfl)
              try simp only [Act.put, List.setIfInBounds_toArray, List.set_cons_zero, List.set_cons_succ]
              try simp only [beq_self_eq_true]
              refine wpM_take (i := 16) (oi := ⟨some 73, _, _, _, _, _⟩) (v := ?_) rfl (by decide +kernel) (by decide +kernel) (by decide +kernel) (fun _ _ _ h => h) (Or.inl ⟨by rfl, ?_⟩) b6y ?_
              case refine_2 =>
                intro w' hSw
                have c0_0' := keepcell hSw c0_0
                have c0_1' := keepcell hSw c0_1
                have c1_0' := keepcell hSw c1_0
                have c1_1' := keepcell hSw c1_1
                have kb0' := keepcell hSw kb0
                have kb1' := keepcell hSw kb1
                go_simp
                try (with_reducible rfl)
              try simp only [Act.put, List.setIfInBounds_toArray, List.set_cons_zero, List.set_cons_succ]
              refine wpM_take (i := 17) (oi := ⟨some 74, _, _, _, _, _⟩) (v := ?_) rfl (by decide +kernel) (by decide +kernel) (by decide +kernel) (fun _ _ _ h => h) (Or.inl ⟨by rfl, ?_⟩) b6y ?_
              case refine_2 =>
                intro w' hSw
                have c0_0' := keepcell hSw c0_0
                have c0_1' := keepcell hSw c0_1
                have c1_0' := keepcell hSw c1_0
                have c1_1' := keepcell hSw c1_1
                have kb0' := keepcell hSw kb0
                have kb1' := keepcell hSw kb1
                go_simp
                try (with_reducible rfl)
              try simp only [Act.put, List.setIfInBounds_toArray, List.set_cons_zero, List.set_cons_succ]
              refine wpM_take (i := 18) (oi := ⟨some 75, _, _, _, _, _⟩) (v := ?_) rfl (by decide +kernel) (by decide +kernel) (by decide +kernel) (fun _ _ _ h => h) (Or.inl ⟨by rfl, ?_⟩) b6y ?_
              case refine_2 =>
                intro w' hSw
                have c0_0' := keepcell hSw c0_0
                have c0_1' := keepcell hSw c0_1
                have c1_0' := keepcell hSw c1_0
                have c1_1' := keepcell hSw c1_1
                have kb0' := keepcell hSw kb0
                have kb1' := keepcell hSw kb1
                go_simp
                try (with_reducible rfl)
              try simp only [Act.put, List.setIfInBounds_toArray, List.set_cons_zero, List.set_cons_succ]
              refine wpM_take (i := 20) (oi := ⟨some 77, _, _, _, _, _⟩) (v := ?_) rfl (by decide +kernel) (by decide +kernel) (by decide +kernel) (fun _ _ _ h => h) (Or.inl ⟨by rfl, ?_⟩) b6y ?_
              case refine_2 =>
                intro w' hSw
                have c0_0' := keepcell hSw c0_0
                have c0_1' := keepcell hSw c0_1
                have c1_0' := keepcell hSw c1_0
                have c1_1' := keepcell hSw c1_1
                have kb0' := keepcell hSw kb0
                have kb1' := keepcell hSw kb1
                go_simp
                try (with_reducible rfl)
              try simp only [Act.put, List.setIfInBounds_toArray, List.set_cons_zero, List.set_cons_succ]
              refine wpM_step (i := 19) (o := ⟨some 76, _, _, _, _, _⟩) rfl (by decide +kernel) (by decide) (fun K hK => ?_)
              go_simp
              refine (own_any t0 A0 n0 c0 R0 y6 (H0.out _ (HB.out.trans (b6y.mono HB.out.size))) hn0).mono ?_
              rintro e y7 ⟨E4, x4, rfl, S4, h7y⟩
              have b7y : Below z5.heap.size z5 y7 := b6y.trans (h7y.mono b6y.size)
              clear h7y
              refine hK.out _ _ b7y ?_
              clear hK K
              try simp only [Act.put, List.setIfInBounds_toArray, List.set_cons_zero, List.set_cons_succ]
              refine wpM_step (i := 21) (o := ⟨some 78, _, _, _, _, _⟩) rfl (by decide +kernel) (by decide) (fun K hK => ?_)
              go_simp
              refine (HM0.out y7 _ _ S4 (H2.out _ (HB.out.trans (b7y.mono HB.out.size)))).mono ?_
              rintro e y8 ⟨rfl, h8y⟩
              have b8y : Below z5.heap.size z5 y8 := b7y.trans (h8y.mono b7y.size)
              clear h8y
              refine hK.out _ _ b8y ?_
              clear hK K
              try simp only [Act.put, List.setIfInBounds_toArray, List.set_cons_zero, List.set_cons_succ]
              refine wpM_take (i := 22) (oi := ⟨some 79, _, _, _, _, _⟩) (v := ?_) rfl (by decide +kernel) (by decide +kernel) (by decide +kernel) (fun _ _ _ h => h) (Or.inl ⟨by rfl, ?_⟩) b8y ?_
              case refine_2 =>
                intro w' hSw
                have c0_0' := keepcell hSw c0_0
                have c0_1' := keepcell hSw c0_1
                have c1_0' := keepcell hSw c1_0
                have c1_1' := keepcell hSw c1_1
                have kb0' := keepcell hSw kb0
                have kb1' := keepcell hSw kb1
                go_simp
                try (with_reducible rfl)
              try simp only [Act.put, List.setIfInBounds_toArray, List.set_cons_zero, List.set_cons_succ]
              refine wpM_take (i := 23) (oi := ⟨some 80, _, _, _, _, _⟩) (v := ?_) rfl (by decide +kernel) (by decide +kernel) (by decide +kernel) (fun _ _ _ h => h) (Or.inl ⟨by rfl, ?_⟩) b8y ?_
              case refine_2 =>
                intro w' hSw
                have c0_0' := keepcell hSw c0_0
                have c0_1' := keepcell hSw c0_1
                have c1_0' := keepcell hSw c1_0
                have c1_1' := keepcell hSw c1_1
                have kb0' := keepcell hSw kb0
                have kb1' := keepcell hSw kb1
                go_simp
                try (with_reducible rfl)
              try simp only [Act.put, List.setIfInBounds_toArray, List.set_cons_zero, List.set_cons_succ]
              refine wpM_take (i := 24) (oi := ⟨some 81, _, _, _, _, _⟩) (v := ?_) rfl (by decide +kernel) (by decide +kernel) (by decide +kernel) (fun _ _ _ h => h) (Or.inl ⟨by rfl, ?_⟩) b8y ?_
              case refine_2 =>
                intro w' hSw
                have c0_0' := keepcell hSw c0_0
                have c0_1' := keepcell hSw c0_1
                have c1_0' := keepcell hSw c1_0
                have c1_1' := keepcell hSw c1_1
                have kb0' := keepcell hSw kb0
                have kb1' := keepcell hSw kb1
                go_simp
                try (with_reducible rfl)
              try simp only [Act.put, List.setIfInBounds_toArray, List.set_cons_zero, List.set_cons_succ]
              refine wpM_take (i := 26) (oi := ⟨some 83, _, _, _, _, _⟩) (v := ?_) rfl (by decide +kernel) (by decide +kernel) (by decide +kernel) (fun _ _ _ h => h) (Or.inl ⟨by rfl, ?_⟩) b8y ?_
              case refine_2 =>
                intro w' hSw
                have c0_0' := keepcell hSw c0_0
                have c0_1' := keepcell hSw c0_1
                have c1_0' := keepcell hSw c1_0
                have c1_1' := keepcell hSw c1_1
                have kb0' := keepcell hSw kb0
                have kb1' := keepcell hSw kb1
                go_simp
                try (with_reducible rfl)
              try simp only [Act.put, List.setIfInBounds_toArray, List.set_cons_zero, List.set_cons_succ]
              refine wpM_step (i := 25) (o := ⟨some 82, _, _, _, _, _⟩) rfl (by decide +kernel) (by decide) (fun K hK => ?_)
              go_simp
              refine (own_any t0 A1 n1 c1 R1 y8 (H1.out _ (HB.out.trans (b8y.mono HB.out.size))) hn1).mono ?_
              rintro e y9 ⟨E5, x5, rfl, S5, h9y⟩
              have b9y : Below z5.heap.size z5 y9 := b8y.trans (h9y.mono b8y.size)
              clear h9y
              refine hK.out _ _ b9y ?_
              clear hK K
              try simp only [Act.put, List.setIfInBounds_toArray, List.set_cons_zero, List.set_cons_succ]
              refine wpM_step (i := 27) (o := ⟨some 84, _, _, _, _, _⟩) rfl (by decide +kernel) (by decide) (fun K hK => ?_)
              go_simp
              refine (HM1.out y9 _ _ S5 (H2.out _ (HB.out.trans (b9y.mono HB.out.size)))).mono ?_
              rintro e y10 ⟨rfl, h10y⟩
              have b10y : Below z5.heap.size z5 y10 := b9y.trans (h10y.mono b9y.size)
              clear h10y
              refine hK.out _ _ b10y ?_
              clear hK K
              try simp only [Act.put, List.setIfInBounds_toArray, List.set_cons_zero, List.set_cons_succ]
              refine wpM_take (i := 28) (oi := ⟨some 85, _, _, _, _, _⟩) (v := ?_) rfl (by decide +kernel) (by decide +kernel) (by decide +kernel) (fun _ _ _ h => h) (Or.inl ⟨by rfl, ?_⟩) b10y ?_
              case refine_2 =>
                intro w' hSw
                have c0_0' := keepcell hSw c0_0
                have c0_1' := keepcell hSw c0_1
                have c1_0' := keepcell hSw c1_0
                have c1_1' := keepcell hSw c1_1
                have kb0' := keepcell hSw kb0
                have kb1' := keepcell hSw kb1
                go_simp
                try (with_reducible rfl)
              try simp only [Act.put, List.setIfInBounds_toArray, List.set_cons_zero, List.set_cons_succ]
              refine wpM_take (i := 29) (oi := ⟨some 86, _, _, _, _, _⟩) (v := ?_) rfl (by decide +kernel) (by decide +kernel) (by decide +kernel) (fun _ _ _ h => h) (Or.inl ⟨by rfl, ?_⟩) b10y ?_
              case refine_2 =>
                intro w' hSw
                have c0_0' := keepcell hSw c0_0
                have c0_1' := keepcell hSw c0_1
                have c1_0' := keepcell hSw c1_0
                have c1_1' := keepcell hSw c1_1
                have kb0' := keepcell hSw kb0
                have kb1' := keepcell hSw kb1
                go_simp
                try (with_reducible rfl)
              try simp only [Act.put, List.setIfInBounds_toArray, List.set_cons_zero, List.set_cons_succ]
              refine wpM_take (i := 30) (oi := ⟨some 87, _, _, _, _, _⟩) (v := ?_) rfl (by decide +kernel) (by decide +kernel) (by decide +kernel) (fun _ _ _ h => h) (Or.inl ⟨by rfl, ?_⟩) b10y ?_
              case refine_2 =>
                intro w' hSw
                have c0_0' := keepcell hSw c0_0
                have c0_1' := keepcell hSw c0_1
                have c1_0' := keepcell hSw c1_0
                have c1_1' := keepcell hSw c1_1
                have kb0' := keepcell hSw kb0
                have kb1' := keepcell hSw kb1
                go_simp
                try (with_reducible rfl)
              try simp only [Act.put, List.setIfInBounds_toArray, List.set_cons_zero, List.set_cons_succ]
              refine wpM_take (i := 31) (oi := ⟨some 88, _, _, _, _, _⟩) (v := ?_) rfl (by decide +kernel) (by decide +kernel) (by decide +kernel) (fun _ _ _ h => h) (Or.inl ⟨by rfl, ?_⟩) b10y ?_
              case refine_2 =>
                intro w' hSw
                have c0_0' := keepcell hSw c0_0
                have c0_1' := keepcell hSw c0_1
                have c1_0' := keepcell hSw c1_0
                have c1_1' := keepcell hSw c1_1
                have kb0' := keepcell hSw kb0
                have kb1' := keepcell hSw kb1
                go_simp
                try (with_reducible rfl)
              try simp only [Act.put, List.setIfInBounds_toArray, List.set_cons_zero, List.set_cons_succ]
              refine wpM_take (i := 32) (oi := ⟨some 89, _, _, _, _, _⟩) (v := ?_) rfl (by decide +kernel) (by decide +kernel) (by decide +kernel) (fun _ _ _ h => h) (Or.inl ⟨by rfl, ?_⟩) b10y ?_
              case refine_2 =>
                intro w' hSw
                have c0_0' := keepcell hSw c0_0
                have c0_1' := keepcell hSw c0_1
                have c1_0' := keepcell hSw c1_0
                have c1_1' := keepcell hSw c1_1
                have kb0' := keepcell hSw kb0
                have kb1' := keepcell hSw kb1
                go_simp
                try (with_reducible rfl)
              try simp only [Act.put, List.setIfInBounds_toArray, List.set_cons_zero, List.set_cons_succ]
              refine wpM_step (i := 33) (o := ⟨some 90, _, _, _, _, _⟩) rfl (by decide +kernel) (by decide) (fun K hK => ?_)
              go_simp
              refine (HM.out y10 _ _ (HD.out.below b10y) (H2.out _ (HB.out.trans (b10y.mono HB.out.size)))).mono ?_
              rintro e y11 ⟨rfl, h11y⟩
              have b11y : Below z5.heap.size z5 y11 := b10y.trans (h11y.mono b10y.size)
              clear h11y
              refine hK.out _ _ b11y ?_
              clear hK K
              try simp only [Act.put, List.setIfInBounds_toArray, List.set_cons_zero, List.set_cons_succ]
              refine wpM_take (i := 34) (oi := ⟨some 91, _, _, _, _, _⟩) (v := ?_) rfl (by decide +kernel) (by decide +kernel) (by decide +kernel) (fun _ _ _ h => h) (Or.inl ⟨by rfl, ?_⟩) b11y ?_
              case refine_2 =>
                intro w' hSw
                have c0_0' := keepcell hSw c0_0
                have c0_1' := keepcell hSw c0_1
                have c1_0' := keepcell hSw c1_0
                have c1_1' := keepcell hSw c1_1
                have kb0' := keepcell hSw kb0
                have kb1' := keepcell hSw kb1
                go_simp
                try (with_reducible rfl)
              try simp only [Act.put, List.setIfInBounds_toArray, List.set_cons_zero, List.set_cons_succ]
              refine wpM_take (i := 35) (oi := ⟨some 92, _, _, _, _, _⟩) (v := ?_) rfl (by decide +kernel) (by decide +kernel) (by decide +kernel) (fun _ _ _ h => h) (Or.inl ⟨by rfl, ?_⟩) b11y ?_
              case refine_2 =>
                intro w' hSw
                have c0_0' := keepcell hSw c0_0
                have c0_1' := keepcell hSw c0_1
                have c1_0' := keepcell hSw c1_0
                have c1_1' := keepcell hSw c1_1
                have kb0' := keepcell hSw kb0
                have kb1' := keepcell hSw kb1
                go_simp
                try (with_reducible rfl)
              try simp only [Act.put, List.setIfInBounds_toArray, List.set_cons_zero, List.set_cons_succ]
              refine wpM_done (by decide +kernel) ?_
              simp only [List.drop_succ_cons, List.drop_zero]
              go_wp2
              go_ret
              exact ⟨rfl, HB.out.trans (b11y.mono HB.out.size)⟩
          · have hcb := HIF.out (.inl rfl)
            subst hcb
            have hb : Below z5.heap.size z5 z5.drew := below_drew (Below.refl _ _)
            refine wp_region_mix 36 (fun w' => Below z5.heap.size z5 w') (by kernel_rfl) (by decide) ?_
            generalize z5.drew = y0 at hb ⊢
            refine wpM_take (i := 0) (oi := ⟨some 57, _, _, _, _, _⟩) (v := ?_) rfl (by decide +kernel) (by decide +kernel) (by decide +kernel) (fun _ _ _ h => h) (Or.inl ⟨by rfl, ?_⟩) hb ?_
            case refine_2 =>
              intro w' hSw
              have c0_0' := keepcell hSw c0_0
              have c0_1' := keepcell hSw c0_1
              have c1_0' := keepcell hSw c1_0
              have c1_1' := keepcell hSw c1_1
              have kb0' := keepcell hSw kb0
              have kb1' := keepcell hSw kb1
              go_simp
              try (with_reducible rfl)
            try simp only [Act.put, List.setIfInBounds_toArray, List.set_cons_zero, List.set_cons_succ]
            refine wpM_take (i := 2) (oi := ⟨some 59, _, _, _, _, _⟩) (v := ?_) rfl (by decide +kernel) (by decide +kernel) (by decide +kernel) (fun _ _ _ h => h) (Or.inl ⟨by rfl, ?_⟩) hb ?_
            case refine_2 =>
              intro w' hSw
              have c0_0' := keepcell hSw c0_0
              have c0_1' := keepcell hSw c0_1
              have c1_0' := keepcell hSw c1_0
              have c1_1' := keepcell hSw c1_1
              have kb0' := keepcell hSw kb0
              have kb1' := keepcell hSw kb1
              go_simp
              try (with_reducible rfl)
            try simp only [Act.put, List.setIfInBounds_toArray, List.set_cons_zero, List.set_cons_succ]
            refine wpM_take (i := 3) (oi := ⟨some 60, _, _, _, _, _⟩) (v := ?_) rfl (by decide +kernel) (by decide +kernel) (by decide +kernel) (fun _ _ _ h => h) (Or.inl ⟨by rfl, ?_⟩) hb ?_
            case refine_2 =>
              intro w' hSw
              have c0_0' := keepcell hSw c0_0
              have c0_1' := keepcell hSw c0_1
              have c1_0' := keepcell hSw c1_0
              have c1_1' := keepcell hSw c1_1
              have kb0' := keepcell hSw kb0
              have kb1' := keepcell hSw kb1
              go_simp
              try (with_reducible rfl)
            try simp only [Act.put, List.setIfInBounds_toArray, List.set_cons_zero, List.set_cons_succ]
            refine wpM_step (i := 1) (o := ⟨some 58, _, _, _, _, _⟩) rfl (by decide +kernel) (by decide) (fun K hK => ?_)
            go_simp
            refine (back_any t0 D m d T y0 (HD.out.below hb) hm).mono ?_
            rintro e y1 ⟨E1, x1, rfl, S1, h1y⟩
            have b1y : Below z5.heap.size z5 y1 := hb.trans (h1y.mono hb.size)
            clear h1y
            refine hK.out _ _ b1y ?_
            clear hK K
            try simp only [Act.put, List.setIfInBounds_toArray, List.set_cons_zero, List.set_cons_succ]
            refine wpM_step (i := 4) (o := ⟨some 61, _, _, _, _, _⟩) rfl (by decide +kernel) (by decide) (fun K hK => ?_)
            go_simp
            refine (HRH.out y1 (H0.out _ (HB.out.trans (b1y.mono HB.out.size))) (H1.out _ (HB.out.trans (b1y.mono HB.out.size)))).mono ?_
            rintro e y2 ⟨E2, x2, rfl, S2, h2y⟩
            have b2y : Below z5.heap.size z5 y2 := b1y.trans (h2y.mono b1y.size)
            have S1 := S1.below h2y
            clear h2y
            refine hK.out _ _ b2y ?_
            clear hK K
            try simp only [Act.put, List.setIfInBounds_toArray, List.set_cons_zero, List.set_cons_succ]
            refine wpM_step (i := 5) (o := ⟨some 62, _, _, _, _, _⟩) rfl (by decide +kernel) (by decide) (fun K hK => ?_)
            go_simp
            refine (Same_any t0 t0 _ m _ T _ m _ T y2 S1 S2 hm hm).mono ?_
            rintro e y3 ⟨rfl, h3y⟩
            have b3y : Below z5.heap.size z5 y3 := b2y.trans (h3y.mono b2y.size)
            clear h3y
            rw [sameB_refl t0 T]
            refine hK.out _ _ b3y ?_
            clear hK K
            try simp only [Act.put, List.setIfInBounds_toArray, List.set_cons_zero, List.set_cons_succ]
            refine wpM_take (i := 6) (oi := ⟨some 63, _, _, _, _, _⟩) (v := ?_) rfl (by decide +kernel) (by decide +kernel) (by decide +kernel) (fun _ _ _ h => h) (Or.inl ⟨by rfl, ?_⟩) b3y ?_
            case refine_2 =>
              intro w' hSw
              have c0_0' := keepcell hSw c0_0
              have c0_1' := keepcell hSw c0_1
              have c1_0' := keepcell hSw c1_0
              have c1_1' := keepcell hSw c1_1
              have kb0' := keepcell hSw kb0
              have kb1' := keepcell hSw kb1
              go_simp
              try (with_reducible rfl)
            try simp only [Act.put, List.setIfInBounds_toArray, List.set_cons_zero, List.set_cons_succ]
            refine wpM_take (i := 7) (oi := ⟨some 64, _, _, _, _, _⟩) (v := ?_) rfl (by decide +kernel) (by decide +kernel) (by decide +kernel) (fun _ _ _ h => h) (Or.inl ⟨by rfl, ?_⟩) b3y ?_
            case refine_2 =>
              intro w' hSw
              have c0_0' := keepcell hSw c0_0
              have c0_1' := keepcell hSw c0_1
              have c1_0' := keepcell hSw c1_0
              have c1_1' := keepcell hSw c1_1
              have kb0' := keepcell hSw kb0
              have kb1' := keepcell hSw kb1
              go_simp
              try (with_reducible rfl)
            try simp only [Act.put, List.setIfInBounds_toArray, List.set_cons_zero, List.set_cons_succ]
            refine wpM_take (i := 8) (oi := ⟨some 65, _, _, _, _, _⟩) (v := ?_) rfl (by decide +kernel) (by decide +kernel) (by decide +kernel) (fun _ _ _ h => h) (Or.inl ⟨by rfl, ?_⟩) b3y ?_
            case refine_2 =>
              intro w' hSw
              have c0_0' := keepcell hSw c0_0
              have c0_1' := keepcell hSw c0_1
              have c1_0' := keepcell hSw c1_0
              have c1_1' := keepcell hSw c1_1
              have kb0' := keepcell hSw kb0
              have kb1' := keepcell hSw kb1
              go_simp
              try (with_reducible rfl)
            try simp only [Act.put, List.setIfInBounds_toArray, List.set_cons_zero, List.set_cons_succ]
            refine wpM_take (i := 10) (oi := ⟨some 67, _, _, _, _, _⟩) (v := ?_) rfl (by decide +kernel) (by decide +kernel) (by decide +kernel) (fun _ _ _ h => h) (Or.inl ⟨by rfl, ?_⟩) b3y ?_
            case refine_2 =>
              intro w' hSw
              have c0_0' := keepcell hSw c0_0
              have c0_1' := keepcell hSw c0_1
              have c1_0' := keepcell hSw c1_0
              have c1_1' := keepcell hSw c1_1
              have kb0' := keepcell hSw kb0
              have kb1' := keepcell hSw kb1
              go_simp
              try (with_reducible rfl)
            try simp only [Act.put, List.setIfInBounds_toArray, List.set_cons_zero, List.set_cons_succ]
            refine wpM_take (i := 11) (oi := ⟨some 68, _, _, _, _, _⟩) (v := ?_) rfl (by decide +kernel) (by decide +kernel) (by decide +kernel) (fun _ _ _ h => h) (Or.inl ⟨by rfl, ?_⟩) b3y ?_
            case refine_2 =>
              intro w' hSw
              have c0_0' := keepcell hSw c0_0
              have c0_1' := keepcell hSw c0_1
              have c1_0' := keepcell hSw c1_0
              have c1_1' := keepcell hSw c1_1
              have kb0' := keepcell hSw kb0
              have kb1' := keepcell hSw kb1
              go_simp
              try (with_reducible rfl)
            try simp only [Act.put, List.setIfInBounds_toArray, List.set_cons_zero, List.set_cons_succ]
            refine wpM_take (i := 13) (oi := ⟨some 70, _, _, _, _, _⟩) (v := ?_) rfl (by decide +kernel) (by decide +kernel) (by decide +kernel) (fun _ _ _ h => h) (Or.inl ⟨by rfl, ?_⟩) b3y ?_
            case refine_2 =>
              intro w' hSw
              have c0_0' := keepcell hSw c0_0
              have c0_1' := keepcell hSw c0_1
              have c1_0' := keepcell hSw c1_0
              have c1_1' := keepcell hSw c1_1
              have kb0' := keepcell hSw kb0
              have kb1' := keepcell hSw kb1
              go_simp
              try (with_reducible rfl)
            try simp only [Act.put, List.setIfInBounds_toArray, List.set_cons_zero, List.set_cons_succ]
            refine wpM_step (i := 9) (o := ⟨some 66, _, _, _, _, _⟩) rfl (by decide +kernel) (by decide) (fun K hK => ?_)
            go_simp
            refine (HM.out y3 _ _ (HD.out.below b3y) (H2.out _ (HB.out.trans (b3y.mono HB.out.size)))).mono ?_
            rintro e y4 ⟨rfl, h4y⟩
            have b4y : Below z5.heap.size z5 y4 := b3y.trans (h4y.mono b3y.size)
            clear h4y
            refine hK.out _ _ b4y ?_
            clear hK K
            try simp only [Act.put, List.setIfInBounds_toArray, List.set_cons_zero, List.set_cons_succ]
            refine wpM_step (i := 12) (o := ⟨some 69, _, _, _, _, _⟩) rfl (by decide +kernel) (by decide) (fun K hK => ?_)
            go_simp
            refine (HRH.out y4 (H0.out _ (HB.out.trans (b4y.mono HB.out.size))) (H1.out _ (HB.out.trans (b4y.mono HB.out.size)))).mono ?_
            rintro e y5 ⟨E3, x3, rfl, S3, h5y⟩
            have b5y : Below z5.heap.size z5 y5 := b4y.trans (h5y.mono b4y.size)
            clear h5y
            refine hK.out _ _ b5y ?_
            clear hK K
            try simp only [Act.put, List.setIfInBounds_toArray, List.set_cons_zero, List.set_cons_succ]
            refine wpM_step (i := 14) (o := ⟨some 71, _, _, _, _, _⟩) rfl (by decide +kernel) (by decide) (fun K hK => ?_)
            go_simp
            refine (HMR.out y5 _ _ S3 (H2.out _ (HB.out.trans (b5y.mono HB.out.size)))).mono ?_
            rintro e y6 ⟨rfl, h6y⟩
            have b6y : Below z5.heap.size z5 y6 := b5y.trans (h6y.mono b5y.size)
            clear h6y
            refine hK.out _ _ b6y ?_
            clear hK K
            try simp only [Act.put, List.setIfInBounds_toArray, List.set_cons_zero, List.set_cons_succ]
            refine wpM_take (i := 15) (oi := ⟨some 72, _, _, _, _, _⟩) (v := ?_) rfl (by decide +kernel) (by decide +kernel) (by decide +kernel) (fun _ _ _ h => h) (Or.inl ⟨by rfl, ?_⟩) b6y ?_
            case refine_2 =>
              intro w' hSw
              have c0_0' := keepcell hSw c0_0
              have c0_1' := keepcell hSw c0_1
              have c1_0' := keepcell hSw c1_0
              have c1_1' := keepcell hSw c1_1
              have kb0' := keepcell hSw kb0
              have kb1' := keepcell hSw kb1
              go_simp
              try (with_reducible rfl)
            try simp only [Act.put, List.setIfInBounds_toArray, List.set_cons_zero, List.set_cons_succ]
            try simp only [beq_self_eq_true]
            refine wpM_take (i := 16) (oi := ⟨some 73, _, _, _, _, _⟩) (v := ?_) rfl (by decide +kernel) (by decide +kernel) (by decide +kernel) (fun _ _ _ h => h) (Or.inl ⟨by rfl, ?_⟩) b6y ?_
            case refine_2 =>
              intro w' hSw
              have c0_0' := keepcell hSw c0_0
              have c0_1' := keepcell hSw c0_1
              have c1_0' := keepcell hSw c1_0
              have c1_1' := keepcell hSw c1_1
              have kb0' := keepcell hSw kb0
              have kb1' := keepcell hSw kb1
              go_simp
              try (with_reducible rfl)
            try simp only [Act.put, List.setIfInBounds_toArray, List.set_cons_zero, List.set_cons_succ]
            refine wpM_take (i := 17) (oi := ⟨some 74, _, _, _, _, _⟩) (v := ?_) rfl (by decide +kernel) (by decide +kernel) (by decide +kernel) (fun _ _ _ h => h) (Or.inl ⟨by rfl, ?_⟩) b6y ?_
            case refine_2 =>
              intro w' hSw
              have c0_0' := keepcell hSw c0_0
              have c0_1' := keepcell hSw c0_1
              have c1_0' := keepcell hSw c1_0
              have c1_1' := keepcell hSw c1_1
              have kb0' := keepcell hSw kb0
              have kb1' := keepcell hSw kb1
              go_simp
              try (with_reducible rfl)
            try simp only [Act.put, List.setIfInBounds_toArray, List.set_cons_zero, List.set_cons_succ]
            refine wpM_take (i := 18) (oi := ⟨some 75, _, _, _, _, _⟩) (v := ?_) rfl (by decide +kernel) (by decide +kernel) (by decide +kernel) (fun _ _ _ h => h) (Or.inl ⟨by rfl, ?_⟩) b6y ?_
            case refine_2 =>
              intro w' hSw
              have c0_0' := keepcell hSw c0_0
              have c0_1' := keepcell hSw c0_1
              have c1_0' := keepcell hSw c1_0
              have c1_1' := keepcell hSw c1_1
              have kb0' := keepcell hSw kb0
              have kb1' := keepcell hSw kb1
              go_simp
              try (with_reducible rfl)
            try simp only [Act.put, List.setIfInBounds_toArray, List.set_cons_zero, List.set_cons_succ]
            refine wpM_take (i := 20) (oi := ⟨some 77, _, _, _, _, _⟩) (v := ?_) rfl (by decide +kernel) (by decide +kernel) (by decide +kernel) (fun _ _ _ h => h) (Or.inl ⟨by rfl, ?_⟩) b6y ?_
            case refine_2 =>
              intro w' hSw
              have c0_0' := keepcell hSw c0_0
              have c0_1' := keepcell hSw c0_1
              have c1_0' := keepcell hSw c1_0
              have c1_1' := keepcell hSw c1_1
              have kb0' := keepcell hSw kb0
              have kb1' := keepcell hSw kb1
              go_simp
              try (with_reducible rfl)
            try simp only [Act.put, List.setIfInBounds_toArray, List.set_cons_zero, List.set_cons_succ]
            refine wpM_step (i := 19) (o := ⟨some 76, _, _, _, _, _⟩) rfl (by decide +kernel) (by decide) (fun K hK => ?_)
            go_simp
            refine (own_any t0 A0 n0 c0 R0 y6 (H0.out _ (HB.out.trans (b6y.mono HB.out.size))) hn0).mono ?_
            rintro e y7 ⟨E4, x4, rfl, S4, h7y⟩
            have b7y : Below z5.heap.size z5 y7 := b6y.trans (h7y.mono b6y.size)
            clear h7y
            refine hK.out _ _ b7y ?_
            clear hK K
            try simp only [Act.put, List.setIfInBounds_toArray, List.set_cons_zero, List.set_cons_succ]
            refine wpM_step (i := 21) (o := ⟨some 78, _, _, _, _, _⟩) rfl (by decide +kernel) (by decide) (fun K hK => ?_)
            go_simp
            refine (HM0.out y7 _ _ S4 (H2.out _ (HB.out.trans (b7y.mono HB.out.size)))).mono ?_
            rintro e y8 ⟨rfl, h8y⟩
            have b8y : Below z5.heap.size z5 y8 := b7y.trans (h8y.mono b7y.size)
            clear h8y
            refine hK.out _ _ b8y ?_
            clear hK K
            try simp only [Act.put, List.setIfInBounds_toArray, List.set_cons_zero, List.set_cons_succ]
            refine wpM_take (i := 22) (oi := ⟨some 79, _, _, _, _, _⟩) (v := ?_) rfl (by decide +kernel) (by decide +kernel) (by decide +kernel) (fun _ _ _ h => h) (Or.inl ⟨by rfl, ?_⟩) b8y ?_
            case refine_2 =>
              intro w' hSw
              have c0_0' := keepcell hSw c0_0
              have c0_1' := keepcell hSw c0_1
              have c1_0' := keepcell hSw c1_0
              have c1_1' := keepcell hSw c1_1
              have kb0' := keepcell hSw kb0
              have kb1' := keepcell hSw kb1
              go_simp
              try (with_reducible rfl)
            try simp only [Act.put, List.setIfInBounds_toArray, List.set_cons_zero, List.set_cons_succ]
            refine wpM_take (i := 23) (oi := ⟨some 80, _, _, _, _, _⟩) (v := ?_) rfl (by decide +kernel) (by decide +kernel) (by decide +kernel) (fun _ _ _ h => h) (Or.inl ⟨by rfl, ?_⟩) b8y ?_
            case refine_2 =>
              intro w' hSw
              have c0_0' := keepcell hSw c0_0
              have c0_1' := keepcell hSw c0_1
              have c1_0' := keepcell hSw c1_0
              have c1_1' := keepcell hSw c1_1
              have kb0' := keepcell hSw kb0
              have kb1' := keepcell hSw kb1
              go_simp
              try (with_reducible rfl)
            try simp only [Act.put, List.setIfInBounds_toArray, List.set_cons_zero, List.set_cons_succ]
            refine wpM_take (i := 24) (oi := ⟨some 81, _, _, _, _, _⟩) (v := undef) rfl (by decide +kernel) (by decide +kernel) (by decide +kernel) (fun _ _ _ h => h) (Or.inr ⟨by rfl, rfl⟩) b8y ?_
            try simp only [Act.put, List.setIfInBounds_toArray, List.set_cons_zero, List.set_cons_succ]
            refine wpM_take (i := 25) (oi := ⟨some 82, _, _, _, _, _⟩) (v := undef) rfl (by decide +kernel) (by decide +kernel) (by decide +kernel) (fun _ _ _ h => h) (Or.inr ⟨by rfl, rfl⟩) b8y ?_
            try simp only [Act.put, List.setIfInBounds_toArray, List.set_cons_zero, List.set_cons_succ]
            refine wpM_take (i := 26) (oi := ⟨some 83, _, _, _, _, _⟩) (v := undef) rfl (by decide +kernel) (by decide +kernel) (by decide +kernel) (fun _ _ _ h => h) (Or.inr ⟨by rfl, rfl⟩) b8y ?_
            try simp only [Act.put, List.setIfInBounds_toArray, List.set_cons_zero, List.set_cons_succ]
            refine wpM_take (i := 27) (oi := ⟨some 84, _, _, _, _, _⟩) (v := undef) rfl (by decide +kernel) (by decide +kernel) (by decide +kernel) (fun _ _ _ h => h) (Or.inr ⟨by rfl, rfl⟩) b8y ?_
            try simp only [Act.put, List.setIfInBounds_toArray, List.set_cons_zero, List.set_cons_succ]
            refine wpM_take (i := 28) (oi := ⟨some 85, _, _, _, _, _⟩) (v := undef) rfl (by decide +kernel) (by decide +kernel) (by decide +kernel) (fun _ _ _ h => h) (Or.inr ⟨by rfl, rfl⟩) b8y ?_
            try simp only [Act.put, List.setIfInBounds_toArray, List.set_cons_zero, List.set_cons_succ]
            refine wpM_take (i := 29) (oi := ⟨some 86, _, _, _, _, _⟩) (v := ?_) rfl (by decide +kernel) (by decide +kernel) (by decide +kernel) (fun _ _ _ h => h) (Or.inl ⟨by rfl, ?_⟩) b8y ?_
            case refine_2 =>
              intro w' hSw
              have c0_0' := keepcell hSw c0_0
              have c0_1' := keepcell hSw c0_1
              have c1_0' := keepcell hSw c1_0
              have c1_1' := keepcell hSw c1_1
              have kb0' := keepcell hSw kb0
              have kb1' := keepcell hSw kb1
              go_simp
              try (with_reducible rfl)
            try simp only [Act.put, List.setIfInBounds_toArray, List.set_cons_zero, List.set_cons_succ]
            refine wpM_take (i := 30) (oi := ⟨some 87, _, _, _, _, _⟩) (v := ?_) rfl (by decide +kernel) (by decide +kernel) (by decide +kernel) (fun _ _ _ h => h) (Or.inl ⟨by rfl, ?_⟩) b8y ?_
            case refine_2 =>
              intro w' hSw
              have c0_0' := keepcell hSw c0_0
              have c0_1' := keepcell hSw c0_1
              have c1_0' := keepcell hSw c1_0
              have c1_1' := keepcell hSw c1_1
              have kb0' := keepcell hSw kb0
              have kb1' := keepcell hSw kb1
              go_simp
              try (with_reducible rfl)
            try simp only [Act.put, List.setIfInBounds_toArray, List.set_cons_zero, List.set_cons_succ]
            refine wpM_take (i := 31) (oi := ⟨some 88, _, _, _, _, _⟩) (v := ?_) rfl (by decide +kernel) (by decide +kernel) (by decide +kernel) (fun _ _ _ h => h) (Or.inl ⟨by rfl, ?_⟩) b8y ?_
            case refine_2 =>
              intro w' hSw
              have c0_0' := keepcell hSw c0_0
              have c0_1' := keepcell hSw c0_1
              have c1_0' := keepcell hSw c1_0
              have c1_1' := keepcell hSw c1_1
              have kb0' := keepcell hSw kb0
              have kb1' := keepcell hSw kb1
              go_simp
              try (with_reducible rfl)
            try simp only [Act.put, List.setIfInBounds_toArray, List.set_cons_zero, List.set_cons_succ]
            refine wpM_take (i := 32) (oi := ⟨some 89, _, _, _, _, _⟩) (v := ?_) rfl (by decide +kernel) (by decide +kernel) (by decide +kernel) (fun _ _ _ h => h) (Or.inl ⟨by rfl, ?_⟩) b8y ?_
            case refine_2 =>
              intro w' hSw
              have c0_0' := keepcell hSw c0_0
              have c0_1' := keepcell hSw c0_1
              have c1_0' := keepcell hSw c1_0
              have c1_1' := keepcell hSw c1_1
              have kb0' := keepcell hSw kb0
              have kb1' := keepcell hSw kb1
              go_simp
              try (with_reducible rfl)
            try simp only [Act.put, List.setIfInBounds_toArray, List.set_cons_zero, List.set_cons_succ]
            refine wpM_step (i := 33) (o := ⟨some 90, _, _, _, _, _⟩) rfl (by decide +kernel) (by decide) (fun K hK => ?_)
            go_simp
            refine (HM.out y8 _ _ (HD.out.below b8y) (H2.out _ (HB.out.trans (b8y.mono HB.out.size)))).mono ?_
            rintro e y9 ⟨rfl, h9y⟩
            have b9y : Below z5.heap.size z5 y9 := b8y.trans (h9y.mono b8y.size)
            clear h9y
            refine hK.out _ _ b9y ?_
            clear hK K
            try simp only [Act.put, List.setIfInBounds_toArray, List.set_cons_zero, List.set_cons_succ]
            refine wpM_take (i := 34) (oi := ⟨some 91, _, _, _, _, _⟩) (v := ?_) rfl (by decide +kernel) (by decide +kernel) (by decide +kernel) (fun _ _ _ h => h) (Or.inl ⟨by rfl, ?_⟩) b9y ?_
            case refine_2 =>
              intro w' hSw
              have c0_0' := keepcell hSw c0_0
              have c0_1' := keepcell hSw c0_1
              have c1_0' := keepcell hSw c1_0
              have c1_1' := keepcell hSw c1_1
              have kb0' := keepcell hSw kb0
              have kb1' := keepcell hSw kb1
              go_simp
              try (with_reducible rfl)
            try simp only [Act.put, List.setIfInBounds_toArray, List.set_cons_zero, List.set_cons_succ]
            refine wpM_take (i := 35) (oi := ⟨some 92, _, _, _, _, _⟩) (v := ?_) rfl (by decide +kernel) (by decide +kernel) (by decide +kernel) (fun _ _ _ h => h) (Or.inl ⟨by rfl, ?_⟩) b9y ?_
            case refine_2 =>
              intro w' hSw
              have c0_0' := keepcell hSw c0_0
              have c0_1' := keepcell hSw c0_1
              have c1_0' := keepcell hSw c1_0
              have c1_1' := keepcell hSw c1_1
              have kb0' := keepcell hSw kb0
              have kb1' := keepcell hSw kb1
              go_simp
              try (with_reducible rfl)
            try simp only [Act.put, List.setIfInBounds_toArray, List.set_cons_zero, List.set_cons_succ]
            refine wpM_done (by decide +kernel) ?_
            simp only [List.drop_succ_cons, List.drop_zero]
            go_wp2
            go_ret
            exact ⟨rfl, HB.out.trans (b9y.mono HB.out.size)⟩
    · have e1 : ((n0 : Int) != n1) = true := by simp; omega
      have e2 : ((n0 : Int) == n1) = false := by simp; omega
      have e3 : (0 : Int) < n0 := by omega
      have e4 : (0 : Int) < n1 := by omega
      have hcx := Lib.hid hc
      clear hc
      go_wp2
      go_ret
      exact ⟨rfl, HB.out⟩
  · have hne : (t0 == t1) = false := by simpa using htt
    have hne2 : (t0 != t1) = true := by simpa using htt
    clear htt
    have c0_0 : x4.cell? ⟨w.heap.size, 0, none⟩ = some (.int .i64 t0) := K0.out.cell 0
    have c0_1 : x4.cell? ⟨w.heap.size, 1, none⟩ = some (.slice A0 n0 c0) := K0.out.cell 1
    have c1_0 : x4.cell? ⟨w.heap.size + 1, 0, none⟩ = some (.int .i64 t1) := K1.out.cell 0
    have c1_1 : x4.cell? ⟨w.heap.size + 1, 1, none⟩ = some (.slice A1 n1 c1) := K1.out.cell 1
    go_wp2_with fail
    refine (awake_any _).mono ?_
    rintro e y1 ⟨rfl, hb⟩
    replace HB := Lib.hid (HB.out.trans (hb.mono HB.out.size))
    clear hb
    go_wp2
    go_ret
    exact ⟨rfl, HB.out⟩

set_option maxRecDepth 100000 in
theorem boxHull_lifted (os : Os) (started : os.Started) (H : Type) (enc : TypeId × Value → H) :
    ReturnsInHanded {} Try.checked os 6 .any (Rows.boxHullSpec.pre6 enc Try.prog Try.f6 Rows.boxHullRow.domain false) (Rows.boxHullSpec.post enc Try.prog Try.f6 false true false false) := by
  refine law_lifted (C := Try.checked) (B := 4) Try.own started (by kernel_rfl) Try.func6
    (ChangeSpec.witness6 (enc := enc) (C := Try.checked) false ⟨#[], #[.agg #[.int .i64 0, .slice none 0 0], .agg #[.int .i64 0, .slice none 0 0], .slice none 0 0], []⟩ 8 (by kernel_rfl) (by kernel_rfl) (by kernel_rfl) (by kernel_rfl))
    Try.laidOut (by kernel_rfl) rfl rfl rfl Try.underlying4 (fun ds h => match ds, h with | [_, _, _], _ => rfl) ?_
  intro W base args ds ps hval hA hlt hsz
  rw [Try.params6] at hA hval hsz
  obtain ⟨v0, vs0, d0, ds0, p0, q0, hargs, rfl, rfl, h0, r0⟩ := trodAll_cons hA
  obtain ⟨v1, vs1, d1, ds1, p1, q1, rfl, rfl, rfl, h1, r1⟩ := trodAll_cons r0
  obtain ⟨v2, vs2, d2, ds2, p2, q2, rfl, rfl, rfl, h2, r2⟩ := trodAll_cons r1
  obtain ⟨rfl, rfl, rfl⟩ := trodAll_nil r2
  obtain rfl : args = #[v0, v1, v2] := by cases args; simp_all
  obtain ⟨x0, A0, n0, c0, R0, rfl, -, l0⟩ := open_Box (hval 0 24 v0 rfl rfl) h0 (fun x hx => hlt x (by simp [hx])) hsz (j := 0) rfl rfl
  obtain ⟨x1, A1, n1, c1, R1, rfl, -, l1⟩ := open_Box (hval 1 24 v1 rfl rfl) h1 (fun x hx => hlt x (by simp [hx])) hsz (j := 1) rfl rfl
  obtain ⟨A2, n2, c2, R2, rfl, k2, l2, g2⟩ := open_row (hval 2 26 v2 rfl rfl) h2 (fun x hx => hlt x (by simp [hx])) hsz (j := 2) rfl rfl
  exact boxHull_walk x0 A0 n0 c0 R0 x1 A1 n1 c1 R1 A2 n2 c2 R2 W l0 l1 k2 l2 g2

theorem boxHull_over : Rows.boxHullRow.holds Try.pinned (OpenSpec.ofChange Rows.boxHullSpec) :=
  OpenClaim.holds_of_wide 6 Try.f6 rfl rfl rfl rfl rfl rfl rfl ⟨rfl, rfl, rfl, rfl, rfl⟩ rfl rfl rfl rfl rfl (by kernel_rfl) Try.func6 (by kernel_rfl)
    (of_decide_eq_true (by kernel_rfl)) (by unfold Func.isWrapper; first | (rw [if_pos (by decide +kernel)]; kernel_rfl) | (rw [if_neg (by decide +kernel)]; exact ⟨rfl, rfl⟩))
    (fun os started H enc _ => boxHull_lifted os started H enc)

theorem boxHull_proved : Rows.BoxHullSaid := boxHull_over
end Go.Proofs.Ytcocdhndhlegiaa
