/- Law BoxindexMatchesList: for every input the call returns true, and its arguments read afterwards as before. -/
import Derived.Test.YtgenpldldgplhaaBon
import Derived.Test.YtgenpldldgplhaaBfr
import Derived.Test.YtgenpldldgplhaaBpy
import Derived.Deep.Cut
namespace Go.Proofs.Ytgenpldldgplhaa
open Go.ChangeShapes Go.WideShapes Go.ChangeAt Go.RowKit Go.ChangeMaps

set_option maxRecDepth 100000 in
set_option maxHeartbeats 4000000 in
theorem boxindexMatchesList_walk (A : Option Addr) (n c : Nat) (R : List Ot) (w : World) (k0 : Ots w A n R) (l0 : n ≤ 9223372036854775807) (g0 : ∀ x ∈ R, Sds w x.A x.n x.R ∧ x.n ≤ 9223372036854775807 ∧ w64 x.id ∧ w64 x.t ∧ 0 ≤ x.kd ∧ x.kd < 256) : Calls Try.prog 3 #[.slice A n c] w fun e w' => e = .returned (.bool true) ∧ Below w.heap.size w w' := by
  have HK := Lib.hid k0
  have HG := Lib.hid g0
  go_enter Try.func3, Try.ntmps3
  go_wp2_with fail
  refine (awake_any w).mono ?_
  rintro e1 w1 ⟨rfl, hb1⟩
  have HB1 := Lib.hid hb1
  have CF := Lib.hid (Fair_any A n c R 60 w1 (k0.below hb1) (by omega) (fun o ho => ⟨(g0 o ho).1.below hb1, (g0 o ho).2.1⟩))
  clear hb1 k0 g0
  go_wp2_with fail
  refine CF.out.mono ?_
  rintro e2 w2 ⟨q, rfl, hq, hb2⟩
  have HB2 := Lib.hid (HB1.out.trans (hb2.mono HB1.out.size))
  clear CF hb2
  cases q
  · go_wp2
    go_ret
    exact ⟨rfl, HB2.out⟩
  · obtain ⟨hn60, hn4⟩ := hq rfl
    have hn : n ≤ 60 := by omega
    have HOK := Lib.hid (show OkO w2 R from fun o ho => ⟨(HG.out o ho).1.below HB2.out, by have := hn4 o ho; omega, (HG.out o ho).2.2⟩)
    clear hq hn4 hn60
    have HKO := Lib.hid (HK.out.below HB2.out)
    have HL := Lib.hid HKO.out.len
    have HA := Lib.hid HKO.out.at
    have CP := Lib.hid (Play_any A n c R w2 HKO.out (by omega) HOK.out)
    go_wp2_with fail
    refine CP.out.mono ?_
    rintro e3 w3 ⟨x, A', m, c', M, L1, L2, rfl, hp⟩
    have HP := Lib.hid hp
    have hlm : L1.length = m := hp.ks.len.trans hp.row.len
    clear CP hp
    go_wp2_with fail
    refine (Len_any w3 _ x M L1 HP.out.ix).mono ?_
    rintro e4 w4 ⟨rfl, rfl⟩
    rw [hlm]
    clear hlm
    go_wp2
    go_loopw [30] (fun s wr => ∃ (k : Nat), s = .int .i64 (k : Int) ∧ k ≤ n ∧ PI w2 wr x n A' m M L1 L2) (fun s _ => n - (intOf s).toNat)
    case atStart => exact ⟨0, rfl, Nat.zero_le _, HP.out⟩
    case round =>
      obtain ⟨k, rfl, hkn, hP⟩ := hrel
      have HP := Lib.hid hP
      have hsz : w2.heap.size ≤ wr.heap.size := hP.bel.size
      clear hP
      by_cases hlt : k < n
      · have hki : (k : Int) < n := by omega
        have hk0 : (0 : Int) ≤ (k : Int) := by omega
        obtain ⟨b, off, rfl, hbl, hc⟩ := HA.out (by omega)
        have hi' : k < R.length := by rw [HL.out]; exact hlt
        obtain ⟨c0, c1, c2, c3⟩ := hc wr HP.out.bel k hi'
        obtain ⟨hs9, hn9, hi9, ht9, hd0, hd1⟩ := HOK.out R[k] (List.getElem_mem hi')
        have HS9 := Lib.hid hs9
        clear hc hbl hs9
        generalize R[k] = y at *
        obtain ⟨W2, hW2⟩ : ∃ W2, W2 = wr.alloc (.cells #[.int .u8 y.kd, .int .i64 y.id, .int .i64 y.t, .slice y.A y.n y.c] 34) := ⟨_, rfl⟩
        have hb2 : Below wr.heap.size wr W2 := by rw [hW2]; exact (Below.refl _ wr).alloc (Nat.le_refl _) _
        have HP2 := Lib.hid (HP.out.below hb2)
        have hbk : Blk W2 wr.heap.size 34 #[.int .u8 y.kd, .int .i64 y.id, .int .i64 y.t, .slice y.A y.n y.c] := by rw [hW2]; exact Blk.new_ rfl rfl
        have d0 : W2.cell? ⟨wr.heap.size, 0, none⟩ = some (.int .u8 y.kd) := hbk.cell 0
        have d1 : W2.cell? ⟨wr.heap.size, 1, none⟩ = some (.int .i64 y.id) := hbk.cell 1
        have d2 : W2.cell? ⟨wr.heap.size, 2, none⟩ = some (.int .i64 y.t) := hbk.cell 2
        have d3 : W2.cell? ⟨wr.heap.size, 3, none⟩ = some (.slice y.A y.n y.c) := hbk.cell 3
        clear hb2 hbk hd0 hd1
        go_upto_region 11 with fail
        rw [← hW2]
        clear hW2 c0 c1 c2 c3
        go_upto_region 11 with fail
        obtain ⟨zs, hzs⟩ : ∃ zs, candL L1 y.t y.R = zs := ⟨_, rfl⟩
        have hws : wantL L2 y.t y.R = zs := by rw [← hzs]; exact (HP2.out.ks.cand y.t y.R).symm
        have hzl : zs.length ≤ 1000 := by
          rw [← hzs]
          unfold candL
          rw [List.length_map]
          exact Nat.le_trans (List.length_filter_le _ _) (by have := HP2.out.len; omega)
        have HC3 := Lib.hid (show ∀ (W : World) (_ : Below W2.heap.size W2 W) (D : Option Addr) (d : Nat), Sds W D y.n y.R → Calls Try.prog 14 #[.pointer (some ⟨x, 0, none⟩), .agg #[.int .i64 y.t, .slice D y.n d]] W fun e w' => ∃ A' n' c', e = .returned (.slice A' n' c') ∧ (Nms w' A' n' zs ∧ n' ≤ 1000) ∧ Below W.heap.size W w' from fun W hW D d hD => by
          refine (Cand_any W w2.heap.size x M L1 (HP2.out.below hW).ix y.t ht9 D y.n d y.R hD hn9 (by have := HP2.out.len; omega)).mono ?_
          rintro e w' ⟨A1, n1, c1, rfl, ho, hb⟩
          rw [hzs] at ho
          exact ⟨A1, n1, c1, rfl, ⟨Nms.own ho, by have h5 := ho.1; rw [ic_len] at h5; omega⟩, hb⟩)
        have HW3 := Lib.hid (show ∀ (W : World) (_ : Below W2.heap.size W2 W) (D : Option Addr) (d : Nat), Sds W D y.n y.R → Calls Try.prog 16 #[.slice A' m c', .agg #[.int .i64 y.t, .slice D y.n d]] W fun e w' => ∃ A' n' c', e = .returned (.slice A' n' c') ∧ Nms w' A' n' zs ∧ Below W.heap.size W w' from fun W hW D d hD => by
          refine (Wanted_any A' m c' L2 y.t D y.n d y.R W (HP2.out.below hW).row (by have := HP2.out.n; omega) (HP2.out.below hW).sd hD hn9).mono ?_
          rintro e w' ⟨A1, n1, c1, rfl, ho, hb⟩
          rw [hws] at ho
          exact ⟨A1, n1, c1, rfl, Nms.own ho, hb⟩)
        have HT3 := Lib.hid (show ∀ (W : World) (_ : Below W2.heap.size W2 W), Sds W y.A y.n y.R from fun W hW => HS9.out.below (HP2.out.bel.trans (hW.mono HP2.out.bel.size)))
        have HPN := Lib.hid (show ∀ (W : World) (_ : Below W2.heap.size W2 W), PI w2 W x n A' m M L1 L2 from fun W hW => HP2.out.below hW)
        clear hzs hws d0 d1
        have hb0 : Below W2.heap.size W2 W2.drew := below_drew (Below.refl _ _)
        refine wp_region_mix 11 (fun w' => Below W2.heap.size W2 w') (by kernel_rfl) (by decide) ?_
        generalize W2.drew = y0 at hb0 ⊢
        refine wpM_take (i := 0) (oi := ⟨some 34, _, _, _, _, _⟩) (v := ?_) rfl (by decide +kernel) (by decide +kernel) (by decide +kernel) (fun _ _ _ h => h) (Or.inl ⟨by rfl, ?_⟩) hb0 ?_
        case refine_2 =>
          intro w' hSw
          have d2' := keepcell hSw d2
          have d3' := keepcell hSw d3
          go_simp
          try (with_reducible rfl)
        try simp only [Act.put, List.setIfInBounds_toArray, List.set_cons_zero, List.set_cons_succ]
        refine wpM_take (i := 1) (oi := ⟨some 35, _, _, _, _, _⟩) (v := ?_) rfl (by decide +kernel) (by decide +kernel) (by decide +kernel) (fun _ _ _ h => h) (Or.inl ⟨by rfl, ?_⟩) hb0 ?_
        case refine_2 =>
          intro w' hSw
          have d2' := keepcell hSw d2
          have d3' := keepcell hSw d3
          go_simp
          try (with_reducible rfl)
        try simp only [Act.put, List.setIfInBounds_toArray, List.set_cons_zero, List.set_cons_succ]
        refine wpM_take (i := 2) (oi := ⟨some 36, _, _, _, _, _⟩) (v := ?_) rfl (by decide +kernel) (by decide +kernel) (by decide +kernel) (fun _ _ _ h => h) (Or.inl ⟨by rfl, ?_⟩) hb0 ?_
        case refine_2 =>
          intro w' hSw
          have d2' := keepcell hSw d2
          have d3' := keepcell hSw d3
          go_simp
          try (with_reducible rfl)
        try simp only [Act.put, List.setIfInBounds_toArray, List.set_cons_zero, List.set_cons_succ]
        refine wpM_take (i := 5) (oi := ⟨some 39, _, _, _, _, _⟩) (v := ?_) rfl (by decide +kernel) (by decide +kernel) (by decide +kernel) (fun _ _ _ h => h) (Or.inl ⟨by rfl, ?_⟩) hb0 ?_
        case refine_2 =>
          intro w' hSw
          have d2' := keepcell hSw d2
          have d3' := keepcell hSw d3
          go_simp
          try (with_reducible rfl)
        try simp only [Act.put, List.setIfInBounds_toArray, List.set_cons_zero, List.set_cons_succ]
        refine wpM_take (i := 6) (oi := ⟨some 40, _, _, _, _, _⟩) (v := ?_) rfl (by decide +kernel) (by decide +kernel) (by decide +kernel) (fun _ _ _ h => h) (Or.inl ⟨by rfl, ?_⟩) hb0 ?_
        case refine_2 =>
          intro w' hSw
          have d2' := keepcell hSw d2
          have d3' := keepcell hSw d3
          go_simp
          try (with_reducible rfl)
        try simp only [Act.put, List.setIfInBounds_toArray, List.set_cons_zero, List.set_cons_succ]
        refine wpM_take (i := 7) (oi := ⟨some 41, _, _, _, _, _⟩) (v := ?_) rfl (by decide +kernel) (by decide +kernel) (by decide +kernel) (fun _ _ _ h => h) (Or.inl ⟨by rfl, ?_⟩) hb0 ?_
        case refine_2 =>
          intro w' hSw
          have d2' := keepcell hSw d2
          have d3' := keepcell hSw d3
          go_simp
          try (with_reducible rfl)
        try simp only [Act.put, List.setIfInBounds_toArray, List.set_cons_zero, List.set_cons_succ]
        refine wpM_chains (fun i => 34 + i) [3, 4, 8, 9, 10] (fun i v W => (i = 3 → ∃ D d, v = Value.agg #[.int .i64 y.t, .slice D y.n d] ∧ Sds W D y.n y.R) ∧ (i = 4 → ∃ D n1 d, v = Value.slice D n1 d ∧ Nms W D n1 zs ∧ n1 ≤ 1000) ∧ (i = 8 → ∃ D d, v = Value.agg #[.int .i64 y.t, .slice D y.n d] ∧ Sds W D y.n y.R) ∧ (i = 9 → ∃ D n1 d, v = Value.slice D n1 d ∧ Nms W D n1 zs) ∧ (i = 10 → v = Value.bool true) ∧ True) (by decide +kernel) (fun i v W W' h0 hb => ⟨fun e => (fun h => let ⟨D, d, e, s⟩ := h; ⟨D, d, e, s.below hb⟩) (h0.1 e), fun e => (fun h => let ⟨D, n1, d, e, s, q⟩ := h; ⟨D, n1, d, e, At.below s hb, q⟩) (h0.2.1 e), fun e => (fun h => let ⟨D, d, e, s⟩ := h; ⟨D, d, e, s.below hb⟩) (h0.2.2.1 e), fun e => (fun h => let ⟨D, n1, d, e, s⟩ := h; ⟨D, n1, d, e, At.below s hb⟩) (h0.2.2.2.1 e), fun e => (fun h => h) (h0.2.2.2.2.1 e), trivial⟩) hb0 ?_ ?_
        · refine List.forall_mem_cons.2 ⟨?_, List.forall_mem_cons.2 ⟨?_, List.forall_mem_cons.2 ⟨?_, List.forall_mem_cons.2 ⟨?_, List.forall_mem_cons.2 ⟨?_, List.forall_mem_nil _⟩⟩⟩⟩⟩
          · refine ⟨⟨some 37, _, _, _, _, _⟩, rfl, rfl, fun vs W K hS hd hK => ?_⟩
            simp only [puts, List.foldl_cons, List.foldl_nil, Act.put, List.setIfInBounds_toArray, List.set_cons_zero, List.set_cons_succ, Nat.reduceAdd, Nat.reduceSub] at hK ⊢
            go_simp
            refine (To_any y.t y.A y.n y.c y.R W (HT3.out W hS) hn9).mono ?_
            rintro e W' ⟨D, d, rfl, s, hb⟩
            exact hK _ _ (hS.trans (hb.mono hS.size)) hb ⟨fun _ => ⟨D, d, rfl, s⟩, fun e => absurd e (by decide), fun e => absurd e (by decide), fun e => absurd e (by decide), fun e => absurd e (by decide), trivial⟩
          · refine ⟨⟨some 38, _, _, _, _, _⟩, rfl, rfl, fun vs W K hS hd hK => ?_⟩
            obtain ⟨D1, d1, e1, s1⟩ := (hd 3 (by decide) (by decide +kernel)).1 rfl
            simp only [puts, List.foldl_cons, List.foldl_nil, Act.put, List.setIfInBounds_toArray, List.set_cons_zero, List.set_cons_succ, Nat.reduceAdd, Nat.reduceSub] at hK ⊢
            simp only [e1] at hK ⊢
            go_simp
            refine (HC3.out W hS D1 d1 s1).mono ?_
            rintro e W' ⟨D, n1, d, rfl, ⟨s, q⟩, hb⟩
            exact hK _ _ (hS.trans (hb.mono hS.size)) hb ⟨fun e => absurd e (by decide), fun _ => ⟨D, n1, d, rfl, s, q⟩, fun e => absurd e (by decide), fun e => absurd e (by decide), fun e => absurd e (by decide), trivial⟩
          · refine ⟨⟨some 42, _, _, _, _, _⟩, rfl, rfl, fun vs W K hS hd hK => ?_⟩
            simp only [puts, List.foldl_cons, List.foldl_nil, Act.put, List.setIfInBounds_toArray, List.set_cons_zero, List.set_cons_succ, Nat.reduceAdd, Nat.reduceSub] at hK ⊢
            go_simp
            refine (To_any y.t y.A y.n y.c y.R W (HT3.out W hS) hn9).mono ?_
            rintro e W' ⟨D, d, rfl, s, hb⟩
            exact hK _ _ (hS.trans (hb.mono hS.size)) hb ⟨fun e => absurd e (by decide), fun e => absurd e (by decide), fun _ => ⟨D, d, rfl, s⟩, fun e => absurd e (by decide), fun e => absurd e (by decide), trivial⟩
          · refine ⟨⟨some 43, _, _, _, _, _⟩, rfl, rfl, fun vs W K hS hd hK => ?_⟩
            obtain ⟨D1, d1, e1, s1⟩ := (hd 8 (by decide) (by decide +kernel)).2.2.1 rfl
            simp only [puts, List.foldl_cons, List.foldl_nil, Act.put, List.setIfInBounds_toArray, List.set_cons_zero, List.set_cons_succ, Nat.reduceAdd, Nat.reduceSub] at hK ⊢
            simp only [e1] at hK ⊢
            go_simp
            refine (HW3.out W hS D1 d1 s1).mono ?_
            rintro e W' ⟨D, n1, d, rfl, s, hb⟩
            exact hK _ _ (hS.trans (hb.mono hS.size)) hb ⟨fun e => absurd e (by decide), fun e => absurd e (by decide), fun e => absurd e (by decide), fun _ => ⟨D, n1, d, rfl, s⟩, fun e => absurd e (by decide), trivial⟩
          · refine ⟨⟨some 44, _, _, _, _, _⟩, rfl, rfl, fun vs W K hS hd hK => ?_⟩
            obtain ⟨D1, n1, d1, e1, s1, q1⟩ := (hd 4 (by decide) (by decide +kernel)).2.1 rfl
            obtain ⟨D2, n2, d2, e2, s2⟩ := (hd 9 (by decide) (by decide +kernel)).2.2.2.1 rfl
            simp only [puts, List.foldl_cons, List.foldl_nil, Act.put, List.setIfInBounds_toArray, List.set_cons_zero, List.set_cons_succ, Nat.reduceAdd, Nat.reduceSub] at hK ⊢
            simp only [e1, e2] at hK ⊢
            go_simp
            refine (Same_any D1 D2 n1 n2 d1 d2 zs zs W s1 s2 (by omega)).mono ?_
            rintro e W' ⟨rfl, hb⟩
            exact hK _ _ (hS.trans (hb.mono hS.size)) hb ⟨fun e => absurd e (by decide), fun e => absurd e (by decide), fun e => absurd e (by decide), fun e => absurd e (by decide), fun _ => (by simp), trivial⟩
        · intro vs W hS hd
          obtain e1 := (hd 10 (by decide)).2.2.2.2.1 rfl
          simp only [puts, List.foldl_cons, List.foldl_nil, Act.put, List.setIfInBounds_toArray, List.set_cons_zero, List.set_cons_succ, Nat.reduceAdd, Nat.reduceSub]
          simp only [e1]
          have HPW := Lib.hid (HPN.out W hS)
          simp only [List.drop_succ_cons, List.drop_zero]
          clear hd hS
          go_wp2
          go_roundw
          case rel => exact ⟨k + 1, by go_num, hlt, HPW.out⟩
          case measure => simp [intOf]; omega
      · obtain rfl : k = n := by omega
        have hlt2 : ¬ ((k : Int) < (k : Int)) := by omega
        go_wp2
        go_ret
        exact ⟨rfl, HB2.out.trans (HP.out.bel.mono HB2.out.size)⟩

set_option maxRecDepth 100000 in
theorem boxindexMatchesList_lifted (os : Os) (started : os.Started) (H : Type) (enc : TypeId × Value → H) :
    ReturnsInHanded {} Try.checked os 3 .any (Rows.boxindexMatchesListSpec.pre6 enc Try.prog Try.f3 Rows.boxindexMatchesListRow.domain false) (Rows.boxindexMatchesListSpec.post enc Try.prog Try.f3 false true false false) := by
  refine law_lifted (C := Try.checked) (B := 4) Try.own started (by kernel_rfl) Try.func3
    (ChangeSpec.witness6 (enc := enc) (C := Try.checked) false ⟨#[], #[.slice none 0 0], []⟩ 8 (by kernel_rfl) (by kernel_rfl) (by kernel_rfl) (by kernel_rfl))
    Try.laidOut (by kernel_rfl) rfl rfl rfl Try.underlying4 (fun ds h => match ds, h with | [_], _ => rfl) ?_
  intro W base args ds ps hval hA hlt hsz
  rw [Try.params3] at hA hval hsz
  obtain ⟨v0, vs0, d0, ds0, p0, q0, hargs, rfl, rfl, h0, r0⟩ := trodAll_cons hA
  obtain ⟨rfl, rfl, rfl⟩ := trodAll_nil r0
  obtain rfl : args = #[v0] := by cases args; simp_all
  obtain ⟨A0, n0, c0, R0, rfl, k0, l0, g0⟩ := open_ops (hval 0 22 v0 rfl rfl) h0 (fun x hx => hlt x (by simp [hx]))
  exact boxindexMatchesList_walk A0 n0 c0 R0 W k0 l0 g0

theorem boxindexMatchesList_over : Rows.boxindexMatchesListRow.holds Try.pinned (OpenSpec.ofChange Rows.boxindexMatchesListSpec) :=
  OpenClaim.holds_of_wide 3 Try.f3 rfl rfl rfl rfl rfl rfl rfl ⟨rfl, rfl, rfl, rfl, rfl⟩ rfl rfl rfl rfl rfl (by kernel_rfl) Try.func3 (by kernel_rfl)
    (of_decide_eq_true (by kernel_rfl)) (by unfold Func.isWrapper; first | (rw [if_pos (by decide +kernel)]; kernel_rfl) | (rw [if_neg (by decide +kernel)]; exact ⟨rfl, rfl⟩))
    (fun os started H enc _ => boxindexMatchesList_lifted os started H enc)

theorem boxindexMatchesList_proved : Rows.BoxindexMatchesListSaid := boxindexMatchesList_over
end Go.Proofs.Ytgenpldldgplhaa
