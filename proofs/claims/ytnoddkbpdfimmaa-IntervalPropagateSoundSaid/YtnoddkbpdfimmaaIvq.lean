/- One constraint narrows the domains: the walk. -/
import Derived.Test.YtnoddkbpdfimmaaIvp
import Derived.OneCell
namespace Go.Proofs.Ytnoddkbpdfimmaa
open Go.ChangeShapes Go.WideShapes Go.ChangeAt Go.RowKit Go.ChangeMaps

/-- What a constraint that does not fail leaves behind. -/
def NwP (w0 W : World) (v : Value) (m : Nat) (res : Option (List Iv × Bool)) : Prop := ∀ R' b, res = some (R', b) → OR 39 W w0.heap.size v R' ∧ R'.length = m ∧ ∀ d ∈ R', d.bd 4294967296
theorem NwP.none_ {w0 W : World} {v : Value} {m : Nat} : NwP w0 W v m none := nofun
/-- Nothing but the row of v has changed among the blocks of w; nothing of w0. -/
def Fr (w w0 : World) (v : Value) (W : World) : Prop := Below w0.heap.size w0 W ∧ w.grownBy W v.ownBlock
theorem Fr.refl {w w0 : World} {v : Value} (h : Below w0.heap.size w0 w) : Fr w w0 v w := ⟨h, World.grownBy.refl w _⟩
theorem Fr.call {w w0 W W' : World} {v : Value} (h : Fr w w0 v W) (hb : Below W.heap.size W W') : Fr w w0 v W' := ⟨h.1.trans (hb.mono h.1.size), grown_chain h.2 (.inl rfl) (grown_of_below hb)⟩
theorem Fr.alloc {w w0 W : World} {v : Value} (h : Fr w w0 v W) (o : Obj) : Fr w w0 v (W.alloc o) := h.call ((Below.refl _ W).alloc (Nat.le_refl _) o)
theorem Fr.set {w w0 W : World} {v u : Value} {g j : Nat} (h : Fr w w0 v W) (hg : w.heap.size ≤ g) (hg0 : w0.heap.size ≤ g) : Fr w w0 v (W.setCell ⟨g, j, none⟩ u) :=
  ⟨h.1.setCell (p := ⟨g, j, none⟩) hg0 u, ⟨h.2.os, h.2.tape, h.2.output, by have := h.2.size; simpa [World.setCell] using this, fun k hk hne => (Below.heap_setCell W _ u k (show k ≠ g by omega)).trans (h.2.block k hk hne)⟩⟩
theorem Fr.own {w w0 W : World} {v u : Value} {g j : Nat} (h : Fr w w0 v W) (hv : v.ownBlock = some g) (hg0 : w0.heap.size ≤ g) : Fr w w0 v (W.setCell ⟨g, j, none⟩ u) :=
  ⟨h.1.setCell (p := ⟨g, j, none⟩) hg0 u, ⟨h.2.os, h.2.tape, h.2.output, by have := h.2.size; simpa [World.setCell] using this, fun k hk hne => (Below.heap_setCell W _ u k (show k ≠ g from fun e => hne (by subst e; first | exact hv | exact hv.symm))).trans (h.2.block k hk hne)⟩⟩
/-- What stands behind the two operations of the new domain. -/
def NI (X : World) (z : Value) (d : Nat → Bool) (vs : Nat → Value) (w' : World) : Prop :=
  Below X.heap.size X w' ∧ (d 10 = true → vs 10 = z) ∧ (d 11 = true → ∃ g, vs 11 = .pointer (some ⟨g, 0, none⟩) ∧ X.heap.size ≤ g ∧ Blk w' g 39 #[.int .i64 0, .int .i64 0])
theorem NI.none_ {X : World} {z : Value} {vs : Nat → Value} {w' : World} (h : Below X.heap.size X w') : NI X z (fun _ => false) vs w' := ⟨h, nofun, nofun⟩
theorem NI.s10 {X : World} {z : Value} {d : Nat → Bool} {vs : Nat → Value} {w' W : World} (h : NI X z d vs w') (hb : Below w'.heap.size w' W) : NI X z (upd d 10 true) (upd vs 10 z) W := by
  obtain ⟨h1, h2, h3⟩ := h
  refine ⟨h1.trans (hb.mono h1.size), fun _ => upd_same _ _ _, fun e => ?_⟩
  rw [upd_other _ _ _ _ (by decide)] at e ⊢
  obtain ⟨g, e1, e2, e3⟩ := h3 e
  exact ⟨g, e1, e2, Blk.below hb e3⟩
theorem NI.s11 {X : World} {z : Value} {d : Nat → Bool} {vs : Nat → Value} {w' : World} (h : NI X z d vs w') : NI X z (upd d 11 true) (upd vs 11 (.pointer (some ⟨w'.heap.size, 0, none⟩))) (w'.alloc (.cells #[.int .i64 0, .int .i64 0] 39)) := by
  obtain ⟨h1, h2, h3⟩ := h
  refine ⟨h1.alloc h1.size _, fun e => ?_, fun e => ?_⟩
  · rw [upd_other _ _ _ _ (by decide)] at e ⊢
    exact h2 e
  · rw [upd_same]
    exact ⟨_, rfl, h1.size, Blk.new _ _ _⟩
set_option maxRecDepth 100000 in
set_option maxHeartbeats 600000 in
theorem narrow_any (c : Int) (A : Option Addr) (n cap : Nat) (L : List Iv) (eq : Bool) (v : Value) (w0 w : World) (R : List Iv) (h : Ivs w0 A n L) (hO : OR 39 w w0.heap.size v R) (hB : Below w0.heap.size w0 w) (hn : n ≤ 64) (hm : R.length ≤ 64) (hc : -1099511627776 ≤ c ∧ c ≤ 1099511627776) (hL : ∀ x ∈ L, CfOk R.length x) (hR : ∀ d ∈ R, d.bd 4294967296) :
    Calls Try.prog 43 #[.agg #[.int .i64 c, .slice A n cap, .bool eq], v] w fun e w' => e = .returned (.bool (nwE c eq (nwM c eq L n R true))) ∧ Fr w w0 v w' ∧ NwP w0 w' v R.length (nwM c eq L n R true) := by
  obtain ⟨res, hres⟩ : ∃ res, nwM c eq L n R true = res := ⟨_, rfl⟩
  rw [hres]
  have HRES := Lib.hid hres
  have HL := Lib.hid h.len
  have HA := Lib.hid h.at
  have HI := Lib.hid h
  have HLO := Lib.hid hL
  have HC := Lib.hid hc
  have CE := Lib.hid (fun (x : Iv) W => empty_any x W)
  obtain ⟨m, hmm⟩ : ∃ m, R.length = m := ⟨_, rfl⟩
  obtain ⟨Av, capv, ev, -, -, -⟩ := hO.ivs
  rw [hmm] at ev hL hm HLO ⊢
  subst ev
  obtain ⟨W0, hW0⟩ : ∃ W, W = w.alloc (.cells #[.int .i64 c, .slice A n cap, .bool eq] 58) := ⟨_, rfl⟩
  have hws := hB.size
  have B0 := Lib.hid (show Fr w w0 (.slice Av m capv) W0 by rw [hW0]; exact (Fr.refl hB).alloc _)
  have O0 := Lib.hid (show OR 39 W0 w0.heap.size (.slice Av m capv) R by rw [hW0]; exact hO.alloc _)
  have K2 := Lib.hid (show Blk W0 w.heap.size 58 #[.int .i64 c, .slice A n cap, .bool eq] by rw [hW0]; exact Blk.new _ _ _)
  have HR0 := Lib.hid (show R.length = m ∧ ∀ d ∈ R, d.bd 4294967296 from ⟨hmm, hR⟩)
  clear h hO hB hc hL hR hmm
  have e0 : W0.cell? ⟨w.heap.size, 0, none⟩ = some (.int .i64 c) := K2.out.cell 0
  have e1 : W0.cell? ⟨w.heap.size, 1, none⟩ = some (.slice A n cap) := K2.out.cell 1
  have e2 : W0.cell? ⟨w.heap.size, 2, none⟩ = some (.bool eq) := K2.out.cell 2
  go_enter Try.func43, Try.ntmps43
  go_upto_region 1 with fail
  rw [← hW0]
  clear hW0
  go_wp2
  clear e0 e1 e2
  go_loopw [5, 16] (fun s5 s16 wr => ∃ (k : Nat) (b : Bool) (R' : List Iv), s5 = .bool b ∧ s16 = .int .i64 (k : Int) ∧ k ≤ n ∧ nwM c eq L (n - k) R' b = res ∧ OR 39 wr w0.heap.size (.slice Av m capv) R' ∧ (R'.length = m ∧ ∀ d ∈ R', d.bd 4294967296) ∧ Blk wr w.heap.size 58 #[.int .i64 c, .slice A n cap, .bool eq] ∧ Fr w w0 (.slice Av m capv) wr) (fun _ s16 _ => n - (intOf s16).toNat)
  case atStart => exact ⟨0, true, R, rfl, rfl, Nat.zero_le _, HRES.out, O0.out, HR0.out, K2.out, B0.out⟩
  case round =>
    obtain ⟨k, b, R', rfl, rfl, hkn, hE, hO, hR', h2, hB⟩ := hrel
    have HE := Lib.hid hE
    have HO := Lib.hid hO
    have HR' := Lib.hid hR'
    have H2 := Lib.hid h2
    have HB := Lib.hid hB
    have hq : w.heap.size < wr.heap.size := h2.lt
    clear hE hO hR' h2 hB O0 K2 B0 HR0
    by_cases hlt : k < n
    · have hki : (k : Int) < n := by omega
      have hk0 : (0 : Int) ≤ (k : Int) := by omega
      obtain ⟨ba, offa, rfl, hbl, hcc⟩ := HA.out (by omega)
      have hi' : k < L.length := by rw [HL.out]; exact hlt
      obtain ⟨c0, c1⟩ := hcc wr HB.out.1 k hi'
      have HX := Lib.hid (HLO.out _ (List.getElem_mem hi'))
      have HST := Lib.hid (nw_step (c := c) (eq := eq) (R := R') (b := b) HL.out hlt (show L.getD k ⟨0, 0⟩ = L[k] by simp [List.getD, List.getElem?_eq_getElem hi']))
      clear hcc hbl
      generalize L[k] = x at *
      obtain ⟨x0, x1⟩ := x
      simp only at c0 c1
      obtain ⟨X, hX⟩ : ∃ W, W = wr.alloc (.cells #[.int .i64 x0, .int .i64 x1] 61) := ⟨_, rfl⟩
      have XO := Lib.hid (show OR 39 X w0.heap.size (.slice Av m capv) R' by rw [hX]; exact HO.out.alloc _)
      have X2 := Lib.hid (show Blk X w.heap.size 58 #[.int .i64 c, .slice (some ⟨ba, offa, none⟩) n cap, .bool eq] by rw [hX]; exact H2.out.alloc _)
      have X7 := Lib.hid (show Blk X wr.heap.size 61 #[.int .i64 x0, .int .i64 x1] by rw [hX]; exact Blk.new _ _ _)
      have XB := Lib.hid (show Fr w w0 (.slice Av m capv) X by rw [hX]; exact HB.out.alloc _)
      have g0 : X.cell? ⟨wr.heap.size, 0, none⟩ = some (.int .i64 x0) := X7.out.cell 0
      have g1 : X.cell? ⟨wr.heap.size, 1, none⟩ = some (.int .i64 x1) := X7.out.cell 1
      by_cases hx1 : x1 = 0
      · have HE1 := Lib.hid (show nwM c eq L (n - (k + 1)) R' b = res by rw [← HE.out, HST.out, if_pos hx1])
        subst hx1
        go_upto_region 5 with fail
        rw [← hX]
        clear hX
        go_wp2
        go_roundw
        case rel => exact ⟨k + 1, b, R', rfl, by go_num, hlt, HE1.out, XO.out, HR'.out, X2.out, XB.out⟩
        case measure => simp only [intOf]; omega
      · rw [if_neg hx1] at HST
        have hxz : (x1 == 0) = false := by simpa using hx1
        have hwk : IntKind.i64.wrap ((k : Int) + 1) = (k : Int) + 1 := by rw [IntKind.wrap_i64]; omega
        go_upto_region 5 with fail
        rw [← hX]
        have hXs : X.heap.size = wr.heap.size + 1 := by rw [hX]; simp
        clear hX
        obtain ⟨v, rfl⟩ : ∃ v : Nat, x0 = (v : Int) := ⟨x0.toNat, by have := HX.out.1.1; simp only at this; omega⟩
        have hv : v < m := by have := HX.out.1.2; simp only at this; omega
        have hvi : (v : Int) < m := by omega
        have hv0 : (0 : Int) ≤ (v : Int) := by omega
        obtain ⟨gv, rfl, hgv, hgvl⟩ := own_at XO.out HR'.out.1 hv
        have hx1b := HX.out.2
        simp only at hx1b
        have f0 : X.cell? ⟨w.heap.size, 0, none⟩ = some (.int .i64 c) := X2.out.cell 0
        have f1 : X.cell? ⟨w.heap.size, 1, none⟩ = some (.slice (some ⟨ba, offa, none⟩) n cap) := X2.out.cell 1
        have f2 : X.cell? ⟨w.heap.size, 2, none⟩ = some (.bool eq) := X2.out.cell 2
        have CLN := Lib.hid (fun W (hW : Below X.heap.size X W) => CloneC_any (some ⟨ba, offa, none⟩) n cap L W ((HI.out.below XB.out.1).below hW) (by omega))
        have DEL := Lib.hid (fun v W (ho : OR 61 W X.heap.size v L) (hs : X.heap.size ≤ W.heap.size) => Delete_any v X.heap.size k L W ho hi' (by rw [HL.out]; exact hn) hs)
        go_upto_region 7 with fail
        have hy : Below X.heap.size X X.drew := below_drew (Below.refl _ _)
        refine wp_region_mix 13 (fun w' => Below X.heap.size X w') (by kernel_rfl) (by decide) ?_
        generalize X.drew = y0 at hy ⊢
        refine wpM_take (i := 0) (oi := ⟨some 24, _, _, _, _, _⟩) (v := ?_) rfl (by decide +kernel) (by decide +kernel) (by decide +kernel) (fun _ _ _ h => h) (Or.inl ⟨by rfl, ?_⟩) hy ?_
        case refine_2 =>
          intro w' hSw
          have f0' := keepcell hSw f0
          have f1' := keepcell hSw f1
          have f2' := keepcell hSw f2
          go_simp
          try (with_reducible rfl)
        try simp only [Act.put, List.setIfInBounds_toArray, List.set_cons_zero, List.set_cons_succ]
        refine wpM_take (i := 1) (oi := ⟨some 25, _, _, _, _, _⟩) (v := ?_) rfl (by decide +kernel) (by decide +kernel) (by decide +kernel) (fun _ _ _ h => h) (Or.inl ⟨by rfl, ?_⟩) hy ?_
        case refine_2 =>
          intro w' hSw
          have f0' := keepcell hSw f0
          have f1' := keepcell hSw f1
          have f2' := keepcell hSw f2
          go_simp
          try (with_reducible rfl)
        try simp only [Act.put, List.setIfInBounds_toArray, List.set_cons_zero, List.set_cons_succ]
        refine wpM_take (i := 2) (oi := ⟨some 26, _, _, _, _, _⟩) (v := ?_) rfl (by decide +kernel) (by decide +kernel) (by decide +kernel) (fun _ _ _ h => h) (Or.inl ⟨by rfl, ?_⟩) hy ?_
        case refine_2 =>
          intro w' hSw
          have f0' := keepcell hSw f0
          have f1' := keepcell hSw f1
          have f2' := keepcell hSw f2
          go_simp
          try (with_reducible rfl)
        try simp only [Act.put, List.setIfInBounds_toArray, List.set_cons_zero, List.set_cons_succ]
        refine wpM_take (i := 3) (oi := ⟨some 27, _, _, _, _, _⟩) (v := ?_) rfl (by decide +kernel) (by decide +kernel) (by decide +kernel) (fun _ _ _ h => h) (Or.inl ⟨by rfl, ?_⟩) hy ?_
        case refine_2 =>
          intro w' hSw
          have f0' := keepcell hSw f0
          have f1' := keepcell hSw f1
          have f2' := keepcell hSw f2
          go_simp
          try (with_reducible rfl)
        try simp only [Act.put, List.setIfInBounds_toArray, List.set_cons_zero, List.set_cons_succ]
        refine wpM_take (i := 4) (oi := ⟨some 28, _, _, _, _, _⟩) (v := ?_) rfl (by decide +kernel) (by decide +kernel) (by decide +kernel) (fun _ _ _ h => h) (Or.inl ⟨by rfl, ?_⟩) hy ?_
        case refine_2 =>
          intro w' hSw
          have f0' := keepcell hSw f0
          have f1' := keepcell hSw f1
          have f2' := keepcell hSw f2
          go_simp
          try (with_reducible rfl)
        try simp only [Act.put, List.setIfInBounds_toArray, List.set_cons_zero, List.set_cons_succ]
        refine wpM_take (i := 5) (oi := ⟨some 29, _, _, _, _, _⟩) (v := ?_) rfl (by decide +kernel) (by decide +kernel) (by decide +kernel) (fun _ _ _ h => h) (Or.inl ⟨by rfl, ?_⟩) hy ?_
        case refine_2 =>
          intro w' hSw
          have f0' := keepcell hSw f0
          have f1' := keepcell hSw f1
          have f2' := keepcell hSw f2
          go_simp
          try (with_reducible rfl)
        try simp only [Act.put, List.setIfInBounds_toArray, List.set_cons_zero, List.set_cons_succ]
        refine wpM_take (i := 7) (oi := ⟨some 31, _, _, _, _, _⟩) (v := ?_) rfl (by decide +kernel) (by decide +kernel) (by decide +kernel) (fun _ _ _ h => h) (Or.inl ⟨by rfl, ?_⟩) hy ?_
        case refine_2 =>
          intro w' hSw
          have f0' := keepcell hSw f0
          have f1' := keepcell hSw f1
          have f2' := keepcell hSw f2
          go_simp
          try (with_reducible rfl)
        try simp only [Act.put, List.setIfInBounds_toArray, List.set_cons_zero, List.set_cons_succ]
        refine wpM_take (i := 8) (oi := ⟨some 32, _, _, _, _, _⟩) (v := ?_) rfl (by decide +kernel) (by decide +kernel) (by decide +kernel) (fun _ _ _ h => h) (Or.inl ⟨by rfl, ?_⟩) hy ?_
        case refine_2 =>
          intro w' hSw
          have f0' := keepcell hSw f0
          have f1' := keepcell hSw f1
          have f2' := keepcell hSw f2
          go_simp
          try (with_reducible rfl)
        try simp only [Act.put, List.setIfInBounds_toArray, List.set_cons_zero, List.set_cons_succ]
        refine wpM_take (i := 9) (oi := ⟨some 33, _, _, _, _, _⟩) (v := ?_) rfl (by decide +kernel) (by decide +kernel) (by decide +kernel) (fun _ _ _ h => h) (Or.inl ⟨by rfl, ?_⟩) hy ?_
        case refine_2 =>
          intro w' hSw
          have f0' := keepcell hSw f0
          have f1' := keepcell hSw f1
          have f2' := keepcell hSw f2
          go_simp
          try (with_reducible rfl)
        try simp only [Act.put, List.setIfInBounds_toArray, List.set_cons_zero, List.set_cons_succ]
        refine wpM_inv (fun i => if i = 12 then 8 else 24 + i) [6, 10, 11, 12] (OI X c L (L.eraseIdx k)) (by decide +kernel) (fun d vs w h => h.1) (OI.none_ hy) ?_ ?_
        · refine List.forall_mem_cons.2 ⟨?_, List.forall_mem_cons.2 ⟨?_, List.forall_mem_cons.2 ⟨?_, List.forall_mem_cons.2 ⟨?_, List.forall_mem_nil _⟩⟩⟩⟩
          · refine ⟨⟨some 30, _, _, _, _, _⟩, rfl, rfl, fun d vs W K hI hdi hd hK => ?_⟩
            simp only [puts, List.foldl_cons, List.foldl_nil, Act.put, Nat.reduceAdd, Nat.reduceEqDiff, ↓reduceIte, List.setIfInBounds_toArray, List.set_cons_zero, List.set_cons_succ] at hK ⊢
            go_simp
            refine (CLN.out W hI.1).mono ?_
            rintro e w2 ⟨v2, rfl, ho, hb⟩
            exact hK _ _ (hI.s6 ho hb)
          · refine ⟨⟨some 34, _, _, _, _, _⟩, rfl, rfl, fun d vs W K hI hdi hd hK => ?_⟩
            have h6 := hd 6 (by decide) (by decide +kernel)
            simp only [puts, List.foldl_cons, List.foldl_nil, Act.put, Nat.reduceAdd, Nat.reduceEqDiff, ↓reduceIte, List.setIfInBounds_toArray, List.set_cons_zero, List.set_cons_succ] at hK ⊢
            go_simp
            refine (DEL.out (vs 6) W (hI.2.1 h6 hdi) hI.1.size).mono ?_
            rintro e w2 ⟨v2, rfl, ho, hb, hg⟩
            exact hK _ _ (hI.s10 h6 hdi ho hb hg)
          · refine ⟨⟨some 35, _, _, _, _, _⟩, rfl, rfl, fun d vs W K hI hdi hd hK => ?_⟩
            have h10 := hd 10 (by decide) (by decide +kernel)
            obtain ⟨A2, c2, ev, -⟩ := (hI.2.2.1 h10).ivs
            simp only [puts, List.foldl_cons, List.foldl_nil, Act.put, Nat.reduceAdd, Nat.reduceEqDiff, ↓reduceIte, List.setIfInBounds_toArray, List.set_cons_zero, List.set_cons_succ] at hK ⊢
            have hK2 := hK _ _ (hI.s11 h10)
            rw [ev] at hK2 ⊢
            go_simp
            exact hK2
          · refine ⟨⟨some 8, _, _, _, _, _⟩, rfl, rfl, fun d vs W K hI hdi hd hK => ?_⟩
            simp only [puts, List.foldl_cons, List.foldl_nil, Act.put, Nat.reduceAdd, Nat.reduceEqDiff, ↓reduceIte, List.setIfInBounds_toArray, List.set_cons_zero, List.set_cons_succ] at hK ⊢
            go_simp
            exact hK _ _ hI.s12
        · intro d vs y1 hd hI
          obtain ⟨hB1, -, hO1, hE1, hP1⟩ := hI
          have HO1 := Lib.hid (hO1 (hd 10 (by decide)))
          have HE1 := (hE1 (hd 11 (by decide))).2
          obtain ⟨g8, HP1, hg8, hK8⟩ := hP1 (hd 12 (by decide))
          have HB1 := Lib.hid hB1
          have HK8 := Lib.hid hK8
          have HG8 := Lib.hid hg8
          clear hd hO1 hE1 hP1 hB1 hK8 hg8
          simp only [puts, List.foldl_cons, List.foldl_nil, Act.put, Nat.reduceAdd, Nat.reduceEqDiff, ↓reduceIte, List.setIfInBounds_toArray, List.set_cons_zero, List.set_cons_succ]
          obtain ⟨A10, c10, ev10, HI10, -, -⟩ := HO1.out.ivs
          have hl10 : (L.eraseIdx k).length = n - 1 := by rw [List.length_eraseIdx, if_pos hi', HL.out]
          rw [hl10] at ev10 HI10
          rw [ev10] at HE1
          have HI10 := Lib.hid HI10
          rw [HE1, HP1]
          clear HE1 HP1
          generalize vs 6 = v6
          generalize vs 10 = v10 at *
          subst ev10
          have YO := Lib.hid (XO.out.below HB1.out)
          have Y2 := Lib.hid (X2.out.below HB1.out)
          have Y7 := Lib.hid (X7.out.below HB1.out)
          have YB := Lib.hid (XB.out.call HB1.out)
          have z8 : ∀ j, y1.frozen? ⟨g8, j, none⟩ = false := fun j => Joins.unfrozen_of_block HK8.out _
          have i0 : y1.cell? ⟨g8, 0, none⟩ = some (.int .i64 0) := HK8.out.cell 0
          have i1 : y1.cell? ⟨g8, 1, none⟩ = some (.slice none 0 0) := HK8.out.cell 1
          have N1 := own_blk_ne HO1.out HK8.out (by decide)
          have N2 := own_blk_ne YO.out HK8.out (by decide)
          have hle : X.heap.size ≤ g8 := HG8.out
          have hws2 := XB.out.1.size
          obtain ⟨W8, hW8⟩ : ∃ W, W = (y1.setCell ⟨g8, 0, none⟩ (.int .i64 c)).setCell ⟨g8, 1, none⟩ (.slice A10 (n - 1) c10) := ⟨_, rfl⟩
          have S1 := store_step HK8.out 0 (.int .i64 c)
          have S2 := store_step S1.1 1 (.slice A10 (n - 1) c10)
          have WO10 := Lib.hid (show OR 61 W8 X.heap.size (.slice A10 (n - 1) c10) (L.eraseIdx k) by rw [hW8]; exact ownsRow_setCell_other (ownsRow_setCell_other HO1.out N1 _) N1 _)
          have WO := Lib.hid (show OR 39 W8 w0.heap.size (.slice (some ⟨gv, 0, none⟩) m capv) R' by rw [hW8]; exact ownsRow_setCell_other (ownsRow_setCell_other YO.out N2 _) N2 _)
          have W2 := Lib.hid (show Blk W8 w.heap.size 58 #[.int .i64 c, .slice (some ⟨ba, offa, none⟩) n cap, .bool eq] by rw [hW8]; exact (Y2.out.other (by omega)).other (by omega))
          have W7 := Lib.hid (show Blk W8 wr.heap.size 61 #[.int .i64 (v : Int), .int .i64 x1] by rw [hW8]; exact (Y7.out.other (by omega)).other (by omega))
          have W9 := Lib.hid (show Blk W8 g8 56 #[.int .i64 c, .slice A10 (n - 1) c10] by rw [hW8]; exact S2.1)
          have WB := Lib.hid (show Fr w w0 (.slice (some ⟨gv, 0, none⟩) m capv) W8 by rw [hW8]; exact (YB.out.set (by omega) (by omega)).set (by omega) (by omega))
          have hsz8 : X.heap.size ≤ W8.heap.size := by rw [hW8]; have := HB1.out.size; simpa [World.setCell] using this
          clear S1 S2 N1 N2
          clear f0 f1 f2 g0 g1 c0 c1 hy HO1 YO Y2 Y7 YB HK8 HB1 HI10 hl10
          simp only [List.drop_succ_cons, List.drop_zero]
          go_upto_region 8 with fail
          rw [← hW8]
          clear hW8 z8 i0 i1
          have RNG := Lib.hid (Range_any c A10 (n - 1) c10 (L.eraseIdx k) (some ⟨gv, 0, none⟩) m capv R' W8
            (by obtain ⟨A', c', e, hh, -, -⟩ := WO10.out.ivs
                injection e with e1 e2 e3
                rw [← e1, ← e2] at hh
                exact hh)
            (by obtain ⟨A', c', e, hh, -, -⟩ := WO.out.ivs
                injection e with e1 e2 e3
                rw [← e1, ← e2] at hh
                exact hh) (by omega) hm HC.out (fun x hx => HLO.out x (List.mem_of_mem_eraseIdx hx)) HR'.out.2)
          have i0 : W8.cell? ⟨g8, 0, none⟩ = some (.int .i64 c) := W9.out.cell 0
          have i1 : W8.cell? ⟨g8, 1, none⟩ = some (.slice A10 (n - 1) c10) := W9.out.cell 1
          go_wp2_with fail
          refine RNG.out.mono ?_
          rintro e y9 ⟨rfl, hbd, hb⟩
          have HBD := Lib.hid (rng_bd hbd)
          rw [rngA_eq]
          clear i0 i1 RNG hbd
          have hcE : nwM c eq L (n - k) R' b = res := HE.out
          rw [HST.out] at hcE
          try simp only [Int.toNat_natCast] at hcE
          have HCE := Lib.hid hcE
          clear hcE
          generalize (rngM R' (L.eraseIdx k) ⟨c, c⟩).isSome = okb
          generalize (rngM R' (L.eraseIdx k) ⟨c, c⟩).getD ⟨0, 0⟩ = rs at *
          have HDV := Lib.hid (show (R'.getD v ⟨0, 0⟩).bd 4294967296 from HR'.out.2 _ (getD_mem (by rw [HR'.out.1]; exact hv)))
          obtain ⟨hg0, hg1, hgf⟩ := (WO.out.below hb).get HR'.out.1 hv
          have HNB := Lib.hid (fun he => nrw_bd (r := rs) (a := x1) (eq := eq) HDV.out he)
          have NRW := Lib.hid (fun W => nrw_any (R'.getD v ⟨0, 0⟩) x1 rs eq W hx1 hx1b HDV.out HBD.out)
          generalize nrw (R'.getD v ⟨0, 0⟩) x1 rs eq = z at *
          have HSB := Lib.hid (fun he => set_bd (v := v) HR'.out (HNB.out he))
          clear HNB HDV hg0 hg1 hgf
          have HGET := Lib.hid (fun W (hW : OR 39 W w0.heap.size (.slice (some ⟨gv, 0, none⟩) m capv) R') => hW.get HR'.out.1 hv)
          generalize hd : R'.getD v ⟨0, 0⟩ = d at *
          clear hd
          obtain ⟨d0, d1⟩ := d
          obtain ⟨s0, s1⟩ := rs
          obtain ⟨z0, z1⟩ := z
          have UO := Lib.hid (WO.out.below hb)
          have U2 := Lib.hid (W2.out.below hb)
          have U7 := Lib.hid (W7.out.below hb)
          have UB := Lib.hid (WB.out.call hb)
          have hus := hb.size
          clear hb WO W2 W7 W9 WB WO10
          obtain ⟨X9, hX9⟩ : ∃ W, W = y9.alloc (.cells #[.int .i64 s0, .int .i64 s1] 39) := ⟨_, rfl⟩
          have VO := Lib.hid (show OR 39 X9 w0.heap.size (.slice (some ⟨gv, 0, none⟩) m capv) R' by rw [hX9]; exact UO.out.alloc _)
          have V2 := Lib.hid (show Blk X9 w.heap.size 58 #[.int .i64 c, .slice (some ⟨ba, offa, none⟩) n cap, .bool eq] by rw [hX9]; exact U2.out.alloc _)
          have V7 := Lib.hid (show Blk X9 wr.heap.size 61 #[.int .i64 (v : Int), .int .i64 x1] by rw [hX9]; exact U7.out.alloc _)
          have V9 := Lib.hid (show Blk X9 y9.heap.size 39 #[.int .i64 s0, .int .i64 s1] by rw [hX9]; exact Blk.new _ _ _)
          have VB := Lib.hid (show Fr w w0 (.slice (some ⟨gv, 0, none⟩) m capv) X9 by rw [hX9]; exact UB.out.alloc _)
          have hx9 : X9.heap.size = y9.heap.size + 1 := by rw [hX9]; simp
          clear UO U2 U7 UB
          unfold Iv.agg
          go_upto_region 9 with fail
          rw [← hX9]
          clear hX9
          obtain ⟨f0, f1, -⟩ := HGET.out X9 VO.out
          have f2 : X9.cell? ⟨w.heap.size, 2, none⟩ = some (.bool eq) := V2.out.cell 2
          have f3 : X9.cell? ⟨wr.heap.size, 0, none⟩ = some (.int .i64 (v : Int)) := V7.out.cell 0
          have f4 : X9.cell? ⟨wr.heap.size, 1, none⟩ = some (.int .i64 x1) := V7.out.cell 1
          have f5 : X9.cell? ⟨y9.heap.size, 0, none⟩ = some (.int .i64 s0) := V9.out.cell 0
          have f6 : X9.cell? ⟨y9.heap.size, 1, none⟩ = some (.int .i64 s1) := V9.out.cell 1
          try simp only at f0 f1
          have hy : Below X9.heap.size X9 X9.drew := below_drew (Below.refl _ _)
          refine wp_region_mix 12 (fun w' => Below X9.heap.size X9 w') (by kernel_rfl) (by decide) ?_
          generalize X9.drew = y10 at hy ⊢
          refine wpM_take (i := 0) (oi := ⟨some 42, _, _, _, _, _⟩) (v := ?_) rfl (by decide +kernel) (by decide +kernel) (by decide +kernel) (fun _ _ _ h => h) (Or.inl ⟨by rfl, ?_⟩) hy ?_
          case refine_2 =>
            intro w' hSw
            have f0' := keepcell hSw f0
            have f1' := keepcell hSw f1
            have f2' := keepcell hSw f2
            have f3' := keepcell hSw f3
            have f4' := keepcell hSw f4
            have f5' := keepcell hSw f5
            have f6' := keepcell hSw f6
            go_simp
            try (with_reducible rfl)
          try simp only [Act.put, List.setIfInBounds_toArray, List.set_cons_zero, List.set_cons_succ]
          refine wpM_take (i := 1) (oi := ⟨some 43, _, _, _, _, _⟩) (v := ?_) rfl (by decide +kernel) (by decide +kernel) (by decide +kernel) (fun _ _ _ h => h) (Or.inl ⟨by rfl, ?_⟩) hy ?_
          case refine_2 =>
            intro w' hSw
            have f0' := keepcell hSw f0
            have f1' := keepcell hSw f1
            have f2' := keepcell hSw f2
            have f3' := keepcell hSw f3
            have f4' := keepcell hSw f4
            have f5' := keepcell hSw f5
            have f6' := keepcell hSw f6
            go_simp
            try (with_reducible rfl)
          try simp only [Act.put, List.setIfInBounds_toArray, List.set_cons_zero, List.set_cons_succ]
          refine wpM_take (i := 2) (oi := ⟨some 44, _, _, _, _, _⟩) (v := ?_) rfl (by decide +kernel) (by decide +kernel) (by decide +kernel) (fun _ _ _ h => h) (Or.inl ⟨by rfl, ?_⟩) hy ?_
          case refine_2 =>
            intro w' hSw
            have f0' := keepcell hSw f0
            have f1' := keepcell hSw f1
            have f2' := keepcell hSw f2
            have f3' := keepcell hSw f3
            have f4' := keepcell hSw f4
            have f5' := keepcell hSw f5
            have f6' := keepcell hSw f6
            go_simp
            try (with_reducible rfl)
          try simp only [Act.put, List.setIfInBounds_toArray, List.set_cons_zero, List.set_cons_succ]
          refine wpM_take (i := 3) (oi := ⟨some 45, _, _, _, _, _⟩) (v := ?_) rfl (by decide +kernel) (by decide +kernel) (by decide +kernel) (fun _ _ _ h => h) (Or.inl ⟨by rfl, ?_⟩) hy ?_
          case refine_2 =>
            intro w' hSw
            have f0' := keepcell hSw f0
            have f1' := keepcell hSw f1
            have f2' := keepcell hSw f2
            have f3' := keepcell hSw f3
            have f4' := keepcell hSw f4
            have f5' := keepcell hSw f5
            have f6' := keepcell hSw f6
            go_simp
            try (with_reducible rfl)
          try simp only [Act.put, List.setIfInBounds_toArray, List.set_cons_zero, List.set_cons_succ]
          refine wpM_take (i := 4) (oi := ⟨some 46, _, _, _, _, _⟩) (v := ?_) rfl (by decide +kernel) (by decide +kernel) (by decide +kernel) (fun _ _ _ h => h) (Or.inl ⟨by rfl, ?_⟩) hy ?_
          case refine_2 =>
            intro w' hSw
            have f0' := keepcell hSw f0
            have f1' := keepcell hSw f1
            have f2' := keepcell hSw f2
            have f3' := keepcell hSw f3
            have f4' := keepcell hSw f4
            have f5' := keepcell hSw f5
            have f6' := keepcell hSw f6
            go_simp
            try (with_reducible rfl)
          try simp only [Act.put, List.setIfInBounds_toArray, List.set_cons_zero, List.set_cons_succ]
          refine wpM_take (i := 5) (oi := ⟨some 47, _, _, _, _, _⟩) (v := ?_) rfl (by decide +kernel) (by decide +kernel) (by decide +kernel) (fun _ _ _ h => h) (Or.inl ⟨by rfl, ?_⟩) hy ?_
          case refine_2 =>
            intro w' hSw
            have f0' := keepcell hSw f0
            have f1' := keepcell hSw f1
            have f2' := keepcell hSw f2
            have f3' := keepcell hSw f3
            have f4' := keepcell hSw f4
            have f5' := keepcell hSw f5
            have f6' := keepcell hSw f6
            go_simp
            try (with_reducible rfl)
          try simp only [Act.put, List.setIfInBounds_toArray, List.set_cons_zero, List.set_cons_succ]
          refine wpM_take (i := 6) (oi := ⟨some 48, _, _, _, _, _⟩) (v := ?_) rfl (by decide +kernel) (by decide +kernel) (by decide +kernel) (fun _ _ _ h => h) (Or.inl ⟨by rfl, ?_⟩) hy ?_
          case refine_2 =>
            intro w' hSw
            have f0' := keepcell hSw f0
            have f1' := keepcell hSw f1
            have f2' := keepcell hSw f2
            have f3' := keepcell hSw f3
            have f4' := keepcell hSw f4
            have f5' := keepcell hSw f5
            have f6' := keepcell hSw f6
            go_simp
            try (with_reducible rfl)
          try simp only [Act.put, List.setIfInBounds_toArray, List.set_cons_zero, List.set_cons_succ]
          refine wpM_take (i := 7) (oi := ⟨some 49, _, _, _, _, _⟩) (v := ?_) rfl (by decide +kernel) (by decide +kernel) (by decide +kernel) (fun _ _ _ h => h) (Or.inl ⟨by rfl, ?_⟩) hy ?_
          case refine_2 =>
            intro w' hSw
            have f0' := keepcell hSw f0
            have f1' := keepcell hSw f1
            have f2' := keepcell hSw f2
            have f3' := keepcell hSw f3
            have f4' := keepcell hSw f4
            have f5' := keepcell hSw f5
            have f6' := keepcell hSw f6
            go_simp
            try (with_reducible rfl)
          try simp only [Act.put, List.setIfInBounds_toArray, List.set_cons_zero, List.set_cons_succ]
          refine wpM_take (i := 8) (oi := ⟨some 50, _, _, _, _, _⟩) (v := ?_) rfl (by decide +kernel) (by decide +kernel) (by decide +kernel) (fun _ _ _ h => h) (Or.inl ⟨by rfl, ?_⟩) hy ?_
          case refine_2 =>
            intro w' hSw
            have f0' := keepcell hSw f0
            have f1' := keepcell hSw f1
            have f2' := keepcell hSw f2
            have f3' := keepcell hSw f3
            have f4' := keepcell hSw f4
            have f5' := keepcell hSw f5
            have f6' := keepcell hSw f6
            go_simp
            try (with_reducible rfl)
          try simp only [Act.put, List.setIfInBounds_toArray, List.set_cons_zero, List.set_cons_succ]
          refine wpM_take (i := 9) (oi := ⟨some 51, _, _, _, _, _⟩) (v := ?_) rfl (by decide +kernel) (by decide +kernel) (by decide +kernel) (fun _ _ _ h => h) (Or.inl ⟨by rfl, ?_⟩) hy ?_
          case refine_2 =>
            intro w' hSw
            have f0' := keepcell hSw f0
            have f1' := keepcell hSw f1
            have f2' := keepcell hSw f2
            have f3' := keepcell hSw f3
            have f4' := keepcell hSw f4
            have f5' := keepcell hSw f5
            have f6' := keepcell hSw f6
            go_simp
            try (with_reducible rfl)
          try simp only [Act.put, List.setIfInBounds_toArray, List.set_cons_zero, List.set_cons_succ]
          refine wpM_inv (fun i => if i = 11 then 11 else 42 + i) [10, 11] (NI X9 (.agg #[.int .i64 z0, .int .i64 z1])) (by decide +kernel) (fun d vs w h => h.1) (NI.none_ hy) ?_ ?_
          · refine List.forall_mem_cons.2 ⟨?_, List.forall_mem_cons.2 ⟨?_, List.forall_mem_nil _⟩⟩
            · refine ⟨⟨some 52, _, _, _, _, _⟩, rfl, rfl, fun d vs W K hI hdi hd hK => ?_⟩
              simp only [puts, List.foldl_cons, List.foldl_nil, Act.put, Nat.reduceAdd, Nat.reduceEqDiff, ↓reduceIte, List.setIfInBounds_toArray, List.set_cons_zero, List.set_cons_succ] at hK ⊢
              go_simp
              refine (NRW.out W).mono ?_
              rintro e w2 ⟨rfl, hb⟩
              exact hK _ _ (hI.s10 hb)
            · refine ⟨⟨some 11, _, _, _, _, _⟩, rfl, rfl, fun d vs W K hI hdi hd hK => ?_⟩
              simp only [puts, List.foldl_cons, List.foldl_nil, Act.put, Nat.reduceAdd, Nat.reduceEqDiff, ↓reduceIte, List.setIfInBounds_toArray, List.set_cons_zero, List.set_cons_succ] at hK ⊢
              go_simp
              exact hK _ _ hI.s11
          · intro d vs y11 hd hI
            obtain ⟨hB1, hV1, hP1⟩ := hI
            have HV1 := hV1 (hd 10 (by decide))
            obtain ⟨g11, HP1, hg11, hK11⟩ := hP1 (hd 11 (by decide))
            clear hd hV1 hP1
            simp only [puts, List.foldl_cons, List.foldl_nil, Act.put, Nat.reduceAdd, Nat.reduceEqDiff, ↓reduceIte, List.setIfInBounds_toArray, List.set_cons_zero, List.set_cons_succ]
            rw [HV1, HP1]
            clear HV1 HP1
            have QO := Lib.hid (VO.out.below hB1)
            have Q2 := Lib.hid (V2.out.below hB1)
            have QB := Lib.hid (VB.out.call hB1)
            have hqs := hB1.size
            have hgvg : gv ≠ g11 := by omega
            have N3 : (Value.slice (some ⟨gv, 0, none⟩) m capv).ownBlock ≠ some g11 := by simp [Value.ownBlock]; omega
            have i0 : y11.cell? ⟨g11, 0, none⟩ = some (.int .i64 0) := hK11.cell 0
            have i1 : y11.cell? ⟨g11, 1, none⟩ = some (.int .i64 0) := hK11.cell 1
            have z9 : ∀ j, y11.frozen? ⟨g11, j, none⟩ = false := fun j => Joins.unfrozen_of_block hK11 _
            obtain ⟨W12, hW12⟩ : ∃ W, W = (y11.setCell ⟨g11, 0, none⟩ (.int .i64 z0)).setCell ⟨g11, 1, none⟩ (.int .i64 z1) := ⟨_, rfl⟩
            have S1 := store_step hK11 0 (.int .i64 z0)
            have S2 := store_step S1.1 1 (.int .i64 z1)
            have TO := Lib.hid (show OR 39 W12 w0.heap.size (.slice (some ⟨gv, 0, none⟩) m capv) R' by rw [hW12]; exact ownsRow_setCell_other (ownsRow_setCell_other QO.out N3 _) N3 _)
            have T2 := Lib.hid (show Blk W12 w.heap.size 58 #[.int .i64 c, .slice (some ⟨ba, offa, none⟩) n cap, .bool eq] by rw [hW12]; exact (Q2.out.other (by omega)).other (by omega))
            have T7 := Lib.hid (show Blk W12 wr.heap.size 61 #[.int .i64 (v : Int), .int .i64 x1] by rw [hW12]; exact ((V7.out.below hB1).other (by omega)).other (by omega))
            have T11 := Lib.hid (show Blk W12 g11 39 #[.int .i64 z0, .int .i64 z1] by rw [hW12]; exact S2.1)
            have TB := Lib.hid (show Fr w w0 (.slice (some ⟨gv, 0, none⟩) m capv) W12 by rw [hW12]; exact (QB.out.set (by omega) (by omega)).set (by omega) (by omega))
            clear S1 S2 f0 f1 f2 f3 f4 f5 f6 hy VO V2 V7 V9 VB QO Q2 QB N3 hK11 NRW
            simp only [List.drop_succ_cons, List.drop_zero]
            go_upto_region 10 with fail
            rw [← hW12]
            clear hW12 i0 i1 z9
            have j0 : W12.cell? ⟨g11, 0, none⟩ = some (.int .i64 z0) := T11.out.cell 0
            have j1 : W12.cell? ⟨g11, 1, none⟩ = some (.int .i64 z1) := T11.out.cell 1
            go_wp2_with fail
            refine (CE.out ⟨z0, z1⟩ W12).mono ?_
            rintro e y12 ⟨rfl, hb⟩
            have SO := Lib.hid (TO.out.below hb)
            have S2 := Lib.hid (T2.out.below hb)
            have S7 := Lib.hid (T7.out.below hb)
            have S11 := Lib.hid (T11.out.below hb)
            have SB := Lib.hid (TB.out.call hb)
            clear hb j0 j1 TO T2 T7 T11 TB
            cases hE : Iv.emp ⟨z0, z1⟩
            · have HEN := Lib.hid (show nwM c eq L (n - (k + 1)) (R'.set v ⟨z0, z1⟩) false = res by
                have h := HCE.out
                rwa [hE, if_neg (by decide)] at h)
              have PUT := Lib.hid (SO.out.put HR'.out.1 hv ⟨z0, z1⟩)
              have HSE := Lib.hid (HSB.out hE)
              obtain ⟨j2, j3, jf⟩ := HGET.out y12 SO.out
              have j0 : y12.cell? ⟨g11, 0, none⟩ = some (.int .i64 z0) := S11.out.cell 0
              have j1 : y12.cell? ⟨g11, 1, none⟩ = some (.int .i64 z1) := S11.out.cell 1
              have j4 : y12.cell? ⟨wr.heap.size, 0, none⟩ = some (.int .i64 (v : Int)) := S7.out.cell 0
              have hq2 : w.heap.size ≠ gv := fun e => (own_blk_ne SO.out S2.out (by decide)) (by simp [Value.ownBlock, e])
              go_wp2
              go_roundw
              case rel =>
                refine ⟨k + 1, false, R'.set v ⟨z0, z1⟩, rfl, by go_num, hlt, HEN.out, PUT.out.1, HSE.out, (S2.out.other hq2).other hq2, (SB.out.own rfl hgv).own rfl hgv⟩
              case measure => simp only [intOf]; omega
            · have HEN := Lib.hid (show none = res by
                have h := HCE.out
                rwa [hE, if_pos rfl] at h)
              go_wp2
              go_ret
              rw [← HEN.out]
              exact ⟨rfl, SB.out, NwP.none_⟩
    · obtain rfl : k = n := by omega
      have HEN := Lib.hid (show some (R', b) = res by have h := HE.out; rwa [Nat.sub_self] at h)
      have hlt2 : ¬ ((k : Int) < (k : Int)) := by omega
      have f0 : wr.cell? ⟨w.heap.size, 0, none⟩ = some (.int .i64 c) := H2.out.cell 0
      have f2 : wr.cell? ⟨w.heap.size, 2, none⟩ = some (.bool eq) := H2.out.cell 2
      have HF : Hid (∀ x, x = nwE c eq (some (R', b)) → Ending.returned (.bool x) = .returned (.bool (nwE c eq res)) ∧ Fr w w0 (.slice Av m capv) wr ∧ NwP w0 wr (.slice Av m capv) m res) := Lib.hid (fun x hx => by
        rw [hx, HEN.out]
        refine ⟨rfl, HB.out, fun R'' b' h => ?_⟩
        rw [← HEN.out] at h
        injection h with h
        injection h with h1 h2
        subst h1
        exact ⟨HO.out, HR'.out⟩)
      cases b
      · go_wp2
        go_ret
        refine HF.out _ ?_
        simp [nwE]
      · by_cases hcz : c = 0
        · have hcb : (c == 0) = true := by simpa using hcz
          have HZ := Lib.hid hcz
          clear hcz
          go_wp2
          go_ret
          refine HF.out true ?_
          simp [nwE, HZ.out]
        · have hcb : (c == 0) = false := by simpa using hcz
          have HZ := Lib.hid hcz
          clear hcz
          by_cases hcn : c < 0
          · have HN := Lib.hid hcn
            cases eq
            all_goals
              go_wp2
              go_ret
              refine HF.out _ ?_
              have h1 := HZ.out
              have h2 := HN.out
              simp [nwE, h1, h2]
          · have HN := Lib.hid hcn
            go_wp2
            go_ret
            refine HF.out _ ?_
            have h1 := HZ.out
            have h2 := HN.out
            simp [nwE, h1]
            intro h
            omega
end Go.Proofs.Ytnoddkbpdfimmaa
