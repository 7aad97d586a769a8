/- Sum. -/
import Derived.Test.YthfolccofjaknaaCay
import Derived.Test.YthfolccofjaknaaMB
namespace Go.Proofs.Ythfolccofjaknaa
open Go.ChangeShapes Go.WideShapes Go.ChangeAt Go.RowKit Go.ChangeMaps

theorem NB.grown {w w' : World} {B B' n N : Nat} {v x : Value} {z : Int} {xs : List Value} (h : NB w B v z N) (ho : w.ownsRow B' 62 3 x n xs) (hg : w.grownBy w' x.ownBlock) : NB w' B v z N :=
  let ⟨A, n, c, D, e, hO, hs, hn, hv, hN⟩ := h
  ⟨A, n, c, D, e, ⟨hO.1, hO.2.1, fun h0 => by
    obtain ⟨g2, off, cs, e2, hb, hk, hc⟩ := hO.2.2 h0
    exact ⟨g2, off, cs, e2, hb, (hg.block _ hk.lt (fun e3 => own_blk_ne ho hk (by decide) e3.symm)).trans hk, hc⟩⟩, hs, hn, hv, hN⟩
theorem own_at62 {w : World} {B : Nat} {v : Value} {L : List Us} (h : w.ownsRow B 62 3 v L.length (L.flatMap Us.cells)) : ∃ A c, v = .slice A L.length c ∧ At w A L.length 3 (L.flatMap Us.cells) := by
  obtain ⟨hl, ⟨rfl, h0⟩ | ⟨g, cap, cur, rfl, hg, hh, hc, -, hs, ht⟩⟩ := h
  · exact ⟨none, 0, by rw [h0], hl, fun h => by omega⟩
  · refine ⟨some ⟨g, 0, none⟩, cap, rfl, hl, fun _ => ⟨g, 0, rfl, (Array.getElem?_eq_some_iff.1 hh).1, fun j u hu => ?_⟩⟩
    rw [Nat.zero_add, cell_of_row w g j cur 62 (0, 0) hh, ← Array.getElem?_toList]
    rw [← ht, List.getElem?_take] at hu
    split at hu
    · exact hu
    · cases hu
theorem i62 : (Try.prog.info? 62).map (fun i => (i.zero, i.size, i.bytes)) = some (some (.agg #[.int .i64 0, .bool false, .slice none 0 0]), 3, 40) := by kernel_rfl
structure SU (w0 wr : World) (k2 k3 : Nat) (v : Value) (L : List Us) (b1 : Bg) (N : Nat) : Prop where
  below : Below w0.heap.size w0 wr
  own : wr.ownsRow w0.heap.size 62 3 v L.length (L.flatMap Us.cells)
  nb : ∀ u ∈ L, NB wr w0.heap.size u.b.val u.b.z N
  one : NB wr w0.heap.size b1.val b1.z 2
  k3b : Blk wr k3 39 #[v, .bool b1.neg, .slice b1.A b1.n b1.c]
  k2b : Blk wr k2 52 #[.slice none 0 0, .slice none 0 0, .bool false, .slice none 0 0, .slice none 0 0]
theorem SU.keep {w0 wr w' : World} {k2 k3 N : Nat} {v : Value} {L : List Us} {b1 : Bg} (h : SU w0 wr k2 k3 v L b1 N) (hb : Below wr.heap.size wr w') : SU w0 w' k2 k3 v L b1 N :=
  ⟨h.below.trans (hb.mono h.below.size), ⟨h.own.1, h.own.2.imp id fun ⟨g, cap, cur, e, hg, hh, r⟩ => ⟨g, cap, cur, e, hg, (hb.block g (Array.getElem?_eq_some_iff.1 hh).1).trans hh, r⟩⟩, fun u hu => (h.nb u hu).below hb, h.one.below hb, h.k3b.below hb, h.k2b.below hb⟩
theorem SU.app {w0 wr w' : World} {k2 k3 N : Nat} {v v' : Value} {L : List Us} {b1 : Bg} {u : Us} (h : SU w0 wr k2 k3 v L b1 N) (hk3 : w0.heap.size ≤ k3) (h23 : k2 ≠ k3) (hu : NB wr w0.heap.size u.b.val u.b.z N) (ho : w'.ownsRow w0.heap.size 62 3 v' (L.length + 1) (L.flatMap Us.cells ++ u.cells)) (hg : wr.grownBy w' v.ownBlock) : SU w0 (w'.setCell ⟨k3, 0, none⟩ v') k2 k3 v' (L ++ [u]) b1 N := by
  have hk := h.k3b.grown h.own (by decide) hg
  have hb := h.below.grown hg h.below.size (fun j hj => (h.own.lt j hj).1)
  refine ⟨hb.setCell (p := ⟨k3, 0, none⟩) hk3 _, ?_, fun x hx => ?_, (h.one.grown h.own hg).set_other hk (by decide) _ _, Joins.block_setCell hk _, (h.k2b.grown h.own (by decide) hg).set_ne h23 _ _⟩
  · rw [List.length_append, List.flatMap_append, List.flatMap_cons, List.flatMap_nil, List.append_nil]
    refine ⟨ho.1, ho.2.imp id fun ⟨g, cap, cur, e, hg', hh, r⟩ => ⟨g, cap, cur, e, hg', ?_, r⟩⟩
    exact (show Blk w' g 62 cur from hh).set_other hk (by decide) _ _
  · rcases List.mem_append.1 hx with hx | hx
    · exact ((h.nb x hx).grown h.own hg).set_other hk (by decide) _ _
    · rw [List.mem_singleton.1 hx]
      exact (hu.grown h.own hg).set_other hk (by decide) _ _
def SuP2 (w : World) (U : List (Int × Int)) (N : Nat) (e : Ending) (w' : World) : Prop := ∃ p : Pf, e = .returned p.val ∧ p.m = .mk [(U, 1)] [] 0 [] ∧ p.ok w' N ∧ Below w.heap.size w w'
theorem Blk.row_other {w : World} {g k : Nat} {t T : TypeId} {cs c0 : Array Value} (h : Blk w g t cs) (hk : Blk w k T c0) (hne : t ≠ T) (ds : Array Value) : Blk (w.setRow k ds) g t cs :=
  ((grown_row w k ds).block _ h.lt (fun e => by
    injection e with e
    subst e
    have := h.symm.trans hk
    injection this with this
    injection this with _ e2
    exact hne e2)).trans h
theorem sum_fin {w X : World} {k2 k3 g N : Nat} {vA : Option Addr} {vc : Nat} {L : List Us} {U : List (Int × Int)} {s1 : Bool} {A1 : Option Addr} {n1 c1 : Nat} (h : SU w X k2 k3 (.slice vA L.length vc) L ⟨s1, A1, n1, c1, 1⟩ N) (hg : Blk X g 39 #[.slice vA L.length vc, .bool s1, .slice A1 n1 c1]) (hk2 : w.heap.size ≤ k2) (hU : L.map Us.m = U) (h2N : 2 ≤ N) (hL : L.length ≤ 100000) (ds : Array Value) : SuP2 w U N (.returned (.agg #[.slice (some ⟨g, 0, none⟩) 1 1, .slice none 0 0, .bool false, .slice none 0 0, .slice none 0 0])) (X.setRow k2 ds) := by
  have hg2 := hg.row_other h.k2b (by decide) ds
  have ho : (X.setRow k2 ds).ownsRow w.heap.size 62 3 (.slice vA L.length vc) L.length (L.flatMap Us.cells) := ⟨h.own.1, h.own.2.imp id fun ⟨g, cap, cur, e, hg', hh, r⟩ => ⟨g, cap, cur, e, hg', (show Blk X g 62 cur from hh).row_other h.k2b (by decide) ds, r⟩⟩
  obtain ⟨A', c', e, hat⟩ := own_at62 ho
  injection e with e1 e2 e3
  subst e1
  refine ⟨.mk (some ⟨g, 0, none⟩) 1 1 [⟨vA, L.length, vc, L, ⟨s1, A1, n1, c1, 1⟩⟩] none 0 0 [] Bg.zero none 0 0 [], rfl, ?_, ?_, row_below h.below hk2 h.below.size ds⟩
  · rw [Pf.m_eq]
    show PT.mk [(L.map Us.m, 1)] [] 0 [] = _
    rw [hU]
  · refine .mk ⟨rfl, fun _ => ⟨g, 0, rfl, hg2.lt, fun j u hu => by rw [Nat.zero_add, hg2.cell]; simpa [Sp.cells] using hu⟩⟩ (fun s hs => ?_) ⟨⟨rfl, fun h => absurd h (Nat.lt_irrefl _)⟩, by decide, fun b hb => by cases hb⟩ ((NB.zero _ 0).bg.mono (Nat.zero_le _)) ⟨rfl, fun h => absurd h (Nat.lt_irrefl _)⟩ ⟨by decide, by decide, by decide, fun s hs => ?_⟩ (fun k hk => by cases hk)
    · rw [List.mem_singleton.1 hs]
      exact ⟨⟨hat, by show L.length ≤ _; omega, fun u hu => ((h.nb u hu).rowT h.k2b (by decide) ds).bg⟩, (h.one.rowT h.k2b (by decide) ds).bg.mono h2N⟩
    · rw [List.mem_singleton.1 hs]
      show L.length < _
      omega
set_option maxRecDepth 100000 in
set_option maxHeartbeats 4000000 in
theorem Sum_any (w : World) (A : Option Addr) (n c : Nat) (U : List Us) (N : Nat) (hU : Uses w A n U N) (hN : N ≤ 2000000) (h2N : 2 ≤ N) (hn : n ≤ 100000) : Calls Try.prog 29 #[.slice A n c] w (SuP2 w (U.map Us.m) N) := by
  have HL := Lib.hid hU.len
  have HU := Lib.hid hU
  clear hU
  obtain ⟨i0, hi, hz0, hz1, hz2⟩ := info_parts i62
  obtain ⟨k2, hk2⟩ : ∃ k, k = w.heap.size := ⟨_, rfl⟩
  obtain ⟨W1, hW1⟩ : ∃ W1, W1 = w.alloc (.cells #[.slice none 0 0, .slice none 0 0, .bool false, .slice none 0 0, .slice none 0 0] 52) := ⟨_, rfl⟩
  have HB1 := Lib.hid (show Below w.heap.size w W1 by rw [hW1]; exact (Below.refl _ _).alloc (Nat.le_refl _) _)
  have K2 := Lib.hid (show Blk W1 k2 52 #[.slice none 0 0, .slice none 0 0, .bool false, .slice none 0 0, .slice none 0 0] by rw [hW1]; exact Blk.new_ hk2 rfl)
  have CO := Lib.hid (Of_any 1 W1 (by decide) (by decide))
  have hk2w : w.heap.size ≤ k2 := by omega
  go_enter Try.func29, Try.ntmps29
  go_wp2_with fail
  rw [← hk2, ← hW1]
  clear hk2 hW1
  refine CO.out.mono ?_
  rintro e w2 ⟨v1, rfl, hv, hb⟩
  have HB2 := Lib.hid (HB1.out.trans (hb.mono HB1.out.size))
  have HV1 := Lib.hid (hv.mono HB1.out.size (Nat.le_refl _))
  have K22 := Lib.hid (K2.out.below hb)
  clear hv hb CO
  obtain ⟨s1, A1, n1, c1, rfl⟩ := HV1.out.expose
  obtain ⟨k3, hk3⟩ : ∃ k, k = w2.heap.size := ⟨_, rfl⟩
  obtain ⟨W3, hW3⟩ : ∃ W3, W3 = w2.alloc (.cells #[.slice none 0 0, .bool s1, .slice A1 n1 c1] 39) := ⟨_, rfl⟩
  have hb3 : Below w2.heap.size w2 W3 := by rw [hW3]; exact (Below.refl _ _).alloc (Nat.le_refl _) _
  have HS := Lib.hid (show SU w W3 k2 k3 (.slice none 0 0) [] ⟨s1, A1, n1, c1, 1⟩ N from ⟨HB2.out.trans (hb3.mono HB2.out.size), World.ownsRow_nil _ _ _ _, fun u hu => (by cases hu), HV1.out.below hb3, by rw [hW3]; exact Blk.new_ hk3 rfl, K22.out.below hb3⟩)
  have hk3w : w.heap.size ≤ k3 := by rw [hk3]; exact HB2.out.size
  have h23 : k2 ≠ k3 := by have := K22.out.lt; omega
  clear hb3
  go_upto_region 2 with fail
  rw [← hk3, ← hW3]
  clear hk3 hW3
  go_wp2
  go_loopw [10] (fun s10 wr => ∃ (k : Nat) (v : Value) (L : List Us), s10 = .int .i64 (k : Int) ∧ k ≤ n ∧ L.length = k ∧ L.map Us.m = (U.map Us.m).take k ∧ SU w wr k2 k3 v L ⟨s1, A1, n1, c1, 1⟩ N) (fun s10 _ => n - (intOf s10).toNat)
  case atStart => exact ⟨0, _, [], rfl, Nat.zero_le _, rfl, rfl, HS.out⟩
  case round =>
    obtain ⟨k, v, L, rfl, hkn, hLl, hLm, hs⟩ := hrel
    generalize wr = X0 at *
    have HLl := Lib.hid hLl
    have HLM := Lib.hid hLm
    have HSU := Lib.hid hs
    clear hLl hLm hs
    by_cases hlt : k < n
    · have hki : (k : Int) < (n : Int) := by omega
      have hk0 : (0 : Int) ≤ (k : Int) := by omega
      have hkU : k < U.length := by rw [HL.out]; exact hlt
      obtain ⟨bU, offU, rfl, -, hcu⟩ := at3 (fun _ => rfl) HU.out.1 (show 0 < n by omega)
      obtain ⟨e0, e1, e2⟩ := hcu X0 HSU.out.below k hkU _ _ _ rfl
      have HUB := Lib.hid (HU.out.2.2 _ (List.getElem_mem hkU))
      have HTK := Lib.hid (show (U.map Us.m).take (k + 1) = (U.map Us.m).take k ++ [U[k].m] by
        rw [List.take_succ_eq_append_getElem (by rw [List.length_map]; exact hkU), List.getElem_map])
      clear hcu
      generalize U[k] = u at *
      obtain ⟨ui, ub⟩ := u
      dsimp only at *
      obtain ⟨k5, hk5⟩ : ∃ k5, k5 = X0.heap.size := ⟨_, rfl⟩
      obtain ⟨X1, hX1⟩ : ∃ X1, X1 = X0.alloc (.cells #[.int .i64 ui, .bool ub.neg, .slice ub.A ub.n ub.c] 62) := ⟨_, rfl⟩
      have hb1 : Below X0.heap.size X0 X1 := by rw [hX1]; exact (Below.refl _ _).alloc (Nat.le_refl _) _
      have K5 := Lib.hid (show Blk X1 k5 62 #[.int .i64 ui, .bool ub.neg, .slice ub.A ub.n ub.c] by rw [hX1]; exact Blk.new_ hk5 rfl)
      have HSU1 := Lib.hid (HSU.out.keep hb1)
      have hown5 : ∀ j, v.ownBlock = some j → j < k5 := fun j hj => by rw [hk5]; exact (HSU.out.own.lt j hj).2
      have HO5 := Lib.hid hown5
      clear hb1 hown5
      go_upto_region 5 with fail
      rw [← hk5, ← hX1]
      clear hk5 hX1 e0 e1 e2
      have hb0 : Below X1.heap.size X1 X1.drew := below_drew (Below.refl _ _)
      refine wp_region_mix 11 (fun w' => w'.cell? ⟨k3, 0, none⟩ = some v ∧ w'.cell? ⟨k5, 0, none⟩ = some (.int .i64 ui) ∧ w'.cell? ⟨k5, 1, none⟩ = some (.bool ub.neg) ∧ w'.cell? ⟨k5, 2, none⟩ = some (.slice ub.A ub.n ub.c)) (by kernel_rfl) (by decide) ?_
      have HSUy := Lib.hid (HSU1.out.keep hb0)
      have K5y := Lib.hid (K5.out.below hb0)
      generalize X1.drew = y0 at HSUy K5y ⊢
      clear hb0
      have hS0 : y0.cell? ⟨k3, 0, none⟩ = some v ∧ y0.cell? ⟨k5, 0, none⟩ = some (.int .i64 ui) ∧ y0.cell? ⟨k5, 1, none⟩ = some (.bool ub.neg) ∧ y0.cell? ⟨k5, 2, none⟩ = some (.slice ub.A ub.n ub.c) := ⟨HSUy.out.k3b.cell 0, K5y.out.cell 0, K5y.out.cell 1, K5y.out.cell 2⟩
      have CN := Lib.hid (Normal_any ub.val ub.z N y0 (HUB.out.below HSUy.out.below) (by omega))
      unfold Bg.val at CN
      refine wpM_take (i := 0) (oi := ⟨some 14, _, _, _, _, _⟩) (v := ?_) rfl (by decide +kernel) (by decide +kernel) (by decide +kernel) (fun _ _ _ h => h) (Or.inl ⟨by rfl, ?_⟩) hS0 ?_
      case refine_2 =>
        intro w' hSw
        obtain ⟨s0, s1, s2, s3⟩ := hSw
        go_simp
        try (with_reducible rfl)
      try simp only [Act.put, List.setIfInBounds_toArray, List.set_cons_zero, List.set_cons_succ]
      refine wpM_take (i := 1) (oi := ⟨some 15, _, _, _, _, _⟩) (v := ?_) rfl (by decide +kernel) (by decide +kernel) (by decide +kernel) (fun _ _ _ h => h) (Or.inl ⟨by rfl, ?_⟩) hS0 ?_
      case refine_2 =>
        intro w' hSw
        obtain ⟨s0, s1, s2, s3⟩ := hSw
        go_simp
        try (with_reducible rfl)
      try simp only [Act.put, List.setIfInBounds_toArray, List.set_cons_zero, List.set_cons_succ]
      refine wpM_take (i := 2) (oi := ⟨some 16, _, _, _, _, _⟩) (v := ?_) rfl (by decide +kernel) (by decide +kernel) (by decide +kernel) (fun _ _ _ h => h) (Or.inl ⟨by rfl, ?_⟩) hS0 ?_
      case refine_2 =>
        intro w' hSw
        obtain ⟨s0, s1, s2, s3⟩ := hSw
        go_simp
        try (with_reducible rfl)
      try simp only [Act.put, List.setIfInBounds_toArray, List.set_cons_zero, List.set_cons_succ]
      refine wpM_take (i := 3) (oi := ⟨some 17, _, _, _, _, _⟩) (v := ?_) rfl (by decide +kernel) (by decide +kernel) (by decide +kernel) (fun _ _ _ h => h) (Or.inl ⟨by rfl, ?_⟩) hS0 ?_
      case refine_2 =>
        intro w' hSw
        obtain ⟨s0, s1, s2, s3⟩ := hSw
        go_simp
        try (with_reducible rfl)
      try simp only [Act.put, List.setIfInBounds_toArray, List.set_cons_zero, List.set_cons_succ]
      refine wpM_take (i := 4) (oi := ⟨some 18, _, _, _, _, _⟩) (v := ?_) rfl (by decide +kernel) (by decide +kernel) (by decide +kernel) (fun _ _ _ h => h) (Or.inl ⟨by rfl, ?_⟩) hS0 ?_
      case refine_2 =>
        intro w' hSw
        obtain ⟨s0, s1, s2, s3⟩ := hSw
        go_simp
        try (with_reducible rfl)
      try simp only [Act.put, List.setIfInBounds_toArray, List.set_cons_zero, List.set_cons_succ]
      refine wpM_take (i := 5) (oi := ⟨some 19, _, _, _, _, _⟩) (v := ?_) rfl (by decide +kernel) (by decide +kernel) (by decide +kernel) (fun _ _ _ h => h) (Or.inl ⟨by rfl, ?_⟩) hS0 ?_
      case refine_2 =>
        intro w' hSw
        obtain ⟨s0, s1, s2, s3⟩ := hSw
        go_simp
        try (with_reducible rfl)
      try simp only [Act.put, List.setIfInBounds_toArray, List.set_cons_zero, List.set_cons_succ]
      refine wpM_step (i := 6) (o := ⟨some 20, _, _, _, _, _⟩) rfl (by decide +kernel) (by decide) (fun KK hKK => ?_)
      go_simp
      refine CN.out.mono ?_
      rintro e y1 ⟨v2, rfl, hv2, hbn⟩
      have HSU2 := Lib.hid (HSUy.out.keep hbn)
      have K52 := Lib.hid (K5y.out.below hbn)
      have HV2 := Lib.hid (hv2.mono HSUy.out.below.size (Nat.le_refl _))
      clear hv2 hbn
      obtain ⟨s2, A2, n2, c2, rfl⟩ := HV2.out.expose
      refine hKK.out _ _ ⟨HSU2.out.k3b.cell 0, K52.out.cell 0, K52.out.cell 1, K52.out.cell 2⟩ ?_
      clear hKK KK
      try simp only [Act.put, List.setIfInBounds_toArray, List.set_cons_zero, List.set_cons_succ]
      clear hS0
      have hS0 : y1.cell? ⟨k3, 0, none⟩ = some v ∧ y1.cell? ⟨k5, 0, none⟩ = some (.int .i64 ui) ∧ y1.cell? ⟨k5, 1, none⟩ = some (.bool ub.neg) ∧ y1.cell? ⟨k5, 2, none⟩ = some (.slice ub.A ub.n ub.c) := ⟨HSU2.out.k3b.cell 0, K52.out.cell 0, K52.out.cell 1, K52.out.cell 2⟩
      refine wpM_take (i := 7) (oi := ⟨some 21, _, _, _, _, _⟩) (v := ?_) rfl (by decide +kernel) (by decide +kernel) (by decide +kernel) (fun _ _ _ h => h) (Or.inl ⟨by rfl, ?_⟩) hS0 ?_
      case refine_2 =>
        intro w' hSw
        obtain ⟨s0, s1, s2, s3⟩ := hSw
        go_simp
        try (with_reducible rfl)
      try simp only [Act.put, List.setIfInBounds_toArray, List.set_cons_zero, List.set_cons_succ]
      obtain ⟨y2, hy2⟩ : ∃ y2, y2 = y1.alloc (.cells #[.int .i64 ui, .bool s2, .slice A2 n2 c2] 62) := ⟨_, rfl⟩
      obtain ⟨g8, hg8⟩ : ∃ g8, g8 = y1.heap.size := ⟨_, rfl⟩
      have hb2 : Below y1.heap.size y1 y2 := by rw [hy2]; exact (Below.refl _ _).alloc (Nat.le_refl _) _
      have HSU3 := Lib.hid (HSU2.out.keep hb2)
      have K53 := Lib.hid (K52.out.below hb2)
      have HV3 := Lib.hid (HV2.out.below hb2)
      have HSRC := Lib.hid (src_blk (P := Try.prog) (W := y2) (g := g8) (e := 62) (t := 34) (size := 3) (xs := Us.cells ⟨ui, ⟨s2, A2, n2, c2, ub.z⟩⟩) (n := 1) (c := 1) Try.underlying34 rfl (fun x hx => by
        unfold Us.cells at hx
        simp only [List.mem_cons, List.not_mem_nil, or_false] at hx
        rcases hx with rfl | rfl | rfl | rfl <;> rfl) (by rw [hy2]; exact Blk.new_ hg8 rfl))
      clear hb2
      refine wpM_step (i := 8) (o := ⟨some 22, _, _, _, _, _⟩) rfl (by decide +kernel) (by decide) (fun KK hKK => ?_)
      go_simp
      rw [← hy2, ← hg8]
      refine hKK.out _ _ ⟨HSU3.out.k3b.cell 0, K53.out.cell 0, K53.out.cell 1, K53.out.cell 2⟩ ?_
      clear hKK KK hy2 hg8
      try simp only [Act.put, List.setIfInBounds_toArray, List.set_cons_zero, List.set_cons_succ]
      have hLk : L.length ≤ 100000 := by have := HLl.out; omega
      refine wpM_step (i := 9) (o := ⟨some 23, _, _, _, _, _⟩) rfl (by decide +kernel) (by decide) (fun KK hKK => ?_)
      refine step_append_src _ rfl _ _ 34 34 rfl w.heap.size 62 i0 _ 3 40 Try.underlying34 hi hz0 hz1 hz2 rfl v L.length (L.flatMap Us.cells) rfl HSU3.out.own _ 1 (Us.cells ⟨ui, ⟨s2, A2, n2, c2, ub.z⟩⟩) rfl HSRC.out (by unfold maxLen; omega) (by omega) HSU3.out.below.size (fun v' y3 ho hg hm => ?_)
      have HK3 := Lib.hid (HSU3.out.k3b.grown HSU3.out.own (by decide) hg)
      have HK5 := Lib.hid (show Blk y3 k5 62 _ from (hg.block k5 K53.out.lt (fun e => by have := HO5.out k5 e.symm; omega)).trans K53.out)
      have HAPP := Lib.hid (HSU3.out.app (u := ⟨ui, ⟨s2, A2, n2, c2, ub.z⟩⟩) hk3w h23 HV3.out ho hg)
      obtain ⟨vA, vc, rfl, -⟩ : ∃ A c, v' = .slice A (L.length + 1) c ∧ True := by
        rcases ho.2 with ⟨rfl, h0⟩ | ⟨g, cap, cur, rfl, -⟩
        · exact absurd h0 (by omega)
        · exact ⟨_, _, rfl, trivial⟩
      clear ho hg hm
      have hS3 : y3.cell? ⟨k3, 0, none⟩ = some v ∧ y3.cell? ⟨k5, 0, none⟩ = some (.int .i64 ui) ∧ y3.cell? ⟨k5, 1, none⟩ = some (.bool ub.neg) ∧ y3.cell? ⟨k5, 2, none⟩ = some (.slice ub.A ub.n ub.c) := ⟨HK3.out.cell 0, HK5.out.cell 0, HK5.out.cell 1, HK5.out.cell 2⟩
      refine hKK.out _ _ hS3 ?_
      clear hKK KK hS0
      have hS0 := hS3
      try simp only [Act.put, List.setIfInBounds_toArray, List.set_cons_zero, List.set_cons_succ]
      refine wpM_take (i := 10) (oi := ⟨some 24, _, _, _, _, _⟩) (v := ?_) rfl (by decide +kernel) (by decide +kernel) (by decide +kernel) (fun _ _ _ h => h) (Or.inl ⟨by rfl, ?_⟩) hS0 ?_
      case refine_2 =>
        intro w' hSw
        obtain ⟨s0, s1, s2, s3⟩ := hSw
        go_simp
        try (with_reducible rfl)
      try simp only [Act.put, List.setIfInBounds_toArray, List.set_cons_zero, List.set_cons_succ]
      refine wpM_done (by decide +kernel) ?_
      simp only [List.drop_succ_cons, List.drop_zero]
      have b0 := hS3.1
      have f0 := Joins.unfrozen_of_block HK3.out 0
      clear hS0 hS3
      go_wp2
      go_roundw
      case rel => exact ⟨k + 1, _, L ++ [⟨ui, ⟨s2, A2, n2, c2, ub.z⟩⟩], by go_num, hlt, by rw [List.length_append, HLl.out]; rfl, by rw [List.map_append, HLM.out, HTK.out]; rfl, HAPP.out⟩
      case measure => simp [intOf]; omega
    · obtain rfl : k = n := by omega
      have hlt2 : ¬ ((k : Int) < (k : Int)) := by omega
      have HMM := Lib.hid (show L.map Us.m = U.map Us.m by
        rw [HLM.out, List.take_of_length_le (by rw [List.length_map, HL.out]; exact Nat.le_refl _)])
      obtain ⟨vA, vc, rfl, -⟩ := own_at62 HSU.out.own
      have b0 : X0.cell? ⟨k3, 0, none⟩ = some (.slice vA L.length vc) := HSU.out.k3b.cell 0
      have b1 : X0.cell? ⟨k3, 1, none⟩ = some (.bool s1) := HSU.out.k3b.cell 1
      have b2 : X0.cell? ⟨k3, 2, none⟩ = some (.slice A1 n1 c1) := HSU.out.k3b.cell 2
      have hb5 : Below X0.heap.size X0 (X0.alloc (.cells #[.slice vA L.length vc, .bool s1, .slice A1 n1 c1] 39)) := (Below.refl _ _).alloc (Nat.le_refl _) _
      have HSU5 := Lib.hid (HSU.out.keep hb5)
      have KN := Lib.hid (Blk.new X0 39 #[.slice vA L.length vc, .bool s1, .slice A1 n1 c1])
      have HLK := Lib.hid (show L.length ≤ 100000 by have := HLl.out; omega)
      clear hb5
      go_wp2_with ((refine wpList_store_row (o := ⟨none, _, _, _, _, _⟩) rfl 52 _ _ rfl k2 #[.slice (some ⟨X0.heap.size, 0, none⟩) 1 1, .slice none 0 0, .bool false, .slice none 0 0, .slice none 0 0] rfl rfl 52 _ HSU5.out.k2b (by kernel_rfl) rfl (by simp [Value.oneCell']) ?_))
      refine bodyPost_ret (results_c1 rfl _ _ _ k2 _ rfl (load52 (HSU5.out.k2b.setRow (ds := #[.slice (some ⟨X0.heap.size, 0, none⟩) 1 1, .slice none 0 0, .bool false, .slice none 0 0, .slice none 0 0])) rfl)) rfl ?_
      exact sum_fin HSU5.out KN.out hk2w HMM.out h2N HLK.out _
end Go.Proofs.Ythfolccofjaknaa
