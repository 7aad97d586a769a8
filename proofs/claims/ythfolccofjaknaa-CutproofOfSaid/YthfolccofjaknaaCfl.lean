/- The reference's flip. -/
import Derived.Test.YthfolccofjaknaaCsa
import Derived.Test.YthfolccofjaknaaCsu
import Derived.Test.YthfolccofjaknaaBra
namespace Go.Proofs.Ythfolccofjaknaa
open Go.ChangeShapes Go.WideShapes Go.ChangeAt Go.RowKit Go.ChangeMaps

theorem NB.grownT {w w' : World} {B B' n N size : Nat} {e : TypeId} {v x : Value} {z : Int} {xs : List Value} (h : NB w B v z N) (ho : w.ownsRow B' e size x n xs) (he : 86 ≠ e) (hg : w.grownBy w' x.ownBlock) : NB w' B v z N :=
  let ⟨A, n, c, D, e1, hO, hs, hn, hv, hN⟩ := h
  ⟨A, n, c, D, e1, ⟨hO.1, hO.2.1, fun h0 => by
    obtain ⟨g2, off, cs, e2, hb, hk, hc⟩ := hO.2.2 h0
    exact ⟨g2, off, cs, e2, hb, (hg.block _ hk.lt (fun e3 => own_blk_ne ho hk he e3.symm)).trans hk, hc⟩⟩, hs, hn, hv, hN⟩
theorem own_at37 {w : World} {B : Nat} {v : Value} {L : List Bg} (h : w.ownsRow B 37 2 v L.length (L.flatMap Bg.cells)) : ∃ A c, v = .slice A L.length c ∧ At w A L.length 2 (L.flatMap Bg.cells) := by
  obtain ⟨hl, ⟨rfl, h0⟩ | ⟨g, cap, cur, rfl, hg, hh, hc, -, hs, ht⟩⟩ := h
  · exact ⟨none, 0, by rw [h0], hl, fun h => by omega⟩
  · refine ⟨some ⟨g, 0, none⟩, cap, rfl, hl, fun _ => ⟨g, 0, rfl, (Array.getElem?_eq_some_iff.1 hh).1, fun j u hu => ?_⟩⟩
    rw [Nat.zero_add, cell_of_row w g j cur 37 (0, 0) hh, ← Array.getElem?_toList]
    rw [← ht, List.getElem?_take] at hu
    split at hu
    · exact hu
    · cases hu
theorem i37 : (Try.prog.info? 37).map (fun i => (i.zero, i.size, i.bytes)) = some (some (.agg #[.bool false, .slice none 0 0]), 2, 32) := by kernel_rfl
/-- An inequality is being flipped: k2 holds it, k4 the result, k5 what has been made, its coefficients a row of one's own. -/
structure FS (w0 wr : World) (k2 k4 k5 : Nat) (q : Iq) (v : Value) (L : List Bg) (b1 : Bg) (N : Nat) : Prop where
  below : Below w0.heap.size w0 wr
  own : wr.ownsRow w0.heap.size 37 2 v L.length (L.flatMap Bg.cells)
  nb : ∀ b ∈ L, NB wr w0.heap.size b.val b.z N
  bb : NB wr w0.heap.size b1.val b1.z N
  k5b : Blk wr k5 44 #[v, .bool b1.neg, .slice b1.A b1.n b1.c]
  k2b : Blk wr k2 44 #[.slice q.A q.n q.c, .bool q.b.neg, .slice q.b.A q.b.n q.b.c]
  k4b : Blk wr k4 44 #[.slice none 0 0, .bool false, .slice none 0 0]
theorem FS.keep {w0 wr w' : World} {k2 k4 k5 N : Nat} {q : Iq} {v : Value} {L : List Bg} {b1 : Bg} (h : FS w0 wr k2 k4 k5 q v L b1 N) (hb : Below wr.heap.size wr w') : FS w0 w' k2 k4 k5 q v L b1 N :=
  ⟨h.below.trans (hb.mono h.below.size), ⟨h.own.1, h.own.2.imp id fun ⟨g, cap, cur, e, hg, hh, r⟩ => ⟨g, cap, cur, e, hg, (hb.block g (Array.getElem?_eq_some_iff.1 hh).1).trans hh, r⟩⟩, fun u hu => (h.nb u hu).below hb, h.bb.below hb, h.k5b.below hb, h.k2b.below hb, h.k4b.below hb⟩
theorem FS.app {w0 wr w' : World} {k2 k4 k5 N : Nat} {q : Iq} {v v' : Value} {L : List Bg} {b1 u : Bg} (h : FS w0 wr k2 k4 k5 q v L b1 N) (hk5 : w0.heap.size ≤ k5) (h25 : k2 ≠ k5) (h45 : k4 ≠ k5) (hu : NB wr w0.heap.size u.val u.z N) (ho : w'.ownsRow w0.heap.size 37 2 v' (L.length + 1) (L.flatMap Bg.cells ++ u.cells)) (hg : wr.grownBy w' v.ownBlock) : FS w0 (w'.setCell ⟨k5, 0, none⟩ v') k2 k4 k5 q v' (L ++ [u]) b1 N := by
  have hk := h.k5b.grown h.own (by decide) hg
  have hb := h.below.grown hg h.below.size (fun j hj => (h.own.lt j hj).1)
  refine ⟨hb.setCell (p := ⟨k5, 0, none⟩) hk5 _, ?_, fun x hx => ?_, (h.bb.grownT h.own (by decide) hg).set_other hk (by decide) _ _, Joins.block_setCell hk _, (h.k2b.grown h.own (by decide) hg).set_ne h25 _ _, (h.k4b.grown h.own (by decide) hg).set_ne h45 _ _⟩
  · rw [List.length_append, List.flatMap_append, List.flatMap_cons, List.flatMap_nil, List.append_nil]
    refine ⟨ho.1, ho.2.imp id fun ⟨g, cap, cur, e, hg', hh, r⟩ => ⟨g, cap, cur, e, hg', ?_, r⟩⟩
    exact (show Blk w' g 37 cur from hh).set_other hk (by decide) _ _
  · rcases List.mem_append.1 hx with hx | hx
    · exact ((h.nb x hx).grownT h.own (by decide) hg).set_other hk (by decide) _ _
    · rw [List.mem_singleton.1 hx]
      exact (hu.grownT h.own (by decide) hg).set_other hk (by decide) _ _
/-- An inequality of normal integers whose coefficients are a row of one's own. -/
def IqF (w : World) (B : Nat) (q : Iq) (N : Nat) : Prop := q.L.length = q.n ∧ q.n ≤ 1000000 ∧ w.ownsRow B 37 2 (.slice q.A q.n q.c) q.n (q.L.flatMap Bg.cells) ∧ (∀ b ∈ q.L, NB w B b.val b.z N) ∧ NB w B q.b.val q.b.z N
theorem own37_below {w w' : World} {B n : Nat} {v : Value} {xs : List Value} (h : w.ownsRow B 37 2 v n xs) (hb : Below w.heap.size w w') : w'.ownsRow B 37 2 v n xs :=
  ⟨h.1, h.2.imp id fun ⟨g, cap, cur, e, hg, hh, r⟩ => ⟨g, cap, cur, e, hg, (hb.block g (Array.getElem?_eq_some_iff.1 hh).1).trans hh, r⟩⟩
theorem IqF.below {w w' : World} {B N : Nat} {q : Iq} (h : IqF w B q N) (hb : Below w.heap.size w w') : IqF w' B q N := ⟨h.1, h.2.1, own37_below h.2.2.1 hb, fun b hB => (h.2.2.2.1 b hB).below hb, h.2.2.2.2.below hb⟩
theorem IqF.nrm {w : World} {B N : Nat} {q : Iq} (h : IqF w B q N) : IqN w q N := by
  obtain ⟨A, n, c, L, b⟩ := q
  obtain ⟨h1, h2, h3, h4, h5⟩ := h
  dsimp only at h1 h2 h3 h4 h5
  subst h1
  obtain ⟨A', c', e, hat⟩ := own_at37 h3
  injection e with e1 e2 e3
  subst e1
  exact ⟨⟨hat, by dsimp only; omega, fun x hx => (h4 x hx).bg⟩, fun x hx => (h4 x hx).mono (Nat.zero_le _) (Nat.le_refl _), h5.mono (Nat.zero_le _) (Nat.le_refl _)⟩
theorem IqF.ok {w : World} {B N : Nat} {q : Iq} (h : IqF w B q N) : q.ok w N := ⟨h.nrm.1, h.2.2.2.2.bg⟩
theorem IqF.set {w : World} {B k N : Nat} {q : Iq} {ds : Array Value} (h : IqF w B q N) (hk : Blk w k 44 ds) (j : Nat) (u : Value) : IqF (w.setCell ⟨k, j, none⟩ u) B q N :=
  ⟨h.1, h.2.1, ⟨h.2.2.1.1, h.2.2.1.2.imp id fun ⟨g, cap, cur, e, hg, hh, r⟩ => ⟨g, cap, cur, e, hg, (show Blk w g 37 cur from hh).set_other hk (by decide) j u, r⟩⟩, fun b hb => (h.2.2.2.1 b hb).set_other hk (by decide) j u, h.2.2.2.2.set_other hk (by decide) j u⟩
theorem IqF.store {w : World} {B k N : Nat} {q : Iq} {a b c : Value} (h : IqF w B q N) (hk : Blk w k 44 #[a, b, c]) (x y z : Value) : IqF (((w.setCell ⟨k, 0, none⟩ x).setCell ⟨k, 1, none⟩ y).setCell ⟨k, 2, none⟩ z) B q N :=
  ((h.set hk 0 x).set (store_step hk 0 x).1 1 y).set (store_step (store_step hk 0 x).1 1 y).1 2 z
def FlP (w : World) (m : QI) (n N : Nat) (e : Ending) (w' : World) : Prop := ∃ q : Iq, e = .returned q.val ∧ q.m = m ∧ q.n = n ∧ IqF w' w.heap.size q N ∧ Below w.heap.size w w'
theorem fl_fin {w X : World} {k2 k4 k5 N : Nat} {q : Iq} {vA : Option Addr} {vc : Nat} {L : List Bg} {b1 : Bg} {m : QI} {n : Nat} (h : FS w X k2 k4 k5 q (.slice vA L.length vc) L b1 N) (hk4 : w.heap.size ≤ k4) (hm : (L.map Bg.z, b1.z) = m) (hn : L.length = n) (hn9 : n ≤ 1000000) (ds : Array Value) : FlP w m n N (.returned (.agg #[.slice vA n vc, .bool b1.neg, .slice b1.A b1.n b1.c])) (X.setRow k4 ds) := by
  subst hn
  have ho : (X.setRow k4 ds).ownsRow w.heap.size 37 2 (.slice vA L.length vc) L.length (L.flatMap Bg.cells) := ⟨h.own.1, h.own.2.imp id fun ⟨g, cap, cur, e, hg', hh, r⟩ => ⟨g, cap, cur, e, hg', (show Blk X g 37 cur from hh).row_other h.k4b (by decide) ds, r⟩⟩
  exact ⟨⟨vA, L.length, vc, L, b1⟩, rfl, hm, rfl, ⟨rfl, hn9, ho, fun b hb => (h.nb b hb).rowT h.k4b (by decide) ds, h.bb.rowT h.k4b (by decide) ds⟩, row_below h.below hk4 h.below.size ds⟩
set_option maxRecDepth 100000 in
set_option maxHeartbeats 4000000 in
theorem flip_any (w : World) (q : Iq) (bd : Bg) (N : Nat) (h : q.ok w N) (hbd : bd.ok w N) (hN : N ≤ 20000) (hqn : q.n ≤ 1000000) : Calls Try.prog 49 #[q.val, bd.val] w (FlP w (q.L.map (fun b => -b.z), bd.z) q.n N) := by
  obtain ⟨QA, qn, qc, L0, qb⟩ := q
  dsimp only at hqn ⊢
  have HL := Lib.hid (show L0.length = qn from h.1.len)
  have HA := Lib.hid (show Bigs w QA qn L0 N from h.1)
  have HBD := Lib.hid hbd
  obtain ⟨Z, hZ⟩ : ∃ Z, Z = L0.map (fun b => -b.z) := ⟨_, rfl⟩
  have HZ := Lib.hid hZ
  rw [← hZ]
  clear h hbd hZ
  obtain ⟨i0, hi, hz0, hz1, hz2⟩ := info_parts i37
  unfold Iq.val Bg.val
  dsimp only
  obtain ⟨k2, hk2⟩ : ∃ k, k = w.heap.size := ⟨_, rfl⟩
  obtain ⟨k3, hk3⟩ : ∃ k, k = k2 + 1 := ⟨_, rfl⟩
  obtain ⟨k4, hk4⟩ : ∃ k, k = k3 + 1 := ⟨_, rfl⟩
  obtain ⟨W1, hW1⟩ : ∃ W1, W1 = ((w.alloc (.cells #[.slice QA qn qc, .bool qb.neg, .slice qb.A qb.n qb.c] 44)).alloc (.cells #[.bool bd.neg, .slice bd.A bd.n bd.c] 37)).alloc (.cells #[.slice none 0 0, .bool false, .slice none 0 0] 44) := ⟨_, rfl⟩
  have HB1 := Lib.hid (show Below w.heap.size w W1 by rw [hW1]; exact (((Below.refl _ _).alloc (Nat.le_refl _) _).alloc (by simp) _).alloc (by simp; omega) _)
  have K2 := Lib.hid (show Blk W1 k2 44 #[.slice QA qn qc, .bool qb.neg, .slice qb.A qb.n qb.c] by rw [hW1, hk2]; exact ((Blk.new _ _ _).alloc _).alloc _)
  have K3 := Lib.hid (show Blk W1 k3 37 #[.bool bd.neg, .slice bd.A bd.n bd.c] by rw [hW1]; exact (Blk.new_ (by rw [hk3, hk2]; simp) rfl).alloc _)
  have K4 := Lib.hid (show Blk W1 k4 44 #[.slice none 0 0, .bool false, .slice none 0 0] by rw [hW1]; exact Blk.new_ (by rw [hk4, hk3, hk2]; simp) rfl)
  have hk4w : w.heap.size ≤ k4 := by omega
  have e34 : k4 = k2 + 1 + 1 := by omega
  have e32 : k3 = k2 + 1 := hk3
  have CN := Lib.hid (RNormal_any bd.val bd.z N W1 (HBD.out.below HB1.out) (by omega))
  unfold Bg.val at CN
  have d0 : W1.cell? ⟨k3, 0, none⟩ = some (.bool bd.neg) := K3.out.cell 0
  have d1 : W1.cell? ⟨k3, 1, none⟩ = some (.slice bd.A bd.n bd.c) := K3.out.cell 1
  go_enter Try.func49, Try.ntmps49
  go_upto_region 1 with fail
  rw [← hk2]
  try rw [← e34]
  try rw [← e32]
  rw [← hW1]
  have H24 := Lib.hid (show k2 ≠ k4 by omega)
  have HK4L := Lib.hid (show k2 < W1.heap.size ∧ k4 < W1.heap.size from ⟨K2.out.lt, K4.out.lt⟩)
  clear hk2 hk3 hk4 e34 e32 hW1
  go_wp2_with fail
  clear d0 d1
  refine CN.out.mono ?_
  rintro e2 w2 ⟨v1, rfl, hv, hb2⟩
  have HB2 := Lib.hid (HB1.out.trans (hb2.mono HB1.out.size))
  have HV1 := Lib.hid ((hv.mono HB1.out.size (Nat.le_refl _)).tight (K := N) (BG.abs HBD.out))
  have K22 := Lib.hid (K2.out.below hb2)
  have K42 := Lib.hid (K4.out.below hb2)
  have HLT := Lib.hid (show k2 < w2.heap.size ∧ k4 < w2.heap.size from ⟨Nat.lt_of_lt_of_le HK4L.out.1 hb2.size, Nat.lt_of_lt_of_le HK4L.out.2 hb2.size⟩)
  clear hv hb2 CN K2 K3 K4 HB1 HK4L
  obtain ⟨s1, A1, n1, c1, rfl⟩ := HV1.out.expose
  obtain ⟨k5, hk5⟩ : ∃ k, k = w2.heap.size := ⟨_, rfl⟩
  obtain ⟨W3, hW3⟩ : ∃ W3, W3 = w2.alloc (.cells #[.slice none 0 0, .bool s1, .slice A1 n1 c1] 44) := ⟨_, rfl⟩
  have hb3 : Below w2.heap.size w2 W3 := by rw [hW3]; exact (Below.refl _ _).alloc (Nat.le_refl _) _
  have HS := Lib.hid (show FS w W3 k2 k4 k5 ⟨QA, qn, qc, L0, qb⟩ (.slice none 0 0) [] ⟨s1, A1, n1, c1, bd.z⟩ N from ⟨HB2.out.trans (hb3.mono HB2.out.size), World.ownsRow_nil _ _ _ _, fun u hu => (by cases hu), HV1.out.below hb3, by rw [hW3]; exact Blk.new_ hk5 rfl, K22.out.below hb3, K42.out.below hb3⟩)
  have hk5w : w.heap.size ≤ k5 := by rw [hk5]; exact HB2.out.size
  have h25 : k2 ≠ k5 := by have := HLT.out; omega
  have h45 : k4 ≠ k5 := by have := HLT.out; omega
  clear hb3
  go_upto_region 2 with fail
  rw [← hk5, ← hW3]
  clear hk5 hW3
  go_wp2
  go_loopw [6] (fun s6 wr => ∃ (k : Nat) (v : Value) (L : List Bg), s6 = .int .i64 (k : Int) ∧ k ≤ qn ∧ L.length = k ∧ L.map Bg.z = Z.take k ∧ FS w wr k2 k4 k5 ⟨QA, qn, qc, L0, qb⟩ v L ⟨s1, A1, n1, c1, bd.z⟩ N) (fun s6 _ => qn - (intOf s6).toNat)
  case atStart => exact ⟨0, _, [], rfl, Nat.zero_le _, rfl, rfl, HS.out⟩
  case round =>
    obtain ⟨k, v, L, rfl, hkn, hLl, hLm, hs⟩ := hrel
    generalize wr = X0 at *
    have HLl := Lib.hid hLl
    have HLM := Lib.hid hLm
    have HSU := Lib.hid hs
    have q0 : X0.cell? ⟨k2, 0, none⟩ = some (.slice QA qn qc) := HSU.out.k2b.cell 0
    clear hLl hLm hs
    by_cases hlt : k < qn
    · have hki : (k : Int) < (qn : Int) := by omega
      have hk0 : (0 : Int) ≤ (k : Int) := by omega
      have hkU : k < L0.length := by rw [HL.out]; exact hlt
      obtain ⟨bA, off, rfl, -, hcl⟩ := HA.out.at (show 0 < qn by omega)
      have HCL := Lib.hid (fun W hW => hcl W hW k hkU)
      have HUB := Lib.hid (HA.out.2.2 _ (List.getElem_mem hkU))
      have HTK := Lib.hid (show Z.take (k + 1) = Z.take k ++ [-L0[k].z] by
        rw [HZ.out, List.take_succ_eq_append_getElem (by rw [List.length_map]; exact hkU), List.getElem_map])
      clear hcl
      generalize L0[k] = x at *
      have hS00 := HCL.out
      go_upto_region 5 with fail
      clear q0 hS00
      have hb0 : Below X0.heap.size X0 X0.drew := below_drew (Below.refl _ _)
      refine wp_region_mix 11 (fun w' => w'.cell? ⟨k5, 0, none⟩ = some v ∧ w'.cell? ⟨k2, 0, none⟩ = some (.slice (some ⟨bA, off, none⟩) qn qc) ∧ w'.cell? ⟨bA, off + k * 2, none⟩ = some (.bool x.neg) ∧ w'.cell? ⟨bA, off + k * 2 + 1, none⟩ = some (.slice x.A x.n x.c)) (by kernel_rfl) (by decide) ?_
      have HSUy := Lib.hid (HSU.out.keep hb0)
      generalize X0.drew = y0 at HSUy ⊢
      clear hb0
      have hS0 : y0.cell? ⟨k5, 0, none⟩ = some v ∧ y0.cell? ⟨k2, 0, none⟩ = some (.slice (some ⟨bA, off, none⟩) qn qc) ∧ y0.cell? ⟨bA, off + k * 2, none⟩ = some (.bool x.neg) ∧ y0.cell? ⟨bA, off + k * 2 + 1, none⟩ = some (.slice x.A x.n x.c) := ⟨HSUy.out.k5b.cell 0, HSUy.out.k2b.cell 0, HCL.out y0 HSUy.out.below⟩
      have CN := Lib.hid (RNeg_any x.val x.z N y0 (HUB.out.below HSUy.out.below) (by omega))
      unfold Bg.val at CN
      refine wpM_take (i := 0) (oi := ⟨some 17, _, _, _, _, _⟩) (v := ?_) rfl (by decide +kernel) (by decide +kernel) (by decide +kernel) (fun _ _ _ h => h) (Or.inl ⟨by rfl, ?_⟩) hS0 ?_
      case refine_2 =>
        intro w' hSw
        obtain ⟨s0, s1, s2, s3⟩ := hSw
        go_simp
        try (with_reducible rfl)
      try simp only [Act.put, List.setIfInBounds_toArray, List.set_cons_zero, List.set_cons_succ]
      refine wpM_take (i := 1) (oi := ⟨some 18, _, _, _, _, _⟩) (v := ?_) rfl (by decide +kernel) (by decide +kernel) (by decide +kernel) (fun _ _ _ h => h) (Or.inl ⟨by rfl, ?_⟩) hS0 ?_
      case refine_2 =>
        intro w' hSw
        obtain ⟨s0, s1, s2, s3⟩ := hSw
        go_simp
        try (with_reducible rfl)
      try simp only [Act.put, List.setIfInBounds_toArray, List.set_cons_zero, List.set_cons_succ]
      refine wpM_take (i := 2) (oi := ⟨some 19, _, _, _, _, _⟩) (v := ?_) rfl (by decide +kernel) (by decide +kernel) (by decide +kernel) (fun _ _ _ h => h) (Or.inl ⟨by rfl, ?_⟩) hS0 ?_
      case refine_2 =>
        intro w' hSw
        obtain ⟨s0, s1, s2, s3⟩ := hSw
        go_simp
        try (with_reducible rfl)
      try simp only [Act.put, List.setIfInBounds_toArray, List.set_cons_zero, List.set_cons_succ]
      refine wpM_take (i := 3) (oi := ⟨some 20, _, _, _, _, _⟩) (v := ?_) rfl (by decide +kernel) (by decide +kernel) (by decide +kernel) (fun _ _ _ h => h) (Or.inl ⟨by rfl, ?_⟩) hS0 ?_
      case refine_2 =>
        intro w' hSw
        obtain ⟨s0, s1, s2, s3⟩ := hSw
        go_simp
        try (with_reducible rfl)
      try simp only [Act.put, List.setIfInBounds_toArray, List.set_cons_zero, List.set_cons_succ]
      refine wpM_take (i := 4) (oi := ⟨some 21, _, _, _, _, _⟩) (v := ?_) rfl (by decide +kernel) (by decide +kernel) (by decide +kernel) (fun _ _ _ h => h) (Or.inl ⟨by rfl, ?_⟩) hS0 ?_
      case refine_2 =>
        intro w' hSw
        obtain ⟨s0, s1, s2, s3⟩ := hSw
        go_simp
        try (with_reducible rfl)
      try simp only [Act.put, List.setIfInBounds_toArray, List.set_cons_zero, List.set_cons_succ]
      refine wpM_take (i := 5) (oi := ⟨some 22, _, _, _, _, _⟩) (v := ?_) rfl (by decide +kernel) (by decide +kernel) (by decide +kernel) (fun _ _ _ h => h) (Or.inl ⟨by rfl, ?_⟩) hS0 ?_
      case refine_2 =>
        intro w' hSw
        obtain ⟨s0, s1, s2, s3⟩ := hSw
        go_simp
        try (with_reducible rfl)
      try simp only [Act.put, List.setIfInBounds_toArray, List.set_cons_zero, List.set_cons_succ]
      refine wpM_take (i := 6) (oi := ⟨some 23, _, _, _, _, _⟩) (v := ?_) rfl (by decide +kernel) (by decide +kernel) (by decide +kernel) (fun _ _ _ h => h) (Or.inl ⟨by rfl, ?_⟩) hS0 ?_
      case refine_2 =>
        intro w' hSw
        obtain ⟨s0, s1, s2, s3⟩ := hSw
        go_simp
        try (with_reducible rfl)
      try simp only [Act.put, List.setIfInBounds_toArray, List.set_cons_zero, List.set_cons_succ]
      refine wpM_step (i := 7) (o := ⟨some 24, _, _, _, _, _⟩) rfl (by decide +kernel) (by decide) (fun KK hKK => ?_)
      go_simp
      refine CN.out.mono ?_
      rintro e y1 ⟨v2, rfl, hv2, hbn⟩
      have HSU2 := Lib.hid (HSUy.out.keep hbn)
      have HV2 := Lib.hid ((hv2.mono HSUy.out.below.size (Nat.le_refl _)).tight (K := N) (by rw [Int.natAbs_neg]; exact BG.abs HUB.out))
      clear hv2 hbn
      obtain ⟨s2, A2, n2, c2, rfl⟩ := HV2.out.expose
      refine hKK.out _ _ ⟨HSU2.out.k5b.cell 0, HSU2.out.k2b.cell 0, HCL.out y1 HSU2.out.below⟩ ?_
      clear hKK KK
      try simp only [Act.put, List.setIfInBounds_toArray, List.set_cons_zero, List.set_cons_succ]
      clear hS0
      obtain ⟨y2, hy2⟩ : ∃ y2, y2 = y1.alloc (.cells #[.bool s2, .slice A2 n2 c2] 37) := ⟨_, rfl⟩
      obtain ⟨g8, hg8⟩ : ∃ g8, g8 = y1.heap.size := ⟨_, rfl⟩
      have hb2 : Below y1.heap.size y1 y2 := by rw [hy2]; exact (Below.refl _ _).alloc (Nat.le_refl _) _
      have HSU3 := Lib.hid (HSU2.out.keep hb2)
      have HV3 := Lib.hid (HV2.out.below hb2)
      have HSRC := Lib.hid (src_blk (P := Try.prog) (W := y2) (g := g8) (e := 37) (t := 42) (size := 2) (xs := Bg.cells ⟨s2, A2, n2, c2, -x.z⟩) (n := 1) (c := 1) Try.underlying42 rfl (fun x hx => by
        unfold Bg.cells at hx
        simp only [List.mem_cons, List.not_mem_nil, or_false] at hx
        rcases hx with rfl | rfl <;> rfl) (by rw [hy2]; exact Blk.new_ hg8 rfl))
      clear hb2
      refine wpM_step (i := 8) (o := ⟨some 25, _, _, _, _, _⟩) rfl (by decide +kernel) (by decide) (fun KK hKK => ?_)
      go_simp
      rw [← hy2, ← hg8]
      refine hKK.out _ _ ⟨HSU3.out.k5b.cell 0, HSU3.out.k2b.cell 0, HCL.out y2 HSU3.out.below⟩ ?_
      clear hKK KK hy2 hg8
      try simp only [Act.put, List.setIfInBounds_toArray, List.set_cons_zero, List.set_cons_succ]
      have hLk : L.length ≤ 1000000 := by have := HLl.out; omega
      refine wpM_step (i := 9) (o := ⟨some 26, _, _, _, _, _⟩) rfl (by decide +kernel) (by decide) (fun KK hKK => ?_)
      refine step_append_src _ rfl _ _ 42 42 rfl w.heap.size 37 i0 _ 2 32 Try.underlying42 hi hz0 hz1 hz2 rfl v L.length (L.flatMap Bg.cells) rfl HSU3.out.own _ 1 (Bg.cells ⟨s2, A2, n2, c2, -x.z⟩) rfl HSRC.out (by unfold maxLen; omega) (by omega) HSU3.out.below.size (fun v' y3 ho hg hm => ?_)
      have HK5 := Lib.hid (HSU3.out.k5b.grown HSU3.out.own (by decide) hg)
      have HK2 := Lib.hid (HSU3.out.k2b.grown HSU3.out.own (by decide) hg)
      have HBY3 := Lib.hid (HSU3.out.below.grown hg HSU3.out.below.size (fun j hj => (HSU3.out.own.lt j hj).1))
      have HAPP := Lib.hid (HSU3.out.app (u := ⟨s2, A2, n2, c2, -x.z⟩) hk5w h25 h45 HV3.out ho hg)
      obtain ⟨vA, vc, rfl, -⟩ : ∃ A c, v' = .slice A (L.length + 1) c ∧ True := by
        rcases ho.2 with ⟨rfl, h0⟩ | ⟨g, cap, cur, rfl, -⟩
        · exact absurd h0 (by omega)
        · exact ⟨_, _, rfl, trivial⟩
      clear ho hg hm
      have hS0 : y3.cell? ⟨k5, 0, none⟩ = some v ∧ y3.cell? ⟨k2, 0, none⟩ = some (.slice (some ⟨bA, off, none⟩) qn qc) ∧ y3.cell? ⟨bA, off + k * 2, none⟩ = some (.bool x.neg) ∧ y3.cell? ⟨bA, off + k * 2 + 1, none⟩ = some (.slice x.A x.n x.c) := ⟨HK5.out.cell 0, HK2.out.cell 0, HCL.out y3 HBY3.out⟩
      refine hKK.out _ _ hS0 ?_
      clear hKK KK
      try simp only [Act.put, List.setIfInBounds_toArray, List.set_cons_zero, List.set_cons_succ]
      refine wpM_take (i := 10) (oi := ⟨some 27, _, _, _, _, _⟩) (v := ?_) rfl (by decide +kernel) (by decide +kernel) (by decide +kernel) (fun _ _ _ h => h) (Or.inl ⟨by rfl, ?_⟩) hS0 ?_
      case refine_2 =>
        intro w' hSw
        obtain ⟨s0, s1, s2, s3⟩ := hSw
        go_simp
        try (with_reducible rfl)
      try simp only [Act.put, List.setIfInBounds_toArray, List.set_cons_zero, List.set_cons_succ]
      refine wpM_done (by decide +kernel) ?_
      simp only [List.drop_succ_cons, List.drop_zero]
      have b0 : y3.cell? ⟨k5, 0, none⟩ = some v := hS0.1
      have f0 := Joins.unfrozen_of_block HK5.out 0
      clear hS0
      go_wp2
      go_roundw
      case rel => exact ⟨k + 1, _, L ++ [⟨s2, A2, n2, c2, -x.z⟩], by go_num, hlt, by rw [List.length_append, HLl.out]; rfl, by rw [List.map_append, HLM.out, HTK.out]; rfl, HAPP.out⟩
      case measure => simp [intOf]; omega
    · obtain rfl : k = qn := by omega
      have hlt2 : ¬ ((k : Int) < (k : Int)) := by omega
      have HMM := Lib.hid (show (L.map Bg.z, (⟨s1, A1, n1, c1, bd.z⟩ : Bg).z) = (Z, bd.z) by
        rw [HLM.out, List.take_of_length_le (by rw [HZ.out, List.length_map, HL.out]; exact Nat.le_refl _)])
      obtain ⟨vA, vc, rfl, -⟩ := own_at37 HSU.out.own
      have b0 : X0.cell? ⟨k5, 0, none⟩ = some (.slice vA k vc) := by have := HSU.out.k5b.cell 0; rw [HLl.out] at this; exact this
      have b1 : X0.cell? ⟨k5, 1, none⟩ = some (.bool s1) := HSU.out.k5b.cell 1
      have b2 : X0.cell? ⟨k5, 2, none⟩ = some (.slice A1 n1 c1) := HSU.out.k5b.cell 2
      go_wp2_with ((refine wpList_store_row (o := ⟨none, _, _, _, _, _⟩) rfl 44 _ _ rfl k4 #[.slice vA k vc, .bool s1, .slice A1 n1 c1] rfl rfl 44 _ HSU.out.k4b (by kernel_rfl) rfl (by simp [Value.oneCell']) ?_))
      refine bodyPost_ret (results_c1 rfl _ _ _ k4 _ rfl (load44 (HSU.out.k4b.setRow (ds := #[.slice vA k vc, .bool s1, .slice A1 n1 c1])) rfl)) rfl ?_
      exact fl_fin HSU.out hk4w HMM.out HLl.out hqn _
end Go.Proofs.Ythfolccofjaknaa
