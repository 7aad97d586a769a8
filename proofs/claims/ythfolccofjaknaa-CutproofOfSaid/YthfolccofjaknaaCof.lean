/- The inequalities of a constraint. -/
import Derived.Test.YthfolccofjaknaaCcn
import Derived.Test.YthfolccofjaknaaCfl
import Derived.Test.YthfolccofjaknaaCng
namespace Go.Proofs.Ythfolccofjaknaa
open Go.ChangeShapes Go.WideShapes Go.ChangeAt Go.RowKit Go.ChangeMaps

/-- All blocks but lists of inequalities stay. -/
def N44 (w w' : World) : Prop := ∀ g cs T, Blk w g T cs → T ≠ 44 → Blk w' g T cs
theorem N44.of_below {w w' : World} (hb : Below w.heap.size w w') : N44 w w' := fun g cs T h _ => h.below hb
theorem N44.of_grown {w w' : World} {B n : Nat} {v : Value} {xs : List Value} (ho : w.ownsRow B 44 3 v n xs) (hg : w.grownBy w' v.ownBlock) : N44 w w' := fun g cs T h hT => h.grown ho hT hg
theorem N44.trans {a b c : World} (h : N44 a b) (h2 : N44 b c) : N44 a c := fun g cs T hb hT => h2 g cs T (h g cs T hb hT) hT
theorem NB.n44 {w w' : World} {B N : Nat} {v : Value} {z : Int} (h : NB w B v z N) (hn : N44 w w') : NB w' B v z N := by
  obtain ⟨A, n, c, D, e, hO, hs, h1, h2, h3⟩ := h
  exact ⟨A, n, c, D, e, ⟨hO.1, hO.2.1, fun h0 => by
    obtain ⟨g2, off, cs, e2, hb, hk, hc⟩ := hO.2.2 h0
    exact ⟨g2, off, cs, e2, hb, hn _ _ _ hk (by decide), hc⟩⟩, hs, h1, h2, h3⟩
/-- An inequality of normal integers, whatever becomes of the lists. -/
def Gd (w : World) (q : Iq) (K : Nat) : Prop := ∀ w', N44 w w' → IqN w' q K
theorem Gd.mono {w w' : World} {q : Iq} {K : Nat} (h : Gd w q K) (hn : N44 w w') : Gd w' q K := fun w2 h2 => h w2 (hn.trans h2)
theorem Gd.nrm {w : World} {q : Iq} {K : Nat} (h : Gd w q K) : IqN w q K := h w (fun _ _ _ hb _ => hb)
theorem Gd.of_iqo {w : World} {B K : Nat} {q : Iq} (h : IqO w B q K) : Gd w q K := fun w' hn => by
  refine IqO.nrm (B := B) ⟨h.1, h.2.1, ?_, h.2.2.2.n44 hn⟩
  rcases h.2.2.1 with hr | ⟨g, e, hr⟩
  · exact .inl hr
  · exact .inr ⟨g, e, hr.1, hn _ _ _ hr.2.1 (by decide), fun b hb => (hr.2.2 b hb).n44 hn⟩
theorem Gd.of_iqf {w : World} {B K : Nat} {q : Iq} (h : IqF w B q K) : Gd w q K := fun w' hn =>
  IqF.nrm (B := B) ⟨h.1, h.2.1, ⟨h.2.2.1.1, h.2.2.1.2.imp id fun ⟨g, cap, cur, e, hg, hh, r⟩ => ⟨g, cap, cur, e, hg, hn g cur 37 hh (by decide), r⟩⟩, fun b hb => (h.2.2.2.1 b hb).n44 hn, h.2.2.2.2.n44 hn⟩
/-- The coefficients of a constraint. -/
def ofZ (C : List (Int × Int)) (m : Nat) : List Int := C.foldl (fun z p => z.set p.1.toNat p.2) (List.replicate m 0)
def ofM (x : Ct) (m : Nat) : List QI := (ofZ x.C m, -x.k) :: (if x.e = true then [((ofZ x.C m).map (fun z => -z), x.k)] else [])
theorem ofZ_snoc (C : List (Int × Int)) (m k : Nat) (hk : k < C.length) : ofZ (C.take (k + 1)) m = (ofZ (C.take k) m).set C[k].1.toNat C[k].2 := by
  unfold ofZ
  rw [List.take_succ_eq_append_getElem hk, List.foldl_append]
  rfl
/-- The inequalities as they are handed back: a list in new memory. -/
def OfP (w : World) (Z : List QI) (K : Nat) (e : Ending) (w' : World) : Prop := ∃ (g c : Nat) (Q : List Iq), e = .returned (.slice (some ⟨g, 0, none⟩) Q.length c) ∧ At w' (some ⟨g, 0, none⟩) Q.length 3 (Q.flatMap Iq.cells) ∧ (∀ q ∈ Q, Gd w' q K) ∧ Q.map Iq.m = Z ∧ Below w.heap.size w w'
/-- An inequality is being made: kx holds the constraint, k5 the inequality, its coefficients the row g. -/
structure OS (w0 wr : World) (kx k5 g : Nat) (x : Ct) (L : List Bg) (b : Bg) : Prop where
  below : Below w0.heap.size w0 wr
  kxb : Blk wr kx 28 #[.int .i64 x.k, .slice x.A x.n x.c, .bool x.e]
  k5b : Blk wr k5 44 #[.slice (some ⟨g, 0, none⟩) L.length L.length, .bool b.neg, .slice b.A b.n b.c]
  rw : Rw wr w0.heap.size g L 2
  bd : NB wr w0.heap.size b.val b.z 2
  h5 : w0.heap.size ≤ k5
theorem OS.keep {w0 wr w' : World} {kx k5 g : Nat} {x : Ct} {L : List Bg} {b : Bg} (h : OS w0 wr kx k5 g x L b) (hb : Below wr.heap.size wr w') : OS w0 w' kx k5 g x L b :=
  ⟨h.below.trans (hb.mono h.below.size), h.kxb.below hb, h.k5b.below hb, h.rw.below hb, h.bd.below hb, h.h5⟩
theorem OS.setL {w0 wr : World} {kx k5 g : Nat} {x : Ct} {L : List Bg} {b : Bg} (h : OS w0 wr kx k5 g x L b) (k : Nat) (hk : k < L.length) (d : Bg) (hd : NB wr w0.heap.size d.val d.z 2) : OS w0 (wr.setCells g (k * 2) d.cells) kx k5 g x (L.set k d) b := by
  have hr := h.rw
  have h1 : Blk (wr.setCell ⟨g, k * 2, none⟩ (.bool d.neg)) g 37 ((L.flatMap Bg.cells).toArray.setIfInBounds (k * 2) (.bool d.neg)) := Joins.block_setCell hr.2.1 _
  refine ⟨setrow_below h.below hr.1 _, (h.kxb.set_other hr.2.1 (by decide) _ _).set_other h1 (by decide) _ _, ?_, hr.set k hk d hd, (h.bd.set_other hr.2.1 (by decide) _ _).set_other h1 (by decide) _ _, h.h5⟩
  rw [List.length_set]
  exact (h.k5b.set_other hr.2.1 (by decide) _ _).set_other h1 (by decide) _ _
theorem OS.iqo {w0 wr : World} {kx k5 g : Nat} {x : Ct} {L : List Bg} {b : Bg} (h : OS w0 wr kx k5 g x L b) (hl : L.length ≤ 1000000) : IqO wr w0.heap.size ⟨some ⟨g, 0, none⟩, L.length, L.length, L, b⟩ 2 := ⟨rfl, hl, .inr ⟨g, rfl, h.rw⟩, h.bd⟩
set_option maxRecDepth 100000 in
set_option maxHeartbeats 8000000 in
theorem Of13_bad (w : World) (x : Ct) (m : Int) (h : x.ok w) (hm : i64b m) (ho : okC x.C m = false) : Calls Try.prog 13 #[x.val, .int .i64 m] w fun e w' => e = .returned (.slice none 0 0) ∧ Below w.heap.size w w' := by
  have H := Lib.hid h
  clear h
  obtain ⟨kx, hkx⟩ : ∃ kx, kx = w.heap.size := ⟨_, rfl⟩
  obtain ⟨W1, hW1⟩ : ∃ W1, W1 = w.alloc (.cells #[.int .i64 x.k, .slice x.A x.n x.c, .bool x.e] 28) := ⟨_, rfl⟩
  have HB1 := Lib.hid (show Below w.heap.size w W1 by rw [hW1]; exact (Below.refl _ _).alloc (Nat.le_refl _) _)
  have KX := Lib.hid (show Blk W1 kx 28 #[.int .i64 x.k, .slice x.A x.n x.c, .bool x.e] by rw [hW1]; exact Blk.new_ hkx rfl)
  have CV := Lib.hid (valid_any W1 x m (H.out.below HB1.out) hm)
  rw [ho] at CV
  unfold Ct.val at CV ⊢
  have c0 : W1.cell? ⟨kx, 0, none⟩ = some (.int .i64 x.k) := KX.out.cell 0
  have c1 : W1.cell? ⟨kx, 1, none⟩ = some (.slice x.A x.n x.c) := KX.out.cell 1
  have c2 : W1.cell? ⟨kx, 2, none⟩ = some (.bool x.e) := KX.out.cell 2
  go_enter Try.func13, Try.ntmps13
  go_upto_region 1 with fail
  rw [← hkx, ← hW1]
  clear hkx hW1
  go_wp2_with fail
  clear c0 c1 c2
  refine CV.out.mono ?_
  rintro e2 w2 ⟨rfl, hb2⟩
  have HB2 := Lib.hid (HB1.out.trans (hb2.mono HB1.out.size))
  clear hb2
  go_wp2
  go_ret
  exact ⟨rfl, HB2.out⟩
set_option maxRecDepth 100000 in
set_option maxHeartbeats 8000000 in
theorem Of13_ok (w : World) (x : Ct) (m : Nat) (h : x.ok w) (ho : okC x.C (m : Int) = true) : Calls Try.prog 13 #[x.val, .int .i64 (m : Int)] w (OfP w (ofM x m) 2) := by
  have hm : i64b (m : Int) ∧ m ≤ 512 := by
    unfold okC at ho
    simp only [Bool.and_eq_true, decide_eq_true_eq] at ho
    exact ⟨⟨by omega, by omega⟩, by omega⟩
  have HBD := Lib.hid (show ∀ p ∈ x.C, 0 ≤ p.1 ∧ p.1 < (m : Int) from rgtL_bound _ _ _ (by unfold okC at ho; simp only [Bool.and_eq_true] at ho; exact ho.1))
  have HXL := Lib.hid h.len
  have H := Lib.hid h
  have hm5 : m ≤ 512 := hm.2
  have hn63 : x.n ≤ 9223372036854775807 := h.2.1
  obtain ⟨ZM, hZM⟩ : ∃ Z, Z = ofM x m := ⟨_, rfl⟩
  rw [← hZM]
  have HZM := Lib.hid hZM
  clear h hZM
  obtain ⟨kx, hkx⟩ : ∃ kx, kx = w.heap.size := ⟨_, rfl⟩
  obtain ⟨W1, hW1⟩ : ∃ W1, W1 = w.alloc (.cells #[.int .i64 x.k, .slice x.A x.n x.c, .bool x.e] 28) := ⟨_, rfl⟩
  have HB1 := Lib.hid (show Below w.heap.size w W1 by rw [hW1]; exact (Below.refl _ _).alloc (Nat.le_refl _) _)
  have KX := Lib.hid (show Blk W1 kx 28 #[.int .i64 x.k, .slice x.A x.n x.c, .bool x.e] by rw [hW1]; exact Blk.new_ hkx rfl)
  have CV := Lib.hid (valid_any W1 x m (H.out.below HB1.out) hm.1)
  rw [ho] at CV
  unfold Ct.val at CV ⊢
  have c0 : W1.cell? ⟨kx, 0, none⟩ = some (.int .i64 x.k) := KX.out.cell 0
  have c1 : W1.cell? ⟨kx, 1, none⟩ = some (.slice x.A x.n x.c) := KX.out.cell 1
  have c2 : W1.cell? ⟨kx, 2, none⟩ = some (.bool x.e) := KX.out.cell 2
  go_enter Try.func13, Try.ntmps13
  go_upto_region 1 with fail
  rw [← hkx, ← hW1]
  clear hkx hW1 hm ho
  go_wp2_with fail
  clear c0 c1 c2
  refine CV.out.mono ?_
  rintro e2 w2 ⟨rfl, hb2⟩
  have HB2 := Lib.hid (HB1.out.trans (hb2.mono HB1.out.size))
  have KX2 := Lib.hid (KX.out.below hb2)
  clear hb2 CV HB1 KX
  have hmk := make42 m (by omega)
  have c0 : w2.cell? ⟨kx, 0, none⟩ = some (.int .i64 x.k) := KX2.out.cell 0
  go_upto_region 3 with fail
  have hb0 : Below w2.heap.size w2 w2.drew := below_drew (Below.refl _ _)
  have hxk := H.out.2.2.1
  refine wp_region_mix 9 (fun w' => Below w2.heap.size w2 w') (by kernel_rfl) (by decide) ?_
  generalize w2.drew = y0 at hb0 ⊢
  refine wpM_take (i := 0) (oi := ⟨some 13, _, _, _, _, _⟩) (v := ?_) rfl (by decide +kernel) (by decide +kernel) (by decide +kernel) (fun _ _ _ h => h) (Or.inl ⟨by rfl, ?_⟩) hb0 ?_
  case refine_2 =>
    intro w' hSw
    skip
    go_simp
    try (with_reducible rfl)
  try simp only [Act.put, List.setIfInBounds_toArray, List.set_cons_zero, List.set_cons_succ]
  refine wpM_take (i := 2) (oi := ⟨some 15, _, _, _, _, _⟩) (v := ?_) rfl (by decide +kernel) (by decide +kernel) (by decide +kernel) (fun _ _ _ h => h) (Or.inl ⟨by rfl, ?_⟩) hb0 ?_
  case refine_2 =>
    intro w' hSw
    skip
    go_simp
    try (with_reducible rfl)
  try simp only [Act.put, List.setIfInBounds_toArray, List.set_cons_zero, List.set_cons_succ]
  refine wpM_take (i := 3) (oi := ⟨some 16, _, _, _, _, _⟩) (v := ?_) rfl (by decide +kernel) (by decide +kernel) (by decide +kernel) (fun _ _ _ h => h) (Or.inl ⟨by rfl, ?_⟩) hb0 ?_
  case refine_2 =>
    intro w' hSw
    skip
    go_simp
    try (with_reducible rfl)
  try simp only [Act.put, List.setIfInBounds_toArray, List.set_cons_zero, List.set_cons_succ]
  refine wpM_take (i := 4) (oi := ⟨some 17, _, _, _, _, _⟩) (v := ?_) rfl (by decide +kernel) (by decide +kernel) (by decide +kernel) (fun _ _ _ h => h) (Or.inl ⟨by rfl, ?_⟩) hb0 ?_
  case refine_2 =>
    intro w' hSw
    have c0' := keepcell hSw c0
    go_simp
    try (with_reducible rfl)
  try simp only [Act.put, List.setIfInBounds_toArray, List.set_cons_zero, List.set_cons_succ]
  refine wpM_chains (fun i => if i = 8 then 5 else 13 + i) [1, 5, 6, 7, 8] (fun i v W => (i = 1 → ∃ g, v = .slice (some ⟨g, 0, none⟩) m m ∧ Rw W w2.heap.size g (List.replicate m Bg.zero) 2) ∧ (i = 5 → NB W w2.heap.size v x.k 2) ∧ (i = 6 → NB W w2.heap.size v (-x.k) 2) ∧ (i = 7 → ∃ g s A n c, v = .agg #[.slice (some ⟨g, 0, none⟩) m m, .bool s, .slice A n c] ∧ Rw W w2.heap.size g (List.replicate m Bg.zero) 2 ∧ NB W w2.heap.size (.agg #[.bool s, .slice A n c]) (-x.k) 2) ∧ (i = 8 → ∃ g, v = Value.pointer (some ⟨g, 0, none⟩) ∧ Blk W g 44 #[.slice none 0 0, .bool false, .slice none 0 0] ∧ w2.heap.size ≤ g) ∧ True) (by decide +kernel) (fun i v W W' h0 hb => ⟨fun e => (fun h => let ⟨g, e, k⟩ := h; ⟨g, e, k.below hb⟩) (h0.1 e), fun e => (fun h => h.below hb) (h0.2.1 e), fun e => (fun h => h.below hb) (h0.2.2.1 e), fun e => (fun h => let ⟨g, s, A, n, c, e, k, l⟩ := h; ⟨g, s, A, n, c, e, k.below hb, l.below hb⟩) (h0.2.2.2.1 e), fun e => (fun h => let ⟨g, e, s, z⟩ := h; ⟨g, e, s.below hb, z⟩) (h0.2.2.2.2.1 e), trivial⟩) hb0 ?_ ?_
  · refine List.forall_mem_cons.2 ⟨?_, List.forall_mem_cons.2 ⟨?_, List.forall_mem_cons.2 ⟨?_, List.forall_mem_cons.2 ⟨?_, List.forall_mem_cons.2 ⟨?_, List.forall_mem_nil _⟩⟩⟩⟩⟩
    · refine ⟨⟨some 14, _, _, _, _, _⟩, rfl, rfl, fun vs W K hS hd hK => ?_⟩
      simp only [puts, List.foldl_cons, List.foldl_nil, Act.put, List.setIfInBounds_toArray, List.set_cons_zero, List.set_cons_succ, Nat.reduceAdd, Nat.reduceSub, Nat.reduceEqDiff, reduceIte] at hK ⊢
      go_simp
      have hb : Below W.heap.size W (W.alloc (.cells ((List.replicate m Bg.zero).flatMap Bg.cells).toArray 37)) := (Below.refl _ _).alloc (Nat.le_refl _) _
      exact hK _ _ (hS.trans (hb.mono hS.size)) hb ⟨fun _ => ⟨_, rfl, (Rw.make rfl rfl hS.size).mono (Nat.le_refl _) (Nat.zero_le _)⟩, fun e => absurd e (by decide), fun e => absurd e (by decide), fun e => absurd e (by decide), fun e => absurd e (by decide), trivial⟩
    · refine ⟨⟨some 18, _, _, _, _, _⟩, rfl, rfl, fun vs W K hS hd hK => ?_⟩
      simp only [puts, List.foldl_cons, List.foldl_nil, Act.put, List.setIfInBounds_toArray, List.set_cons_zero, List.set_cons_succ, Nat.reduceAdd, Nat.reduceSub, Nat.reduceEqDiff, reduceIte] at hK ⊢
      have CN := Lib.hid (Of_any x.k W hxk.1 hxk.2)
      go_simp
      refine CN.out.mono ?_
      rintro e W' ⟨v, rfl, hv, hb⟩
      exact hK _ _ (hS.trans (hb.mono hS.size)) hb ⟨fun e => absurd e (by decide), fun _ => hv.mono hS.size (Nat.le_refl _), fun e => absurd e (by decide), fun e => absurd e (by decide), fun e => absurd e (by decide), trivial⟩
    · refine ⟨⟨some 19, _, _, _, _, _⟩, rfl, rfl, fun vs W K hS hd hK => ?_⟩
      obtain h5 := (hd 5 (by decide) (by decide +kernel)).2.1 rfl
      simp only [puts, List.foldl_cons, List.foldl_nil, Act.put, List.setIfInBounds_toArray, List.set_cons_zero, List.set_cons_succ, Nat.reduceAdd, Nat.reduceSub, Nat.reduceEqDiff, reduceIte] at hK ⊢
      have CN := Lib.hid (Neg_any (vs 5) x.k 2 W h5.bg (by decide))
      go_simp
      refine CN.out.mono ?_
      rintro e W' ⟨v, rfl, hv, hb⟩
      exact hK _ _ (hS.trans (hb.mono hS.size)) hb ⟨fun e => absurd e (by decide), fun e => absurd e (by decide), fun _ => hv.mono hS.size (Nat.le_refl _), fun e => absurd e (by decide), fun e => absurd e (by decide), trivial⟩
    · refine ⟨⟨some 20, _, _, _, _, _⟩, rfl, rfl, fun vs W K hS hd hK => ?_⟩
      obtain ⟨gm, e1, k1⟩ := (hd 1 (by decide) (by decide +kernel)).1 rfl
      obtain h6 := (hd 6 (by decide) (by decide +kernel)).2.2.1 rfl
      simp only [puts, List.foldl_cons, List.foldl_nil, Act.put, List.setIfInBounds_toArray, List.set_cons_zero, List.set_cons_succ, Nat.reduceAdd, Nat.reduceSub, Nat.reduceEqDiff, reduceIte] at hK ⊢
      simp only [e1] at hK ⊢
      obtain ⟨sb, Ab, nb, cb, e6⟩ := h6.expose
      simp only [e6] at hK ⊢
      rw [e6] at h6
      go_simp
      exact hK _ _ hS (Below.refl _ _) ⟨fun e => absurd e (by decide), fun e => absurd e (by decide), fun e => absurd e (by decide), fun _ => ⟨gm, sb, Ab, nb, cb, rfl, k1, h6⟩, fun e => absurd e (by decide), trivial⟩
    · refine ⟨⟨some 5, _, _, _, _, _⟩, rfl, rfl, fun vs W K hS hd hK => ?_⟩
      simp only [puts, List.foldl_cons, List.foldl_nil, Act.put, List.setIfInBounds_toArray, List.set_cons_zero, List.set_cons_succ, Nat.reduceAdd, Nat.reduceSub, Nat.reduceEqDiff, reduceIte] at hK ⊢
      go_simp
      have hb : Below W.heap.size W (W.alloc (.cells #[.slice none 0 0, .bool false, .slice none 0 0] 44)) := (Below.refl _ _).alloc (Nat.le_refl _) _
      exact hK _ _ (hS.trans (hb.mono hS.size)) hb ⟨fun e => absurd e (by decide), fun e => absurd e (by decide), fun e => absurd e (by decide), fun e => absurd e (by decide), fun _ => ⟨_, rfl, Blk.new _ _ _, hS.size⟩, trivial⟩
  · intro vs W hS hd
    obtain ⟨g, sb, Ab, nb, cb, e7, hrw, hbd⟩ := (hd 7 (by decide)).2.2.2.1 rfl
    obtain ⟨k5, e8, kb, hk5⟩ := (hd 8 (by decide)).2.2.2.2.1 rfl
    simp only [puts, List.foldl_cons, List.foldl_nil, Act.put, List.setIfInBounds_toArray, List.set_cons_zero, List.set_cons_succ, Nat.reduceAdd, Nat.reduceSub, Nat.reduceEqDiff, reduceIte]
    simp only [e7, e8]
    clear hd c0
    simp only [List.drop_succ_cons, List.drop_zero]
    have b0 : W.cell? ⟨k5, 0, none⟩ = some (.slice none 0 0) := kb.cell 0
    have b1 : W.cell? ⟨k5, 1, none⟩ = some (.bool false) := kb.cell 1
    have b2 : W.cell? ⟨k5, 2, none⟩ = some (.slice none 0 0) := kb.cell 2
    have f0 := Joins.unfrozen_of_block kb 0
    have f1 := Joins.unfrozen_of_block kb 1
    have f2 := Joins.unfrozen_of_block kb 2
    have HS3 := Lib.hid (store3 kb (.slice (some ⟨g, 0, none⟩) m m) (.bool sb) (.slice Ab nb cb))
    have hbz := HS3.out.2 _ _ hS hk5
    have s0 := (store_step kb 0 (.slice (some ⟨g, 0, none⟩) m m)).1
    have s1 := (store_step s0 1 (.bool sb)).1
    have HOS := Lib.hid (show OS w (((W.setCell ⟨k5, 0, none⟩ (.slice (some ⟨g, 0, none⟩) m m)).setCell ⟨k5, 1, none⟩ (.bool sb)).setCell ⟨k5, 2, none⟩ (.slice Ab nb cb)) kx k5 g x (List.replicate m Bg.zero) ⟨sb, Ab, nb, cb, -x.k⟩ from
      ⟨HB2.out.trans (hbz.mono HB2.out.size), KX2.out.below hbz, by rw [List.length_replicate]; exact HS3.out.1, (((hrw.mono HB2.out.size (Nat.le_refl _)).set_other kb (by decide) (by decide) 0 _).set_other s0 (by decide) (by decide) 1 _).set_other s1 (by decide) (by decide) 2 _, (((hbd.mono HB2.out.size (Nat.le_refl _)).set_other kb (by decide) 0 _).set_other s0 (by decide) 1 _).set_other s1 (by decide) 2 _, Nat.le_trans HB2.out.size hk5⟩)
    clear s0 s1 hbz HS3 hrw hbd kb e7 e8
    obtain ⟨Wz, hWz⟩ : ∃ Wz, Wz = ((W.setCell ⟨k5, 0, none⟩ (.slice (some ⟨g, 0, none⟩) m m)).setCell ⟨k5, 1, none⟩ (.bool sb)).setCell ⟨k5, 2, none⟩ (.slice Ab nb cb) := ⟨_, rfl⟩
    rw [← hWz] at HOS
    go_upto_region 4 with fail
    rw [← hWz]
    clear hWz b0 b1 b2 f0 f1 f2 hS hk5
    generalize vs = vs' at *
    have HZ0 := Lib.hid (show (List.replicate m Bg.zero).map Bg.z = ofZ (x.C.take 0) m by rw [List.map_replicate]; rfl)
    have HL0 := Lib.hid (show (List.replicate m Bg.zero).length = m from List.length_replicate)
    generalize List.replicate m Bg.zero = L0 at HOS HZ0 HL0
    obtain ⟨bb, hbb⟩ : ∃ b, b = (⟨sb, Ab, nb, cb, -x.k⟩ : Bg) := ⟨_, rfl⟩
    have HBZ := Lib.hid (show bb.z = -x.k by rw [hbb])
    rw [← hbb] at HOS
    clear hbb
    have c1 : Wz.cell? ⟨kx, 1, none⟩ = some (.slice x.A x.n x.c) := HOS.out.kxb.cell 1
    go_wp2
    clear c1
    go_loopw [25] (fun s25 wr => ∃ (k : Nat) (L : List Bg), s25 = .int .i64 (k : Int) ∧ k ≤ x.n ∧ L.length = m ∧ L.map Bg.z = ofZ (x.C.take k) m ∧ OS w wr kx k5 g x L bb) (fun s25 _ => x.n - (intOf s25).toNat)
    case atStart => exact ⟨0, L0, rfl, Nat.zero_le _, HL0.out, HZ0.out, HOS.out⟩
    case round =>
      obtain ⟨k, L, rfl, hkn, hL, hz, hos⟩ := hrel
      generalize wr = X0 at *
      have HL := Lib.hid hL
      have HZ := Lib.hid hz
      have HO := Lib.hid hos
      clear hL hz hos
      by_cases hlt : k < x.n
      · have hki : (k : Int) < (x.n : Int) := by omega
        have hk0 : (0 : Int) ≤ (k : Int) := by omega
        have hkC : k < x.C.length := by rw [HXL.out]; exact hlt
        obtain ⟨bA, off, eA, -, hc⟩ := at2 (f := cfc) (fun _ => rfl) H.out.1 (show 0 < x.n by omega)
        obtain ⟨d0, d1⟩ := hc X0 HO.out.below k hkC _ _ rfl
        have HPB := Lib.hid (HBD.out _ (List.getElem_mem hkC))
        have HPI := Lib.hid (H.out.2.2.2 _ (List.getElem_mem hkC))
        have HSN := Lib.hid (ofZ_snoc x.C m k hkC)
        clear hc
        generalize x.C[k] = p at *
        obtain ⟨pv, pn⟩ := p
        dsimp only at HSN HPB HPI d0 d1
        obtain ⟨iv, rfl⟩ : ∃ iv : Nat, pv = (iv : Int) := ⟨pv.toNat, by have := HPB.out; omega⟩
        have hivm : iv < m := by have := HPB.out; omega
        have hivi : (iv : Int) < (m : Int) := by omega
        have hiv0 : (0 : Int) ≤ (iv : Int) := by omega
        have hivL : iv < L.length := by rw [HL.out]; exact hivm
        have HSN := Lib.hid (show ofZ (x.C.take (k + 1)) m = (ofZ (x.C.take k) m).set iv pn by have := HSN.out; rw [Int.toNat_natCast] at this; exact this)
        obtain ⟨k7, hk7⟩ : ∃ k7, k7 = X0.heap.size := ⟨_, rfl⟩
        obtain ⟨X1, hX1⟩ : ∃ X1, X1 = X0.alloc (.cells #[.int .i64 (iv : Int), .int .i64 pn] 71) := ⟨_, rfl⟩
        have hb1 : Below X0.heap.size X0 X1 := by rw [hX1]; exact (Below.refl _ _).alloc (Nat.le_refl _) _
        have K7 := Lib.hid (show Blk X1 k7 71 #[.int .i64 (iv : Int), .int .i64 pn] by rw [hX1]; exact Blk.new_ hk7 rfl)
        have HO1 := Lib.hid (HO.out.keep hb1)
        clear hb1
        rw [eA]
        go_upto_region 7 with fail
        rw [← hk7, ← hX1]
        clear hk7 hX1 d0 d1
        have q0 : X1.cell? ⟨k5, 0, none⟩ = some (.slice (some ⟨g, 0, none⟩) m m) := by have := HO1.out.k5b.cell 0; rw [HL.out] at this; exact this
        have e0 : X1.cell? ⟨k7, 0, none⟩ = some (.int .i64 (iv : Int)) := K7.out.cell 0
        have e1 : X1.cell? ⟨k7, 1, none⟩ = some (.int .i64 pn) := K7.out.cell 1
        have hb0 : Below X1.heap.size X1 X1.drew := below_drew (Below.refl _ _)
        refine wp_region_mix 8 (fun w' => Below X1.heap.size X1 w') (by kernel_rfl) (by decide) ?_
        have HOy := Lib.hid (HO1.out.keep hb0)
        generalize X1.drew = y0 at hb0 HOy ⊢
        have CN := Lib.hid (Of_any pn y0 HPI.out.2.1 HPI.out.2.2)
        refine wpM_take (i := 0) (oi := ⟨some 29, _, _, _, _, _⟩) (v := ?_) rfl (by decide +kernel) (by decide +kernel) (by decide +kernel) (fun _ _ _ h => h) (Or.inl ⟨by rfl, ?_⟩) hb0 ?_
        case refine_2 =>
          intro w' hSw
          have q0' := keepcell hSw q0
          have e0' := keepcell hSw e0
          have e1' := keepcell hSw e1
          go_simp
          try (with_reducible rfl)
        try simp only [Act.put, List.setIfInBounds_toArray, List.set_cons_zero, List.set_cons_succ]
        refine wpM_take (i := 1) (oi := ⟨some 30, _, _, _, _, _⟩) (v := ?_) rfl (by decide +kernel) (by decide +kernel) (by decide +kernel) (fun _ _ _ h => h) (Or.inl ⟨by rfl, ?_⟩) hb0 ?_
        case refine_2 =>
          intro w' hSw
          have q0' := keepcell hSw q0
          have e0' := keepcell hSw e0
          have e1' := keepcell hSw e1
          go_simp
          try (with_reducible rfl)
        try simp only [Act.put, List.setIfInBounds_toArray, List.set_cons_zero, List.set_cons_succ]
        refine wpM_take (i := 2) (oi := ⟨some 31, _, _, _, _, _⟩) (v := ?_) rfl (by decide +kernel) (by decide +kernel) (by decide +kernel) (fun _ _ _ h => h) (Or.inl ⟨by rfl, ?_⟩) hb0 ?_
        case refine_2 =>
          intro w' hSw
          have q0' := keepcell hSw q0
          have e0' := keepcell hSw e0
          have e1' := keepcell hSw e1
          go_simp
          try (with_reducible rfl)
        try simp only [Act.put, List.setIfInBounds_toArray, List.set_cons_zero, List.set_cons_succ]
        refine wpM_take (i := 3) (oi := ⟨some 32, _, _, _, _, _⟩) (v := ?_) rfl (by decide +kernel) (by decide +kernel) (by decide +kernel) (fun _ _ _ h => h) (Or.inl ⟨by rfl, ?_⟩) hb0 ?_
        case refine_2 =>
          intro w' hSw
          have q0' := keepcell hSw q0
          have e0' := keepcell hSw e0
          have e1' := keepcell hSw e1
          go_simp
          try (with_reducible rfl)
        try simp only [Act.put, List.setIfInBounds_toArray, List.set_cons_zero, List.set_cons_succ]
        refine wpM_take (i := 4) (oi := ⟨some 33, _, _, _, _, _⟩) (v := ?_) rfl (by decide +kernel) (by decide +kernel) (by decide +kernel) (fun _ _ _ h => h) (Or.inl ⟨by rfl, ?_⟩) hb0 ?_
        case refine_2 =>
          intro w' hSw
          have q0' := keepcell hSw q0
          have e0' := keepcell hSw e0
          have e1' := keepcell hSw e1
          go_simp
          try (with_reducible rfl)
        try simp only [Act.put, List.setIfInBounds_toArray, List.set_cons_zero, List.set_cons_succ]
        refine wpM_take (i := 5) (oi := ⟨some 34, _, _, _, _, _⟩) (v := ?_) rfl (by decide +kernel) (by decide +kernel) (by decide +kernel) (fun _ _ _ h => h) (Or.inl ⟨by rfl, ?_⟩) hb0 ?_
        case refine_2 =>
          intro w' hSw
          have q0' := keepcell hSw q0
          have e0' := keepcell hSw e0
          have e1' := keepcell hSw e1
          go_simp
          try (with_reducible rfl)
        try simp only [Act.put, List.setIfInBounds_toArray, List.set_cons_zero, List.set_cons_succ]
        refine wpM_step (i := 6) (o := ⟨some 35, _, _, _, _, _⟩) rfl (by decide +kernel) (by decide) (fun KK hK => ?_)
        go_simp
        refine CN.out.mono ?_
        rintro e y1 ⟨v1, rfl, hv1, hb1⟩
        have hb01 : Below X1.heap.size X1 y1 := hb0.trans (hb1.mono hb0.size)
        have HOy1 := Lib.hid (HOy.out.keep hb1)
        have HV1 := Lib.hid (hv1.mono HOy.out.below.size (Nat.le_refl _))
        clear hv1 hb1
        obtain ⟨sv, Av, nv, cv, rfl⟩ := HV1.out.expose
        refine hK.out _ _ hb01 ?_
        clear hK KK
        try simp only [Act.put, List.setIfInBounds_toArray, List.set_cons_zero, List.set_cons_succ]
        refine wpM_take (i := 7) (oi := ⟨some 36, _, _, _, _, _⟩) (v := ?_) rfl (by decide +kernel) (by decide +kernel) (by decide +kernel) (fun _ _ _ h => h) (Or.inl ⟨by rfl, ?_⟩) hb01 ?_
        case refine_2 =>
          intro w' hSw
          have q0' := keepcell hSw q0
          have e0' := keepcell hSw e0
          have e1' := keepcell hSw e1
          go_simp
          try (with_reducible rfl)
        try simp only [Act.put, List.setIfInBounds_toArray, List.set_cons_zero, List.set_cons_succ]
        refine wpM_done (by decide +kernel) ?_
        simp only [List.drop_succ_cons, List.drop_zero]
        clear q0 e0 e1
        obtain ⟨⟨uu0, g0⟩, z0, ⟨uu1, g1⟩, z1⟩ := (HOy1.out.rw).ready iv hivL sv
        have HSTF := Lib.hid (HOy1.out.setL iv hivL ⟨sv, Av, nv, cv, pn⟩ HV1.out)
        go_wp2
        go_roundw
        case rel => exact ⟨k + 1, _, by go_num, hlt, by rw [List.length_set]; exact HL.out, by rw [List.map_set, HZ.out, HSN.out], HSTF.out⟩
        case measure => simp [intOf]; omega
      · obtain rfl : k = x.n := by omega
        have hlt2 : ¬ ((x.n : Int) < (x.n : Int)) := by omega
        have HZF := Lib.hid (show L.map Bg.z = ofZ x.C m by rw [HZ.out, List.take_of_length_le (by rw [HXL.out]; exact Nat.le_refl _)])
        have q0 : X0.cell? ⟨k5, 0, none⟩ = some (.slice (some ⟨g, 0, none⟩) m m) := by have := HO.out.k5b.cell 0; rw [HL.out] at this; exact this
        have q1 : X0.cell? ⟨k5, 1, none⟩ = some (.bool bb.neg) := HO.out.k5b.cell 1
        have q2 : X0.cell? ⟨k5, 2, none⟩ = some (.slice bb.A bb.n bb.c) := HO.out.k5b.cell 2
        have HG1 := Lib.hid (show Gd X0 ⟨some ⟨g, 0, none⟩, m, m, L, bb⟩ 2 from by have := Gd.of_iqo (HO.out.iqo (by rw [HL.out]; omega)); rw [HL.out] at this; exact this)
        obtain ⟨k8, hk8⟩ : ∃ k8, k8 = X0.heap.size := ⟨_, rfl⟩
        obtain ⟨X1, hX1⟩ : ∃ X1, X1 = X0.alloc (.cells #[.slice (some ⟨g, 0, none⟩) m m, .bool bb.neg, .slice bb.A bb.n bb.c] 44) := ⟨_, rfl⟩
        have hb1 : Below X0.heap.size X0 X1 := by rw [hX1]; exact (Below.refl _ _).alloc (Nat.le_refl _) _
        have K8 := Lib.hid (show Blk X1 k8 44 #[.slice (some ⟨g, 0, none⟩) m m, .bool bb.neg, .slice bb.A bb.n bb.c] by rw [hX1]; exact Blk.new_ hk8 rfl)
        have HO1 := Lib.hid (HO.out.keep hb1)
        have HG2 := Lib.hid (HG1.out.mono (N44.of_below hb1))
        have HK8 := Lib.hid (show w.heap.size ≤ k8 by rw [hk8]; exact HO.out.below.size)
        clear hb1
        go_upto_region 10 with fail
        rw [← hk8, ← hX1]
        clear hk8 hX1 q0 q1 q2
        have c2 : X1.cell? ⟨kx, 2, none⟩ = some (.bool x.e) := HO1.out.kxb.cell 2
        obtain ⟨eq, heq⟩ : ∃ e, x.e = e := ⟨_, rfl⟩
        rw [heq] at c2
        have HEQ := Lib.hid heq
        clear heq
        cases eq with
        | false =>
          go_wp2
          go_ret
          refine ⟨k8, 1, [⟨some ⟨g, 0, none⟩, m, m, L, bb⟩], rfl, blk_at K8.out rfl rfl, fun q hq => ?_, ?_, HO1.out.below⟩
          · rw [List.mem_singleton.1 hq]; exact HG2.out
          · rw [HZM.out]
            unfold ofM
            rw [HEQ.out, List.map_cons, List.map_nil]
            show [(L.map Bg.z, bb.z)] = _
            rw [HZF.out, HBZ.out]
            rfl
        | true =>
          obtain ⟨i0, hi, hz0, hz1, hz2⟩ := info_parts i44
          go_upto_region 11 with fail
          clear c2
          have q0 : X1.cell? ⟨k5, 0, none⟩ = some (.slice (some ⟨g, 0, none⟩) m m) := by have := HO1.out.k5b.cell 0; rw [HL.out] at this; exact this
          have q1 : X1.cell? ⟨k5, 1, none⟩ = some (.bool bb.neg) := HO1.out.k5b.cell 1
          have q2 : X1.cell? ⟨k5, 2, none⟩ = some (.slice bb.A bb.n bb.c) := HO1.out.k5b.cell 2
          have hb0 : Below X1.heap.size X1 X1.drew := below_drew (Below.refl _ _)
          refine wp_region_mix 9 (fun w' => Below X1.heap.size X1 w') (by kernel_rfl) (by decide) ?_
          have HOy := Lib.hid (HO1.out.keep hb0)
          have HG3 := Lib.hid (HG2.out.mono (N44.of_below hb0))
          have K8y := Lib.hid (K8.out.below hb0)
          generalize X1.drew = y0 at hb0 HOy HG3 K8y ⊢
          refine wpM_take (i := 0) (oi := ⟨some 42, _, _, _, _, _⟩) (v := ?_) rfl (by decide +kernel) (by decide +kernel) (by decide +kernel) (fun _ _ _ h => h) (Or.inl ⟨by rfl, ?_⟩) hb0 ?_
          case refine_2 =>
            intro w' hSw
            have q0' := keepcell hSw q0
            have q1' := keepcell hSw q1
            have q2' := keepcell hSw q2
            go_simp
            try (with_reducible rfl)
          try simp only [Act.put, List.setIfInBounds_toArray, List.set_cons_zero, List.set_cons_succ]
          refine wpM_take (i := 1) (oi := ⟨some 43, _, _, _, _, _⟩) (v := ?_) rfl (by decide +kernel) (by decide +kernel) (by decide +kernel) (fun _ _ _ h => h) (Or.inl ⟨by rfl, ?_⟩) hb0 ?_
          case refine_2 =>
            intro w' hSw
            have q0' := keepcell hSw q0
            have q1' := keepcell hSw q1
            have q2' := keepcell hSw q2
            go_simp
            try (with_reducible rfl)
          try simp only [Act.put, List.setIfInBounds_toArray, List.set_cons_zero, List.set_cons_succ]
          refine wpM_take (i := 2) (oi := ⟨some 44, _, _, _, _, _⟩) (v := ?_) rfl (by decide +kernel) (by decide +kernel) (by decide +kernel) (fun _ _ _ h => h) (Or.inl ⟨by rfl, ?_⟩) hb0 ?_
          case refine_2 =>
            intro w' hSw
            have q0' := keepcell hSw q0
            have q1' := keepcell hSw q1
            have q2' := keepcell hSw q2
            go_simp
            try (with_reducible rfl)
          try simp only [Act.put, List.setIfInBounds_toArray, List.set_cons_zero, List.set_cons_succ]
          refine wpM_take (i := 4) (oi := ⟨some 46, _, _, _, _, _⟩) (v := ?_) rfl (by decide +kernel) (by decide +kernel) (by decide +kernel) (fun _ _ _ h => h) (Or.inl ⟨by rfl, ?_⟩) hb0 ?_
          case refine_2 =>
            intro w' hSw
            have q0' := keepcell hSw q0
            have q1' := keepcell hSw q1
            have q2' := keepcell hSw q2
            go_simp
            try (with_reducible rfl)
          try simp only [Act.put, List.setIfInBounds_toArray, List.set_cons_zero, List.set_cons_succ]
          refine wpM_take (i := 5) (oi := ⟨some 47, _, _, _, _, _⟩) (v := ?_) rfl (by decide +kernel) (by decide +kernel) (by decide +kernel) (fun _ _ _ h => h) (Or.inl ⟨by rfl, ?_⟩) hb0 ?_
          case refine_2 =>
            intro w' hSw
            have q0' := keepcell hSw q0
            have q1' := keepcell hSw q1
            have q2' := keepcell hSw q2
            go_simp
            try (with_reducible rfl)
          try simp only [Act.put, List.setIfInBounds_toArray, List.set_cons_zero, List.set_cons_succ]
          have CN := Lib.hid (negated_any y0 (some ⟨g, 0, none⟩) m m L 2 (HG3.out.nrm.1) (by decide) (by omega))
          refine wpM_step (i := 3) (o := ⟨some 45, _, _, _, _, _⟩) rfl (by decide +kernel) (by decide) (fun KK hK => ?_)
          go_simp
          refine CN.out.mono ?_
          rintro e y1 ⟨gn, Ln, rfl, hnz, hnl, hnr, hb1⟩
          have hb01 : Below X1.heap.size X1 y1 := hb0.trans (hb1.mono hb0.size)
          have HOy1 := Lib.hid (HOy.out.keep hb1)
          have HG4 := Lib.hid (HG3.out.mono (N44.of_below hb1))
          have K8y1 := Lib.hid (K8y.out.below hb1)
          have HNZ := Lib.hid hnz
          have HNL := Lib.hid hnl
          have HNR := Lib.hid (hnr.mono HOy.out.below.size (Nat.le_refl _))
          clear hb1 hnz hnl hnr
          refine hK.out _ _ hb01 ?_
          clear hK KK
          try simp only [Act.put, List.setIfInBounds_toArray, List.set_cons_zero, List.set_cons_succ]
          have CM := Lib.hid (Neg_any bb.val bb.z 2 y1 HOy1.out.bd.bg (by decide))
          unfold Bg.val at CM
          refine wpM_step (i := 6) (o := ⟨some 48, _, _, _, _, _⟩) rfl (by decide +kernel) (by decide) (fun KK hK => ?_)
          go_simp
          refine CM.out.mono ?_
          rintro e y2 ⟨v2, rfl, hv2, hb2⟩
          have hb02 : Below X1.heap.size X1 y2 := hb01.trans (hb2.mono hb01.size)
          have HOy2 := Lib.hid (HOy1.out.keep hb2)
          have HG5 := Lib.hid (HG4.out.mono (N44.of_below hb2))
          have K8y2 := Lib.hid (K8y1.out.below hb2)
          have HNR2 := Lib.hid (HNR.out.below hb2)
          have HV2 := Lib.hid (hv2.mono HOy1.out.below.size (Nat.le_refl _))
          clear hv2 hb2
          obtain ⟨sv, Av, nv, cv, rfl⟩ := HV2.out.expose
          refine hK.out _ _ hb02 ?_
          clear hK KK
          try simp only [Act.put, List.setIfInBounds_toArray, List.set_cons_zero, List.set_cons_succ]
          refine wpM_take (i := 7) (oi := ⟨some 49, _, _, _, _, _⟩) (v := ?_) rfl (by decide +kernel) (by decide +kernel) (by decide +kernel) (fun _ _ _ h => h) (Or.inl ⟨by rfl, ?_⟩) hb02 ?_
          case refine_2 =>
            intro w' hSw
            skip
            go_simp
            try (with_reducible rfl)
          try simp only [Act.put, List.setIfInBounds_toArray, List.set_cons_zero, List.set_cons_succ]
          have HI2 := Lib.hid (Gd.of_iqo (w := y2) (B := w.heap.size) (K := 2) (q := ⟨some ⟨gn, 0, none⟩, m, m, Ln, ⟨sv, Av, nv, cv, -bb.z⟩⟩) ⟨HNL.out.symm, by dsimp only; rw [HNL.out]; omega, .inr ⟨gn, rfl, HNR2.out⟩, HV2.out⟩)
          obtain ⟨y3, hy3⟩ : ∃ y3, y3 = y2.alloc (.cells #[.slice (some ⟨gn, 0, none⟩) m m, .bool sv, .slice Av nv cv] 44) := ⟨_, rfl⟩
          obtain ⟨g8, hg8⟩ : ∃ g8, g8 = y2.heap.size := ⟨_, rfl⟩
          have hb3 : Below y2.heap.size y2 y3 := by rw [hy3]; exact (Below.refl _ _).alloc (Nat.le_refl _) _
          have hb03 : Below X1.heap.size X1 y3 := hb02.trans (hb3.mono hb02.size)
          have HOy3 := Lib.hid (HOy2.out.keep hb3)
          have HG6 := Lib.hid (HG5.out.mono (N44.of_below hb3))
          have HI3 := Lib.hid (HI2.out.mono (N44.of_below hb3))
          have K8y3 := Lib.hid (K8y2.out.below hb3)
          have HSRC := Lib.hid (src_blk (P := Try.prog) (W := y3) (g := g8) (e := 44) (t := 30) (size := 3) (xs := Iq.cells ⟨some ⟨gn, 0, none⟩, m, m, Ln, ⟨sv, Av, nv, cv, -bb.z⟩⟩) (n := 1) (c := 1) Try.underlying30 rfl (fun u hu => iqs_one [⟨some ⟨gn, 0, none⟩, m, m, Ln, ⟨sv, Av, nv, cv, -bb.z⟩⟩] u (by simpa using hu)) (by rw [hy3]; exact Blk.new_ hg8 rfl))
          clear hb3
          refine wpM_step (i := 8) (o := ⟨some 50, _, _, _, _, _⟩) rfl (by decide +kernel) (by decide) (fun KK hKK => ?_)
          go_simp
          rw [← hy3, ← hg8]
          refine hKK.out _ _ hb03 ?_
          clear hKK KK hy3 hg8
          try simp only [Act.put, List.setIfInBounds_toArray, List.set_cons_zero, List.set_cons_succ]
          refine wpM_done (by decide +kernel) ?_
          simp only [List.drop_succ_cons, List.drop_zero]
          clear q0 q1 q2
          have HOW := Lib.hid (show y3.ownsRow w.heap.size 44 3 (.slice (some ⟨k8, 0, none⟩) 1 1) 1 (Iq.cells ⟨some ⟨g, 0, none⟩, m, m, L, bb⟩) from ⟨rfl, .inr ⟨k8, 1, _, rfl, HK8.out, K8y3.out, Nat.le_refl _, by unfold maxLen; decide, rfl, rfl⟩⟩)
          have HSZ := Lib.hid HOy3.out.below.size
          refine wpList_append_src _ rfl (.tmp 42) (.tmp 50) 30 30 rfl w.heap.size 44 i0 _ 3 56 Try.underlying30 hi hz0 hz1 hz2 rfl (.slice (some ⟨k8, 0, none⟩) 1 1) 1 (Iq.cells ⟨some ⟨g, 0, none⟩, m, m, L, bb⟩) rfl HOW.out _ 1 (Iq.cells ⟨some ⟨gn, 0, none⟩, m, m, Ln, ⟨sv, Av, nv, cv, -bb.z⟩⟩) rfl HSRC.out (by unfold maxLen; decide) (by decide) HSZ.out ?_
          intro v' y4 own' hg _
          have HBF := Lib.hid (HOy3.out.below.grown hg HSZ.out (fun j hj => (HOW.out.lt j hj).1))
          have HN4 := Lib.hid (N44.of_grown HOW.out hg)
          obtain ⟨g9, c9, rfl, hat⟩ : ∃ gg cc, v' = .slice (some ⟨gg, 0, none⟩) 2 cc ∧ At y4 (some ⟨gg, 0, none⟩) 2 3 ([(⟨some ⟨g, 0, none⟩, m, m, L, bb⟩ : Iq), ⟨some ⟨gn, 0, none⟩, m, m, Ln, ⟨sv, Av, nv, cv, -bb.z⟩⟩].flatMap Iq.cells) := by
            obtain ⟨A', c', e, hat, -, -⟩ := At.of_own own'
            rcases own'.2 with ⟨_, h0⟩ | ⟨g9, cap, cur, e9, -⟩
            · exact absurd h0 (by decide)
            · refine ⟨g9, cap, e9, ?_⟩
              rw [e] at e9
              injection e9 with ea _ _
              rw [← ea]
              simpa using hat
          have HAT := Lib.hid hat
          have HF1 := Lib.hid (HG6.out.mono HN4.out)
          have HF2 := Lib.hid (HI3.out.mono HN4.out)
          clear own' hg hat HSRC
          go_wp2
          go_ret
          refine ⟨g9, c9, [⟨some ⟨g, 0, none⟩, m, m, L, bb⟩, ⟨some ⟨gn, 0, none⟩, m, m, Ln, ⟨sv, Av, nv, cv, -bb.z⟩⟩], rfl, HAT.out, fun q hq => ?_, ?_, HBF.out⟩
          · simp only [List.mem_cons, List.not_mem_nil, or_false] at hq
            rcases hq with rfl | rfl
            · exact HF1.out
            · exact HF2.out
          · rw [HZM.out]
            unfold ofM
            rw [HEQ.out, if_pos rfl, List.map_cons, List.map_cons, List.map_nil]
            show [(L.map Bg.z, bb.z), (Ln.map Bg.z, -bb.z)] = _
            rw [HNZ.out, HZF.out, HBZ.out, Int.neg_neg, ← HZF.out, List.map_map]
            rfl
end Go.Proofs.Ythfolccofjaknaa
