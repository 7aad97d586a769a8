/- Law BoxindexNoAliasing: for every input the call returns true, and its arguments read afterwards as before. -/
import Derived.Test.YtgenpldldgplhaaBo5
import Derived.Test.YtgenpldldgplhaaMi2
import Derived.Test.YtgenpldldgplhaaBfr
import Derived.Test.YtgenpldldgplhaaBpy
import Derived.Test.YtgenpldldgplhaaBaw
import Derived.Deep.Cut
namespace Go.Proofs.Ytgenpldldgplhaa
open Go.ChangeShapes Go.WideShapes Go.ChangeAt Go.RowKit Go.ChangeMaps

theorem put_len (L : List It) (x : It) : (putL L x).length ≤ L.length + 1 := by
  unfold putL
  rw [ins_len]
  have : (delL L x.id).length ≤ L.length := List.length_filter_le _ _
  omega
structure RS (w2 w3 W : World) (x M : Nat) (L : List It) : Prop where
  ix : IX W w2.heap.size x M L
  kc : KC w3 W
  bl : Below w2.heap.size w2 W
theorem RS.below {w2 w3 W W' : World} {x M : Nat} {L : List It} (h : RS w2 w3 W x M L) (hb : Below W.heap.size W W') : RS w2 w3 W' x M L := ⟨h.ix.below hb, h.kc.trans (KC.of_below hb), h.bl.trans (hb.mono h.bl.size)⟩
theorem RS.next {w2 w3 W W' : World} {x M M' : Nat} {L L' : List It} (h : RS w2 w3 W x M L) (hi : IX W' w2.heap.size x M' L') (hk : KC W W') (hb : ∀ w0, Below w2.heap.size w0 W → Below w2.heap.size w0 W') : RS w2 w3 W' x M' L' := ⟨hi, h.kc.trans hk, hb _ h.bl⟩
theorem own_kc {w w' : World} {b : Nat} {T : TypeId} {z n : Nat} {v : Value} {xs : List Value} (h : w.ownsRow b T z v n xs) (hc : KC w w') : w'.ownsRow b T z v n xs := by
  refine ⟨h.1, ?_⟩
  rcases h.2 with h2 | ⟨g, cap, cur, e, hb, hh, r⟩
  · exact .inl h2
  · exact .inr ⟨g, cap, cur, e, hb, hc.block _ _ _ _ hh, r⟩
theorem RS.wild {w2 w3 W W' : World} {x M n z : Nat} {T : TypeId} {L : List It} {A : Option Addr} (h : RS w2 w3 W x M L) (hw : Wild W W' A n z T) (hT : T ≠ 63) (h3 : w2.heap.size ≤ w3.heap.size)
    (hr : ∀ g, A.map (·.block) = some g → w3.heap.size ≤ g ∧ (∃ cs, Blk W g T cs) ∧ ∀ it ∈ L, 0 < it.n → ∀ b off, it.A = some ⟨b, off, none⟩ → b ≠ g) : RS w2 w3 W' x M L :=
  ⟨h.ix.grownR hw.1 (fun g hg => by
    obtain ⟨-, ⟨cs, hk⟩, hf⟩ := hr g hg
    exact ⟨cs, T, hk, hT, hf⟩), h.kc.grownR hw.1 (fun g hg => (hr g hg).1), h.bl.grown hw.1 h.bl.size (fun j hj => Nat.le_trans h3 (hr j hj).1)⟩
theorem block_of {A : Option Addr} {b off : Nat} (e : A = some ⟨b, off, none⟩) : A.map (·.block) = some b := by rw [e]; rfl
set_option maxRecDepth 100000 in
set_option maxHeartbeats 4000000 in
theorem boxindexNoAliasing_walk (A : Option Addr) (n c : Nat) (R : List Ot) (t1 : Int) (A1 : Option Addr) (n1 c1 : Nat) (R1 : List Sd) (w : World) (k0 : Ots w A n R) (l0 : n * 48 ≤ 140737488351232) (g0 : ∀ x ∈ R, Sds w x.A x.n x.R ∧ x.n ≤ 9223372036854775807 ∧ w64 x.id ∧ w64 x.t ∧ 0 ≤ x.kd ∧ x.kd < 256) (k1 : Sds w A1 n1 R1) (l1 : n1 ≤ c1 ∧ c1 ≤ 9223372036854775807) (g1 : w64 t1) : Calls Try.prog 8 #[.slice A n c, .agg #[.int .i64 t1, .slice A1 n1 c1]] w fun e w' => e = .returned (.bool true) ∧ Below w.heap.size w w' := by
  have hn0 : n ≤ 9223372036854775807 := by omega
  have hn1 : n1 ≤ 9223372036854775807 := by omega
  obtain ⟨i0, hi, hz0, hz1, hz2⟩ := info_parts Try.info34
  have HI := Lib.hid hi
  have HZ0 := Lib.hid hz0
  have HZ1 := Lib.hid hz1
  have HZ2 := Lib.hid hz2
  obtain ⟨w0, hw0⟩ : ∃ W, W = w.alloc (.cells #[.int .i64 t1, .slice A1 n1 c1] 32) := ⟨_, rfl⟩
  have HB0 := Lib.hid (show Below w.heap.size w w0 by rw [hw0]; exact (Below.refl _ w).alloc (Nat.le_refl _) _)
  have KX0 := Lib.hid (show Blk w0 w.heap.size 32 #[.int .i64 t1, .slice A1 n1 c1] by rw [hw0]; exact Blk.new _ _ _)
  have HK := Lib.hid k0
  have HG := Lib.hid g0
  have HS1 := Lib.hid k1
  have HRL := Lib.hid k0.len
  clear hi hz0 hz1 hz2 k0 g0 k1
  go_enter Try.func8, Try.ntmps8
  go_wp2_with fail
  rw [← hw0]
  clear hw0
  refine (awake_any w0).mono ?_
  rintro e1 w1 ⟨rfl, hb1⟩
  have HB1 := Lib.hid (HB0.out.trans (hb1.mono HB0.out.size))
  have KX1 := Lib.hid (KX0.out.below hb1)
  have CF := Lib.hid (show ∀ W (_ : Below w.heap.size w W) (A' : Option Addr) (c' : Nat), Ots W A' (n + 1) (R ++ [⟨0, 0, t1, A1, n1, c1, R1⟩]) → Calls Try.prog 10 #[.slice A' (n + 1) c', .int .i64 21] W (FrP (R ++ [⟨0, 0, t1, A1, n1, c1, R1⟩]) (n + 1) 21 W) from fun W hW A' c' h =>
    Fair_any A' (n + 1) c' _ 21 W h (by omega) (fun o ho => by
      rcases List.mem_append.1 ho with ho | ho
      · exact ⟨(HG.out o ho).1.below hW, (HG.out o ho).2.1⟩
      · rw [List.mem_singleton.1 ho]
        exact ⟨HS1.out.below hW, hn1⟩))
  clear hb1
  have d0 : w1.cell? ⟨w.heap.size, 0, none⟩ = some (.int .i64 t1) := KX1.out.cell 0
  have d1 : w1.cell? ⟨w.heap.size, 1, none⟩ = some (.slice A1 n1 c1) := KX1.out.cell 1
  go_upto_region 3 with fail
  have hb0 : Below w1.heap.size w1 w1.drew := below_drew (Below.refl _ _)
  refine wp_region_mix 6 (fun w' => Below w1.heap.size w1 w') (by kernel_rfl) (by decide) ?_
  generalize w1.drew = y0 at hb0 ⊢
  refine wpM_take (i := 1) (oi := ⟨some 15, _, _, _, _, _⟩) (v := ?_) rfl (by decide +kernel) (by decide +kernel) (by decide +kernel) (fun _ _ _ h => h) (Or.inl ⟨by rfl, ?_⟩) hb0 ?_
  case refine_2 =>
    intro w' hSw
    go_simp
    try (with_reducible rfl)
  try simp only [Act.put, List.setIfInBounds_toArray, List.set_cons_zero, List.set_cons_succ]
  refine wpM_take (i := 3) (oi := ⟨some 17, _, _, _, _, _⟩) (v := ?_) rfl (by decide +kernel) (by decide +kernel) (by decide +kernel) (fun _ _ _ h => h) (Or.inl ⟨by rfl, ?_⟩) hb0 ?_
  case refine_2 =>
    intro w' hSw
    have d0' := keepcell hSw d0
    have d1' := keepcell hSw d1
    go_simp
    try (with_reducible rfl)
  try simp only [Act.put, List.setIfInBounds_toArray, List.set_cons_zero, List.set_cons_succ]
  refine wpM_take (i := 4) (oi := ⟨some 18, _, _, _, _, _⟩) (v := ?_) rfl (by decide +kernel) (by decide +kernel) (by decide +kernel) (fun _ _ _ h => h) (Or.inl ⟨by rfl, ?_⟩) hb0 ?_
  case refine_2 =>
    intro w' hSw
    go_simp
    try (with_reducible rfl)
  try simp only [Act.put, List.setIfInBounds_toArray, List.set_cons_zero, List.set_cons_succ]
  refine wpM_chains (fun i => 14 + i) [0, 2, 5] (fun i v W => (i = 0 → ∃ g, v = .slice (some ⟨g, 0, none⟩) 0 0 ∧ Blk W g 34 #[] ∧ w1.heap.size ≤ g) ∧ (i = 2 → W.ownsRow w1.heap.size 34 4 v n (R.flatMap Ot.cells)) ∧ (i = 5 → ∃ g, v = .slice (some ⟨g, 0, none⟩) 1 1 ∧ Blk W g 34 #[.int .u8 0, .int .i64 0, .int .i64 t1, .slice A1 n1 c1]) ∧ True) (by decide +kernel) (fun i v W W' h0 hb => ⟨fun e => (fun h => let ⟨g, e, k, q⟩ := h; ⟨g, e, k.below hb, q⟩) (h0.1 e), fun e => (fun h => own_below h hb) (h0.2.1 e), fun e => (fun h => let ⟨g, e, k⟩ := h; ⟨g, e, k.below hb⟩) (h0.2.2.1 e), trivial⟩) hb0 ?_ ?_
  · refine List.forall_mem_cons.2 ⟨?_, List.forall_mem_cons.2 ⟨?_, List.forall_mem_cons.2 ⟨?_, List.forall_mem_nil _⟩⟩⟩
    · refine ⟨⟨some 14, _, _, _, _, _⟩, rfl, rfl, fun vs W K hS hd hK => ?_⟩
      simp only [puts, List.foldl_cons, List.foldl_nil, Act.put, List.setIfInBounds_toArray, List.set_cons_zero, List.set_cons_succ, Nat.reduceAdd, Nat.reduceSub] at hK ⊢
      go_simp
      have hb : Below W.heap.size W (W.alloc (.cells #[] 34)) := (Below.refl _ _).alloc (Nat.le_refl _) _
      exact hK _ _ (hS.trans (hb.mono hS.size)) hb ⟨fun _ => ⟨_, rfl, Blk.new _ _ _, hS.size⟩, fun e => absurd e (by decide), fun e => absurd e (by decide), trivial⟩
    · refine ⟨⟨some 16, _, _, _, _, _⟩, rfl, rfl, fun vs W K hS hd hK => ?_⟩
      obtain ⟨g, e1, k1, q1⟩ := (hd 0 (by decide) (by decide +kernel)).1 rfl
      simp only [puts, List.foldl_cons, List.foldl_nil, Act.put, List.setIfInBounds_toArray, List.set_cons_zero, List.set_cons_succ, Nat.reduceAdd, Nat.reduceSub] at hK ⊢
      simp only [e1] at hK ⊢
      rw [if_pos (by rfl)]
      refine wp_append_new W (.tmp 14) (.tmp 15) 22 22 (by rfl) w1.heap.size 34 i0 _ 4 48 Try.underlying22 HI.out HZ0.out HZ1.out HZ2.out rfl g q1 (by rfl) k1 (.slice A n c) n (R.flatMap Ot.cells) (by rfl) (At.src Try.underlying22 (HK.out.below (HB1.out.trans (hS.mono HB1.out.size))) (ot_one R) (by decide)) (by unfold maxLen; omega) (by omega) ?_
      intro v' W' ho hb
      exact hK _ _ (hS.trans (hb.mono hS.size)) hb ⟨fun e => absurd e (by decide), fun _ => ho, fun e => absurd e (by decide), trivial⟩
    · refine ⟨⟨some 19, _, _, _, _, _⟩, rfl, rfl, fun vs W K hS hd hK => ?_⟩
      simp only [puts, List.foldl_cons, List.foldl_nil, Act.put, List.setIfInBounds_toArray, List.set_cons_zero, List.set_cons_succ, Nat.reduceAdd, Nat.reduceSub] at hK ⊢
      go_simp
      have hb : Below W.heap.size W (W.alloc (.cells #[.int .u8 0, .int .i64 0, .int .i64 t1, .slice A1 n1 c1] 34)) := (Below.refl _ _).alloc (Nat.le_refl _) _
      exact hK _ _ (hS.trans (hb.mono hS.size)) hb ⟨fun e => absurd e (by decide), fun e => absurd e (by decide), fun _ => ⟨_, rfl, Blk.new _ _ _⟩, trivial⟩
  · intro vs W hS hd
    obtain o2 := (hd 2 (by decide)).2.1 rfl
    obtain ⟨g, e5, k5⟩ := (hd 5 (by decide)).2.2.1 rfl
    simp only [puts, List.foldl_cons, List.foldl_nil, Act.put, List.setIfInBounds_toArray, List.set_cons_zero, List.set_cons_succ, Nat.reduceAdd, Nat.reduceSub]
    simp only [e5]
    clear hd
    simp only [List.drop_succ_cons, List.drop_zero]
    refine wpList_append_src W rfl (.tmp 16) (.tmp 19) 22 22 rfl w1.heap.size 34 i0 _ 4 48 Try.underlying22 HI.out HZ0.out HZ1.out HZ2.out rfl _ n (R.flatMap Ot.cells) rfl o2 _ 1 [.int .u8 0, .int .i64 0, .int .i64 t1, .slice A1 n1 c1] rfl (src_blk Try.underlying22 rfl (ot_one [⟨0, 0, t1, A1, n1, c1, R1⟩]) k5) (by unfold maxLen; omega) (by omega) hS.size ?_
    intro v' W2 own' hg _
    have hb1 : Below w1.heap.size w1 W2 := grown_below hS hS.size o2 hg
    obtain ⟨A', c', rfl, hat, -, -⟩ := At.of_own own'
    have hot : Ots W2 A' (n + 1) (R ++ [⟨0, 0, t1, A1, n1, c1, R1⟩]) := by
      unfold Ots
      rw [List.flatMap_append]
      exact hat
    have HBW := Lib.hid (HB1.out.trans (hb1.mono HB1.out.size))
    have KXW := Lib.hid (KX1.out.below hb1)
    have HOT := Lib.hid hot
    clear hot hat own' hg o2 k5 e5 hb1 hS
    go_wp2_with fail
    refine (CF.out _ HBW.out _ _ HOT.out).mono ?_
    rintro e2 w2 ⟨q, rfl, hq, hb2⟩
    have HB2 := Lib.hid (HBW.out.trans (hb2.mono HBW.out.size))
    have KX2 := Lib.hid (KXW.out.below hb2)
    clear CF hb2 HOT HBW KXW HB1 KX1 HB0 KX0
    cases q
    · go_wp2
      go_ret
      exact ⟨rfl, HB2.out⟩
    obtain ⟨hn60, hn4⟩ := hq rfl
    have hn : n ≤ 20 := by omega
    have hn14 : n1 ≤ 4 := hn4 ⟨0, 0, t1, A1, n1, c1, R1⟩ (List.mem_append_right _ (List.mem_singleton.2 rfl))
    have HOK := Lib.hid (show OkO w2 R from fun o ho => ⟨(HG.out o ho).1.below HB2.out, by have := hn4 o (List.mem_append_left _ ho); omega, (HG.out o ho).2.2⟩)
    clear hq hn4 hn60 hn0 hn1
    have HKO := Lib.hid (HK.out.below HB2.out)
    have CP := Lib.hid (Play_any A n c R w2 HKO.out (by omega) HOK.out)
    go_wp2_with fail
    refine CP.out.mono ?_
    rintro e3 w3 ⟨x, A', m, c', M, L1, L2, rfl, hp⟩
    have HP := Lib.hid hp
    have hlm : L1.length = m := hp.ks.len.trans hp.row.len
    have hmn : m ≤ n := hp.n
    have HB3 := Lib.hid (HB2.out.trans (hp.bel.mono HB2.out.size))
    have KX3 := Lib.hid (KX2.out.below hp.bel)
    clear CP hp KX2 HKO HOK HK HG
    have hm40 : M ≤ 40 := by have := HP.out.M; omega
    have RS3 := Lib.hid (show RS w2 w3 w3 x M L1 from ⟨HP.out.ix, KC.refl _, HP.out.bel⟩)
    have HS3 := Lib.hid (HS1.out.below HB3.out)
    have h23 : w2.heap.size ≤ w3.heap.size := HP.out.bel.size
    have hid1 : w64 1 := (by decide : (Lit.int .i64 1).wf = true)
    have d0 : w3.cell? ⟨w.heap.size, 0, none⟩ = some (.int .i64 t1) := cell_kc RS3.out.kc (KX3.out.cell 0)
    have d1 : w3.cell? ⟨w.heap.size, 1, none⟩ = some (.slice A1 n1 c1) := cell_kc RS3.out.kc (KX3.out.cell 1)
    go_wp2_with fail
    clear d0 d1
    refine (To_own t1 A1 n1 c1 R1 w3 HS3.out (by omega)).mono ?_
    rintro e w4 ⟨A4, c4, rfl, ho4, hb4⟩
    obtain ⟨W5, hW5⟩ : ∃ W, W = w4.alloc (.cells #[.int .i64 t1, .slice A4 n1 c4] 40) := ⟨_, rfl⟩
    have hb5 : Below w4.heap.size w4 W5 := by rw [hW5]; exact (Below.refl _ _).alloc (Nat.le_refl _) _
    have RS5 := Lib.hid ((RS3.out.below hb4).below hb5)
    have HO5 := Lib.hid (own_below ho4 hb5)
    have K5 := Lib.hid (show Blk W5 w4.heap.size 40 #[.int .i64 t1, .slice A4 n1 c4] by rw [hW5]; exact Blk.new _ _ _)
    have h45 : w4.heap.size < W5.heap.size := K5.out.lt
    have HG4 := Lib.hid (show ∀ g, A4.map (·.block) = some g → w3.heap.size ≤ g ∧ g < w4.heap.size from fun g hg => by
      obtain ⟨h1, cs, h2⟩ := own_far ho4 g hg
      exact ⟨h1, h2.lt⟩)
    clear ho4 hb4 hb5
    go_upto_region 9 with fail
    rw [← hW5]
    clear hW5
    have f0 : W5.cell? ⟨w4.heap.size, 0, none⟩ = some (.int .i64 t1) := K5.out.cell 0
    have f1 : W5.cell? ⟨w4.heap.size, 1, none⟩ = some (.slice A4 n1 c4) := K5.out.cell 1
    go_wp2_with fail
    clear f0 f1
    refine (Put_far W5 _ x M L1 RS5.out.ix 1 t1 hid1 g1 A4 n1 c4 R1 (Sds.own HO5.out) (by omega) (by omega)).mono ?_
    rintro e w6 ⟨rfl, ⟨A6, c6, hi6, hfar⟩, hkc, hbw⟩
    have RS6 := Lib.hid (RS5.out.next hi6 hkc hbw)
    have HO6 := Lib.hid (own_kc HO5.out hkc)
    have K6 := Lib.hid (K5.out.kc hkc)
    have h56 : W5.heap.size ≤ w6.heap.size := hkc.size
    have HFAR := Lib.hid hfar
    clear hi6 hkc hbw hfar
    have d0 : w6.cell? ⟨w.heap.size, 0, none⟩ = some (.int .i64 t1) := cell_kc RS6.out.kc (KX3.out.cell 0)
    have d1 : w6.cell? ⟨w.heap.size, 1, none⟩ = some (.slice A1 n1 c1) := cell_kc RS6.out.kc (KX3.out.cell 1)
    go_wp2_with fail
    clear d0 d1
    refine (RPut_any A' m c' L2 (⟨1, t1, A1, n1, c1, R1⟩ : It) w6 (HP.out.row.kc RS6.out.kc) (by omega)).mono ?_
    rintro e w7 ⟨A7, m7, c7, rfl, ho7, hb7⟩
    have RS7 := Lib.hid (RS6.out.below hb7)
    have HO7 := Lib.hid (own_below HO6.out hb7)
    have K7 := Lib.hid (K6.out.below hb7)
    have HR7 := Lib.hid (Irs.own ho7)
    have HG7 := Lib.hid (show ∀ g, A7.map (·.block) = some g → w6.heap.size ≤ g from fun g hg => (own_far ho7 g hg).1)
    obtain ⟨L7, hL7⟩ : ∃ L7, L7 = putL L2 (⟨1, t1, A1, n1, c1, R1⟩ : It) := ⟨_, rfl⟩
    have hm7 : m7 ≤ m + 1 := by
      have h5 := (Irs.own ho7).len
      have h6 := put_len L2 (⟨1, t1, A1, n1, c1, R1⟩ : It)
      have h7 := HP.out.row.len
      omega
    obtain ⟨L6, hL6⟩ : ∃ L6, L6 = putL L1 ⟨1, t1, A6, n1, c6, R1⟩ := ⟨_, rfl⟩
    have HKS := Lib.hid (show KS L6 L7 by rw [hL6, hL7]; exact HP.out.ks.put rfl)
    have hl6 : L6.length ≤ 42 := by
      rw [hL6]
      have := put_len L1 ⟨1, t1, A6, n1, c6, R1⟩
      omega
    have HSL7 := Lib.hid (show ∀ W (_ : KC w3 W), ∀ y ∈ L7, Sds W y.A y.n y.R ∧ y.n ≤ 1000 from fun W hW y hy => by
      rw [hL7] at hy
      rcases (ins_mem _ _ _).1 hy with rfl | hy
      · exact ⟨HS3.out.kc hW, by show n1 ≤ 1000; omega⟩
      · obtain ⟨q1, q2⟩ := HP.out.sd y (List.mem_filter.1 hy).1
        exact ⟨q1.kc hW, q2⟩)
    have HAP := Lib.hid (show ∀ g, A4.map (·.block) = some g → ∀ it ∈ L6, 0 < it.n → ∀ b off, it.A = some ⟨b, off, none⟩ → b ≠ g from fun g hg it hit hn b off e => by
      obtain ⟨q1, q2⟩ := HG4.out g hg
      rw [hL6] at hit
      rcases (ins_mem _ _ _).1 hit with rfl | hit
      · have := HFAR.out b off hn e
        omega
      · obtain ⟨b', off', e', hb', -⟩ := (HP.out.ix.sds it (List.mem_filter.1 hit).1).1.2 hn
        rw [e] at e'
        injection e' with e'
        injection e' with e'
        omega)
    rw [← hL6] at RS7
    rw [← hL7] at HR7
    clear ho7 hb7 hL6 hL7 RS3 RS5 RS6 HO5 HO6 K5 K6 HFAR
    have f1 : w7.cell? ⟨w4.heap.size, 1, none⟩ = some (.slice A4 n1 c4) := K7.out.cell 1
    go_wp2
    clear f1
    go_loopw [42] (fun s wr => ∃ (k : Nat), s = .int .i64 (k : Int) ∧ k ≤ n1 ∧ Wild w7 wr A4 n1 6 56) (fun s _ => n1 - (intOf s).toNat)
    case atStart => exact ⟨0, rfl, Nat.zero_le _, Wild.of_own HO7.out⟩
    case round =>
      obtain ⟨k, rfl, hkn, hW⟩ := hrel
      by_cases hlt : k < n1
      · have hki : (k : Int) < n1 := by omega
        have hk0 : (0 : Int) ≤ (k : Int) := by omega
        obtain ⟨g4, cs, rfl, hbk, hsz⟩ := hW.2 (by omega)
        have hg4 : g4 < w4.heap.size := (HG4.out g4 rfl).2
        have f1 : wr.cell? ⟨w4.heap.size, 1, none⟩ = some (.slice (some ⟨g4, 0, none⟩) n1 c4) := hW.1.cell (K7.out.cell 1) (fun e => by injection e with e; have e : w4.heap.size = g4 := e; omega)
        have HTH := Lib.hid (show wr.there g4 (k * 6) 6 from there_blk hbk (by omega))
        have HWS := Lib.hid (hW.set (by omega) (k * 6) #[.bool false, .bool false, .int .i64 0, .int .i64 0, .string ⟨#[]⟩, .string ⟨#[]⟩].toList)
        clear hW hbk hsz
        go_wp2_with (refine wpList_store_mid (op := ⟨none, _, _, _, _, _⟩) rfl 56 _ _ rfl g4 _ _ rfl rfl HTH.out (by kernel_rfl) (by simp [Value.oneCell']) ?_)
        go_roundw
        case rel => exact ⟨k + 1, by go_num, hlt, HWS.out⟩
        case measure => simp [intOf]; omega
      · obtain rfl : n1 = k := by omega
        have hlt2 : ¬ ((n1 : Int) < (n1 : Int)) := by omega
        have RS8 := Lib.hid (RS7.out.wild hW (by decide) h23 (fun g hg => ⟨(HG4.out g hg).1, (own_far HO7.out g hg).2, HAP.out g hg⟩))
        have HR8 := Lib.hid (show Irs wr A7 m7 L7 from At.grownR HR7.out hW.1 (fun _ b off e e2 => by
          have q1 := HG7.out b (block_of e)
          have q2 := (HG4.out b e2.symm).2
          omega))
        clear hW HO7 K7 HAP HG4 HG7 HR7 RS7 hlt
        have d0 : wr.cell? ⟨w.heap.size, 0, none⟩ = some (.int .i64 t1) := cell_kc RS8.out.kc (KX3.out.cell 0)
        have d1 : wr.cell? ⟨w.heap.size, 1, none⟩ = some (.slice A1 n1 c1) := cell_kc RS8.out.kc (KX3.out.cell 1)
        go_wp2_with fail
        clear d0 d1
        refine (To_any t1 A1 n1 c1 R1 wr (HS3.out.kc RS8.out.kc) (by omega)).mono ?_
        rintro e w11 ⟨D7, d7, rfl, s7, hb⟩
        have RS11 := Lib.hid (RS8.out.below hb)
        have HR11 := Lib.hid (HR8.out.below hb)
        clear hb
        have CC := Lib.hid (Cand_any w11 _ x _ L6 RS11.out.ix t1 g1 D7 n1 d7 R1 s7 (by omega) (by omega))
        clear s7
        go_wp2_with fail
        refine CC.out.mono ?_
        rintro e w12 ⟨A8, n8, c8, rfl, ho, hb⟩
        have RS12 := Lib.hid (RS11.out.below hb)
        have HR12 := Lib.hid (HR11.out.below hb)
        have HO12 := Lib.hid ho
        have hn8 : n8 ≤ 42 := by
          have h5 := ho.1
          rw [ic_len] at h5
          unfold candL at h5
          rw [List.length_map] at h5
          have h6 := List.length_filter_le (hitB t1 R1) L6
          omega
        have HG8 := Lib.hid (show ∀ g, A8.map (·.block) = some g → w11.heap.size ≤ g from fun g hg => (own_far ho g hg).1)
        have HAP8 := Lib.hid (show ∀ g, A8.map (·.block) = some g → ∀ it ∈ L6, 0 < it.n → ∀ b off, it.A = some ⟨b, off, none⟩ → b ≠ g from fun g hg it hit hn b off e => by
          have q1 := HG8.out g hg
          obtain ⟨b', off', e', hb', -⟩ := (RS11.out.ix.sds it hit).1.2 hn
          rw [e] at e'
          injection e' with e'
          injection e' with e'
          omega)
        have h311 : w3.heap.size ≤ w11.heap.size := RS11.out.kc.size
        have HIRS := Lib.hid (show ∀ b off, 0 < m7 → A7 = some ⟨b, off, none⟩ → b < w11.heap.size from fun b off hn e => by
          obtain ⟨b', off', e', hb', -⟩ := HR11.out.2 hn
          rw [e] at e'
          injection e' with e'
          injection e' with e'
          omega)
        clear CC hb ho RS8 RS11 HR8 HR11
        go_wp2
        go_loopw [57] (fun s wr => ∃ (j : Nat), s = .int .i64 (j : Int) ∧ j ≤ n8 ∧ Wild w12 wr A8 n8 1 2) (fun s _ => n8 - (intOf s).toNat)
        case atStart => exact ⟨0, rfl, Nat.zero_le _, Wild.of_own HO12.out⟩
        case round =>
          obtain ⟨j, rfl, hjn, hW⟩ := hrel
          by_cases hlt : j < n8
          · have hki : (j : Int) < n8 := by omega
            have hk0 : (0 : Int) ≤ (j : Int) := by omega
            obtain ⟨g8, cs, rfl, hbk, hsz⟩ := hW.2 (by omega)
            obtain ⟨h1, hfz⟩ := there_blk hbk (o := j) (n := 1) (by omega) 0 (by omega)
            obtain ⟨u, hu⟩ := Option.isSome_iff_exists.1 h1
            simp only [Nat.add_zero] at hu hfz
            have HWS := Lib.hid (hW.set (by omega) j [.int .i64 (-7)])
            clear hW hbk hsz h1
            go_wp2
            go_roundw
            case rel => exact ⟨j + 1, by go_num, hlt, HWS.out⟩
            case measure => simp [intOf]; omega
          · obtain rfl : j = n8 := by omega
            have hlt2 : ¬ ((j : Int) < (j : Int)) := by omega
            have HRS1 := Lib.hid (RS12.out.wild hW (by decide) h23 (fun g hg => ⟨Nat.le_trans h311 (HG8.out g hg), (own_far HO12.out g hg).2, HAP8.out g hg⟩))
            have HR1 := Lib.hid (show Irs wr A7 m7 L7 from At.grownR HR12.out hW.1 (fun hn b off e e2 => by
              have q1 := HG8.out b e2.symm
              have q2 := HIRS.out b off hn e
              omega))
            clear hW HO12 HAP8 HG8 HR12 RS12 HIRS hlt
            go_upto_region 22 with fail
            obtain ⟨zs, hzs⟩ : ∃ zs, candL L6 t1 R1 = zs := ⟨_, rfl⟩
            have hzs3 : wantL L7 t1 R1 = zs := by rw [← hzs, HKS.out.cand t1 R1]
            have hzl : zs.length ≤ 1000 := by
              rw [← hzs]
              unfold candL
              rw [List.length_map]
              exact Nat.le_trans (List.length_filter_le _ _) (by omega)
            have hb0 : Below wr.heap.size wr wr.drew := below_drew (Below.refl _ _)
            have d0 : wr.cell? ⟨w.heap.size, 0, none⟩ = some (.int .i64 t1) := cell_kc HRS1.out.kc (KX3.out.cell 0)
            have d1 : wr.cell? ⟨w.heap.size, 1, none⟩ = some (.slice A1 n1 c1) := cell_kc HRS1.out.kc (KX3.out.cell 1)
            have HT3 := Lib.hid (show ∀ (W : World) (_ : Below wr.heap.size wr W), Sds W A1 n1 R1 from fun W hW => (HS3.out.kc HRS1.out.kc).below hW)
            have HCX := Lib.hid (show ∀ (W : World) (_ : Below wr.heap.size wr W) (D : Option Addr) (d : Nat), Sds W D n1 R1 → Calls Try.prog 14 #[.pointer (some ⟨x, 0, none⟩), .agg #[.int .i64 t1, .slice D n1 d]] W fun e w' => ∃ A' n' c', e = .returned (.slice A' n' c') ∧ (Nms w' A' n' zs ∧ n' ≤ 1000) ∧ Below W.heap.size W w' from fun W hW D d hD => by
              refine (Cand_any W _ x _ L6 (HRS1.out.ix.below hW) t1 g1 D n1 d R1 hD (by omega) (by omega)).mono ?_
              rintro e w' ⟨A1, n1, c1, rfl, ho, hb⟩
              rw [hzs] at ho
              refine ⟨A1, n1, c1, rfl, ⟨Nms.own ho, ?_⟩, hb⟩
              have h5 := ho.1
              rw [ic_len] at h5
              have h6 := hzl
              omega)
            have HWX := Lib.hid (show ∀ (W : World) (_ : Below wr.heap.size wr W) (D : Option Addr) (d : Nat), Sds W D n1 R1 → Calls Try.prog 16 #[.slice A7 m7 c7, .agg #[.int .i64 t1, .slice D n1 d]] W fun e w' => ∃ A' n' c', e = .returned (.slice A' n' c') ∧ (Nms w' A' n' zs ∧ n' ≤ 1000) ∧ Below W.heap.size W w' from fun W hW D d hD => by
              refine (Wanted_any A7 m7 c7 L7 t1 D n1 d R1 W (HR1.out.below hW) (by omega) (HSL7.out W (HRS1.out.kc.trans (KC.of_below hW))) hD (by omega)).mono ?_
              rintro e w' ⟨A1, n1, c1, rfl, ho, hb⟩
              rw [hzs3] at ho
              refine ⟨A1, n1, c1, rfl, ⟨Nms.own ho, ?_⟩, hb⟩
              have h5 := ho.1
              rw [ic_len] at h5
              have h6 := hzl
              omega)
            clear hzs hzs3 hzl
            refine wp_region_mix 8 (fun w' => Below wr.heap.size wr w') (by kernel_rfl) (by decide) ?_
            generalize wr.drew = y0 at hb0 ⊢
            refine wpM_take (i := 0) (oi := ⟨some 64, _, _, _, _, _⟩) (v := ?_) rfl (by decide +kernel) (by decide +kernel) (by decide +kernel) (fun _ _ _ h => h) (Or.inl ⟨by rfl, ?_⟩) hb0 ?_
            case refine_2 =>
              intro w' hSw
              go_simp
              try (with_reducible rfl)
            try simp only [Act.put, List.setIfInBounds_toArray, List.set_cons_zero, List.set_cons_succ]
            refine wpM_take (i := 1) (oi := ⟨some 65, _, _, _, _, _⟩) (v := ?_) rfl (by decide +kernel) (by decide +kernel) (by decide +kernel) (fun _ _ _ h => h) (Or.inl ⟨by rfl, ?_⟩) hb0 ?_
            case refine_2 =>
              intro w' hSw
              have d0' := keepcell hSw d0
              have d1' := keepcell hSw d1
              go_simp
              try (with_reducible rfl)
            try simp only [Act.put, List.setIfInBounds_toArray, List.set_cons_zero, List.set_cons_succ]
            refine wpM_take (i := 4) (oi := ⟨some 68, _, _, _, _, _⟩) (v := ?_) rfl (by decide +kernel) (by decide +kernel) (by decide +kernel) (fun _ _ _ h => h) (Or.inl ⟨by rfl, ?_⟩) hb0 ?_
            case refine_2 =>
              intro w' hSw
              go_simp
              try (with_reducible rfl)
            try simp only [Act.put, List.setIfInBounds_toArray, List.set_cons_zero, List.set_cons_succ]
            refine wpM_take (i := 5) (oi := ⟨some 69, _, _, _, _, _⟩) (v := ?_) rfl (by decide +kernel) (by decide +kernel) (by decide +kernel) (fun _ _ _ h => h) (Or.inl ⟨by rfl, ?_⟩) hb0 ?_
            case refine_2 =>
              intro w' hSw
              have d0' := keepcell hSw d0
              have d1' := keepcell hSw d1
              go_simp
              try (with_reducible rfl)
            try simp only [Act.put, List.setIfInBounds_toArray, List.set_cons_zero, List.set_cons_succ]
            refine wpM_step (i := 2) (o := ⟨some 66, _, _, _, _, _⟩) rfl (by decide +kernel) (by decide) (fun K hK => ?_)
            go_simp
            refine (To_any t1 A1 n1 c1 R1 _ (HT3.out _ hb0) (by omega)).mono ?_
            rintro e y66 ⟨D1, q1, rfl, s1, h1⟩
            have hb1 := hb0.trans (h1.mono hb0.size)
            refine hK.out _ _ hb1 ?_
            clear hK K
            try simp only [Act.put, List.setIfInBounds_toArray, List.set_cons_zero, List.set_cons_succ]
            refine wpM_step (i := 3) (o := ⟨some 67, _, _, _, _, _⟩) rfl (by decide +kernel) (by decide) (fun K hK => ?_)
            go_simp
            refine (HCX.out _ hb1 D1 q1 s1).mono ?_
            rintro e y67 ⟨D2, k2, q2, rfl, ⟨s2, z2⟩, h2⟩
            have hb2 := hb1.trans (h2.mono hb1.size)
            refine hK.out _ _ hb2 ?_
            clear hK K
            try simp only [Act.put, List.setIfInBounds_toArray, List.set_cons_zero, List.set_cons_succ]
            refine wpM_step (i := 6) (o := ⟨some 70, _, _, _, _, _⟩) rfl (by decide +kernel) (by decide) (fun K hK => ?_)
            go_simp
            refine (To_any t1 A1 n1 c1 R1 _ (HT3.out _ hb2) (by omega)).mono ?_
            rintro e y70 ⟨D3, q3, rfl, s3, h3⟩
            have hb3 := hb2.trans (h3.mono hb2.size)
            refine hK.out _ _ hb3 ?_
            clear hK K
            try simp only [Act.put, List.setIfInBounds_toArray, List.set_cons_zero, List.set_cons_succ]
            refine wpM_step (i := 7) (o := ⟨some 71, _, _, _, _, _⟩) rfl (by decide +kernel) (by decide) (fun K hK => ?_)
            go_simp
            refine (HWX.out _ hb3 D3 q3 s3).mono ?_
            rintro e y71 ⟨D4, k4, q4, rfl, ⟨s4, z4⟩, h4⟩
            have hb4 := hb3.trans (h4.mono hb3.size)
            refine hK.out _ _ hb4 ?_
            clear hK K
            try simp only [Act.put, List.setIfInBounds_toArray, List.set_cons_zero, List.set_cons_succ]
            refine wpM_done (by decide +kernel) ?_
            have s2' := At.below (At.below s2 h3) h4
            simp only [List.drop_succ_cons, List.drop_zero]
            have CS := Lib.hid (Same_any D2 D4 k2 k4 q2 q4 zs zs _ s2' s4 (by omega))
            have HBZ := Lib.hid (HRS1.out.below hb4)
            clear s1 s2 s2' s3 s4 hb0 hb1 hb2 hb3 hb4 h1 h2 h3 h4
            go_wp2_with fail
            refine CS.out.mono ?_
            rintro e W' ⟨rfl, hb⟩
            have HBE := Lib.hid (HB2.out.trans ((HBZ.out.below hb).bl.mono HB2.out.size))
            clear hb CS HBZ
            simp only [decide_true]
            go_wp2
            go_ret
            exact ⟨rfl, HBE.out⟩

set_option maxRecDepth 100000 in
theorem boxindexNoAliasing_lifted (os : Os) (started : os.Started) (H : Type) (enc : TypeId × Value → H) :
    ReturnsInHanded {} Try.checked os 8 .any (Rows.boxindexNoAliasingSpec.pre6 enc Try.prog Try.f8 Rows.boxindexNoAliasingRow.domain false) (Rows.boxindexNoAliasingSpec.post enc Try.prog Try.f8 false true false false) := by
  refine law_lifted (C := Try.checked) (B := 4) Try.own started (by kernel_rfl) Try.func8
    (ChangeSpec.witness6 (enc := enc) (C := Try.checked) false ⟨#[], #[.slice none 0 0, .agg #[.int .i64 0, .slice none 0 0]], []⟩ 8 (by kernel_rfl) (by kernel_rfl) (by kernel_rfl) (by kernel_rfl))
    Try.laidOut (by kernel_rfl) rfl rfl rfl Try.underlying4 (fun ds h => match ds, h with | [_, _], _ => rfl) ?_
  intro W base args ds ps hval hA hlt hsz
  rw [Try.params8] at hA hval hsz
  obtain ⟨v0, vs0, d0, ds0, p0, q0, hargs, rfl, rfl, h0, r0⟩ := trodAll_cons hA
  obtain ⟨v1, vs1, d1, ds1, p1, q1, rfl, rfl, rfl, h1, r1⟩ := trodAll_cons r0
  obtain ⟨rfl, rfl, rfl⟩ := trodAll_nil r1
  obtain rfl : args = #[v0, v1] := by cases args; simp_all
  obtain ⟨A0, n0, c0, R0, rfl, k0, l0, g0⟩ := open_opsS (hval 0 22 v0 rfl rfl) h0 (fun x hx => hlt x (by simp [hx])) hsz (j := 0) rfl rfl
  obtain ⟨x1, A1, n1, c1, R1, rfl, k1, l1, g1⟩ := open_Box (hval 1 32 v1 rfl rfl) h1 (fun x hx => hlt x (by simp [hx]))
  exact boxindexNoAliasing_walk A0 n0 c0 R0 x1 A1 n1 c1 R1 W k0 l0 g0 k1 l1 g1

theorem boxindexNoAliasing_over : Rows.boxindexNoAliasingRow.holds Try.pinned (OpenSpec.ofChange Rows.boxindexNoAliasingSpec) :=
  OpenClaim.holds_of_wide 8 Try.f8 rfl rfl rfl rfl rfl rfl rfl ⟨rfl, rfl, rfl, rfl, rfl⟩ rfl rfl rfl rfl rfl (by kernel_rfl) Try.func8 (by kernel_rfl)
    (of_decide_eq_true (by kernel_rfl)) (by unfold Func.isWrapper; first | (rw [if_pos (by decide +kernel)]; kernel_rfl) | (rw [if_neg (by decide +kernel)]; exact ⟨rfl, rfl⟩))
    (fun os started H enc _ => boxindexNoAliasing_lifted os started H enc)

theorem boxindexNoAliasing_proved : Rows.BoxindexNoAliasingSaid := boxindexNoAliasing_over
end Go.Proofs.Ytgenpldldgplhaa
