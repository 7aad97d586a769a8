/- Law BoxindexReplaced: for every input the call returns true, and its arguments read afterwards as before. -/
import Derived.Test.YtgenpldldgplhaaBo4
import Derived.Test.YtgenpldldgplhaaMi2
import Derived.Test.YtgenpldldgplhaaBfr
import Derived.Test.YtgenpldldgplhaaBpy
import Derived.Test.YtgenpldldgplhaaBaw
import Derived.Deep.Cut
namespace Go.Proofs.Ytgenpldldgplhaa
open Go.ChangeShapes Go.WideShapes Go.ChangeAt Go.RowKit Go.ChangeMaps

theorem del_ins (x : It) : ∀ L : List It, (∀ y ∈ L, y.id ≠ x.id) → delL (insL x L) x.id = L
  | [], _ => by simp [insL, delL]
  | y :: L, h => by
    have hy : y.id ≠ x.id := h y List.mem_cons_self
    have ht : ∀ z ∈ L, z.id ≠ x.id := fun z hz => h z (List.mem_cons_of_mem _ hz)
    have e0 : delL L x.id = L := List.filter_eq_self.2 (fun z hz => by simpa using ht z hz)
    unfold insL
    split
    · show delL (x :: y :: L) x.id = y :: L
      unfold delL at e0 ⊢
      simp [hy, e0]
    · show delL (y :: insL x L) x.id = y :: L
      have := del_ins x L ht
      unfold delL at this ⊢
      simp [hy, this]
theorem del_put (L : List It) (x : It) : delL (putL L x) x.id = delL L x.id := del_ins x _ (fun y hy => del_ne y hy)
theorem fnd_put (L : List It) (x : It) : fnd (putL L x) x.id = some x := by
  unfold putL
  rw [ins_fnd x x.id _ (fun y hy => del_ne y hy), if_pos rfl]
theorem put_len (L : List It) (x : It) : (putL L x).length ≤ L.length + 1 := by
  unfold putL
  rw [ins_len]
  have : (delL L x.id).length ≤ L.length := List.length_filter_le _ _
  omega
theorem del_len (L : List It) (a : Int) : (delL L a).length ≤ L.length := List.length_filter_le _ _
theorem hit_empty (t : Int) (R : List Sd) (x : It) (hx : x.R = []) : hitB t R x = false := by
  unfold hitB meetB
  rw [hx]
  split
  · split
    · rename_i h
      simp at h
      simp [h]
    · simp
  · simp
theorem cand_empty (L : List It) (x : It) (hx : x.R = []) (t : Int) (R : List Sd) : ∀ a ∈ candL (putL L x) t R, a ≠ x.id := by
  intro a ha e
  obtain ⟨it, hit, rfl⟩ := List.mem_map.1 ha
  obtain ⟨h1, h2⟩ := List.mem_filter.1 hit
  rcases (ins_mem x _ it).1 h1 with rfl | h3
  · rw [hit_empty t R it hx] at h2
    cases h2
  · exact del_ne it h3 e
structure RS (w2 w3 W : World) (x M : Nat) (L : List It) : Prop where
  ix : IX W w2.heap.size x M L
  kc : KC w3 W
  bl : Below w2.heap.size w2 W
theorem RS.below {w2 w3 W W' : World} {x M : Nat} {L : List It} (h : RS w2 w3 W x M L) (hb : Below W.heap.size W W') : RS w2 w3 W' x M L := ⟨h.ix.below hb, h.kc.trans (KC.of_below hb), h.bl.trans (hb.mono h.bl.size)⟩
theorem RS.next {w2 w3 W W' : World} {x M M' : Nat} {L L' : List It} (h : RS w2 w3 W x M L) (hi : IX W' w2.heap.size x M' L') (hk : KC W W') (hb : ∀ w0, Below w2.heap.size w0 W → Below w2.heap.size w0 W') : RS w2 w3 W' x M' L' := ⟨hi, h.kc.trans hk, hb _ h.bl⟩
set_option maxRecDepth 100000 in
set_option maxHeartbeats 4000000 in
theorem boxindexReplaced_walk (A : Option Addr) (n c : Nat) (R : List Ot) (id : Int) (t1 : Int) (A1 : Option Addr) (n1 c1 : Nat) (R1 : List Sd) (w : World) (k0 : Ots w A n R) (l0 : n * 48 ≤ 140737488351232) (g0 : ∀ x ∈ R, Sds w x.A x.n x.R ∧ x.n ≤ 9223372036854775807 ∧ w64 x.id ∧ w64 x.t ∧ 0 ≤ x.kd ∧ x.kd < 256) (li : -9223372036854775808 ≤ id) (gi : id ≤ 9223372036854775807) (k1 : Sds w A1 n1 R1) (l1 : n1 ≤ c1 ∧ c1 ≤ 9223372036854775807) (g1 : w64 t1) : Calls Try.prog 7 #[.slice A n c, .int .i64 id, .agg #[.int .i64 t1, .slice A1 n1 c1]] w fun e w' => e = .returned (.bool true) ∧ Below w.heap.size w w' := by
  have hn0 : n ≤ 9223372036854775807 := by omega
  have hn1 : n1 ≤ 9223372036854775807 := by omega
  obtain ⟨i0, hi, hz0, hz1, hz2⟩ := info_parts Try.info34
  have HI := Lib.hid hi
  have HZ0 := Lib.hid hz0
  have HZ1 := Lib.hid hz1
  have HZ2 := Lib.hid hz2
  obtain ⟨w0, hw0⟩ : ∃ W, W = w.alloc (.cells #[.int .i64 t1, .slice A1 n1 c1] 32) := ⟨_, rfl⟩
  have HB0 := Lib.hid (show Below w.heap.size w w0 by rw [hw0]; exact (Below.refl _ w).alloc (Nat.le_refl _) _)
  have KX0 := Lib.hid (show Blk w0 w.heap.size 32 #[.int .i64 t1, .slice A1 n1 c1] by rw [hw0]; exact Blk.new _ _ _)
  have HK := Lib.hid k0
  have HG := Lib.hid g0
  have HS1 := Lib.hid k1
  have HRL := Lib.hid k0.len
  clear hi hz0 hz1 hz2 k0 g0 k1
  go_enter Try.func7, Try.ntmps7
  go_wp2_with fail
  rw [← hw0]
  clear hw0
  refine (awake_any w0).mono ?_
  rintro e1 w1 ⟨rfl, hb1⟩
  have HB1 := Lib.hid (HB0.out.trans (hb1.mono HB0.out.size))
  have KX1 := Lib.hid (KX0.out.below hb1)
  have CF := Lib.hid (show ∀ W (_ : Below w.heap.size w W) (A' : Option Addr) (c' : Nat), Ots W A' (n + 1) (R ++ [⟨0, 0, t1, A1, n1, c1, R1⟩]) → Calls Try.prog 10 #[.slice A' (n + 1) c', .int .i64 41] W (FrP (R ++ [⟨0, 0, t1, A1, n1, c1, R1⟩]) (n + 1) 41 W) from fun W hW A' c' h =>
    Fair_any A' (n + 1) c' _ 41 W h (by omega) (fun o ho => by
      rcases List.mem_append.1 ho with ho | ho
      · exact ⟨(HG.out o ho).1.below hW, (HG.out o ho).2.1⟩
      · rw [List.mem_singleton.1 ho]
        exact ⟨HS1.out.below hW, hn1⟩))
  clear hb1
  have d0 : w1.cell? ⟨w.heap.size, 0, none⟩ = some (.int .i64 t1) := KX1.out.cell 0
  have d1 : w1.cell? ⟨w.heap.size, 1, none⟩ = some (.slice A1 n1 c1) := KX1.out.cell 1
  go_upto_region 3 with fail
  have hb0 : Below w1.heap.size w1 w1.drew := below_drew (Below.refl _ _)
  refine wp_region_mix 6 (fun w' => Below w1.heap.size w1 w') (by kernel_rfl) (by decide) ?_
  generalize w1.drew = y0 at hb0 ⊢
  refine wpM_take (i := 1) (oi := ⟨some 17, _, _, _, _, _⟩) (v := ?_) rfl (by decide +kernel) (by decide +kernel) (by decide +kernel) (fun _ _ _ h => h) (Or.inl ⟨by rfl, ?_⟩) hb0 ?_
  case refine_2 =>
    intro w' hSw
    go_simp
    try (with_reducible rfl)
  try simp only [Act.put, List.setIfInBounds_toArray, List.set_cons_zero, List.set_cons_succ]
  refine wpM_take (i := 3) (oi := ⟨some 19, _, _, _, _, _⟩) (v := ?_) rfl (by decide +kernel) (by decide +kernel) (by decide +kernel) (fun _ _ _ h => h) (Or.inl ⟨by rfl, ?_⟩) hb0 ?_
  case refine_2 =>
    intro w' hSw
    have d0' := keepcell hSw d0
    have d1' := keepcell hSw d1
    go_simp
    try (with_reducible rfl)
  try simp only [Act.put, List.setIfInBounds_toArray, List.set_cons_zero, List.set_cons_succ]
  refine wpM_take (i := 4) (oi := ⟨some 20, _, _, _, _, _⟩) (v := ?_) rfl (by decide +kernel) (by decide +kernel) (by decide +kernel) (fun _ _ _ h => h) (Or.inl ⟨by rfl, ?_⟩) hb0 ?_
  case refine_2 =>
    intro w' hSw
    go_simp
    try (with_reducible rfl)
  try simp only [Act.put, List.setIfInBounds_toArray, List.set_cons_zero, List.set_cons_succ]
  refine wpM_chains (fun i => 16 + i) [0, 2, 5] (fun i v W => (i = 0 → ∃ g, v = .slice (some ⟨g, 0, none⟩) 0 0 ∧ Blk W g 34 #[] ∧ w1.heap.size ≤ g) ∧ (i = 2 → W.ownsRow w1.heap.size 34 4 v n (R.flatMap Ot.cells)) ∧ (i = 5 → ∃ g, v = .slice (some ⟨g, 0, none⟩) 1 1 ∧ Blk W g 34 #[.int .u8 0, .int .i64 0, .int .i64 t1, .slice A1 n1 c1]) ∧ True) (by decide +kernel) (fun i v W W' h0 hb => ⟨fun e => (fun h => let ⟨g, e, k, q⟩ := h; ⟨g, e, k.below hb, q⟩) (h0.1 e), fun e => (fun h => own_below h hb) (h0.2.1 e), fun e => (fun h => let ⟨g, e, k⟩ := h; ⟨g, e, k.below hb⟩) (h0.2.2.1 e), trivial⟩) hb0 ?_ ?_
  · refine List.forall_mem_cons.2 ⟨?_, List.forall_mem_cons.2 ⟨?_, List.forall_mem_cons.2 ⟨?_, List.forall_mem_nil _⟩⟩⟩
    · refine ⟨⟨some 16, _, _, _, _, _⟩, rfl, rfl, fun vs W K hS hd hK => ?_⟩
      simp only [puts, List.foldl_cons, List.foldl_nil, Act.put, List.setIfInBounds_toArray, List.set_cons_zero, List.set_cons_succ, Nat.reduceAdd, Nat.reduceSub] at hK ⊢
      go_simp
      have hb : Below W.heap.size W (W.alloc (.cells #[] 34)) := (Below.refl _ _).alloc (Nat.le_refl _) _
      exact hK _ _ (hS.trans (hb.mono hS.size)) hb ⟨fun _ => ⟨_, rfl, Blk.new _ _ _, hS.size⟩, fun e => absurd e (by decide), fun e => absurd e (by decide), trivial⟩
    · refine ⟨⟨some 18, _, _, _, _, _⟩, rfl, rfl, fun vs W K hS hd hK => ?_⟩
      obtain ⟨g, e1, k1, q1⟩ := (hd 0 (by decide) (by decide +kernel)).1 rfl
      simp only [puts, List.foldl_cons, List.foldl_nil, Act.put, List.setIfInBounds_toArray, List.set_cons_zero, List.set_cons_succ, Nat.reduceAdd, Nat.reduceSub] at hK ⊢
      simp only [e1] at hK ⊢
      rw [if_pos (by rfl)]
      refine wp_append_new W (.tmp 16) (.tmp 17) 22 22 (by rfl) w1.heap.size 34 i0 _ 4 48 Try.underlying22 HI.out HZ0.out HZ1.out HZ2.out rfl g q1 (by rfl) k1 (.slice A n c) n (R.flatMap Ot.cells) (by rfl) (At.src Try.underlying22 (HK.out.below (HB1.out.trans (hS.mono HB1.out.size))) (ot_one R) (by decide)) (by unfold maxLen; omega) (by omega) ?_
      intro v' W' ho hb
      exact hK _ _ (hS.trans (hb.mono hS.size)) hb ⟨fun e => absurd e (by decide), fun _ => ho, fun e => absurd e (by decide), trivial⟩
    · refine ⟨⟨some 21, _, _, _, _, _⟩, rfl, rfl, fun vs W K hS hd hK => ?_⟩
      simp only [puts, List.foldl_cons, List.foldl_nil, Act.put, List.setIfInBounds_toArray, List.set_cons_zero, List.set_cons_succ, Nat.reduceAdd, Nat.reduceSub] at hK ⊢
      go_simp
      have hb : Below W.heap.size W (W.alloc (.cells #[.int .u8 0, .int .i64 0, .int .i64 t1, .slice A1 n1 c1] 34)) := (Below.refl _ _).alloc (Nat.le_refl _) _
      exact hK _ _ (hS.trans (hb.mono hS.size)) hb ⟨fun e => absurd e (by decide), fun e => absurd e (by decide), fun _ => ⟨_, rfl, Blk.new _ _ _⟩, trivial⟩
  · intro vs W hS hd
    obtain o2 := (hd 2 (by decide)).2.1 rfl
    obtain ⟨g, e5, k5⟩ := (hd 5 (by decide)).2.2.1 rfl
    simp only [puts, List.foldl_cons, List.foldl_nil, Act.put, List.setIfInBounds_toArray, List.set_cons_zero, List.set_cons_succ, Nat.reduceAdd, Nat.reduceSub]
    simp only [e5]
    clear hd
    simp only [List.drop_succ_cons, List.drop_zero]
    refine wpList_append_src W rfl (.tmp 18) (.tmp 21) 22 22 rfl w1.heap.size 34 i0 _ 4 48 Try.underlying22 HI.out HZ0.out HZ1.out HZ2.out rfl _ n (R.flatMap Ot.cells) rfl o2 _ 1 [.int .u8 0, .int .i64 0, .int .i64 t1, .slice A1 n1 c1] rfl (src_blk Try.underlying22 rfl (ot_one [⟨0, 0, t1, A1, n1, c1, R1⟩]) k5) (by unfold maxLen; omega) (by omega) hS.size ?_
    intro v' W2 own' hg _
    have hb1 : Below w1.heap.size w1 W2 := grown_below hS hS.size o2 hg
    obtain ⟨A', c', rfl, hat, -, -⟩ := At.of_own own'
    have hot : Ots W2 A' (n + 1) (R ++ [⟨0, 0, t1, A1, n1, c1, R1⟩]) := by
      unfold Ots
      rw [List.flatMap_append]
      exact hat
    have HBW := Lib.hid (HB1.out.trans (hb1.mono HB1.out.size))
    have KXW := Lib.hid (KX1.out.below hb1)
    have HOT := Lib.hid hot
    clear hot hat own' hg o2 k5 e5 hb1 hS
    go_wp2_with fail
    refine (CF.out _ HBW.out _ _ HOT.out).mono ?_
    rintro e2 w2 ⟨q, rfl, hq, hb2⟩
    have HB2 := Lib.hid (HBW.out.trans (hb2.mono HBW.out.size))
    have KX2 := Lib.hid (KXW.out.below hb2)
    clear CF hb2 HOT HBW KXW HB1 KX1 HB0 KX0
    cases q
    · go_wp2
      go_ret
      exact ⟨rfl, HB2.out⟩
    obtain ⟨hn60, hn4⟩ := hq rfl
    have hn : n ≤ 40 := by omega
    have hn14 : n1 ≤ 4 := hn4 ⟨0, 0, t1, A1, n1, c1, R1⟩ (List.mem_append_right _ (List.mem_singleton.2 rfl))
    have HOK := Lib.hid (show OkO w2 R from fun o ho => ⟨(HG.out o ho).1.below HB2.out, by have := hn4 o (List.mem_append_left _ ho); omega, (HG.out o ho).2.2⟩)
    clear hq hn4 hn60 hn0 hn1
    have HKO := Lib.hid (HK.out.below HB2.out)
    have CP := Lib.hid (Play_any A n c R w2 HKO.out (by omega) HOK.out)
    go_wp2_with fail
    refine CP.out.mono ?_
    rintro e3 w3 ⟨x, A', m, c', M, L1, L2, rfl, hp⟩
    have HP := Lib.hid hp
    have hlm : L1.length = m := hp.ks.len.trans hp.row.len
    have hmn : m ≤ n := hp.n
    have HB3 := Lib.hid (HB2.out.trans (hp.bel.mono HB2.out.size))
    have KX3 := Lib.hid (KX2.out.below hp.bel)
    clear CP hp KX2 HKO HOK HK HG
    have hm40 : M ≤ 40 := by have := HP.out.M; omega
    have RS3 := Lib.hid (show RS w2 w3 w3 x M L1 from ⟨HP.out.ix, KC.refl _, HP.out.bel⟩)
    have HS3 := Lib.hid (HS1.out.below HB3.out)
    have hid : w64 id := by
      unfold w64
      have h1 : IntKind.i64.min = -9223372036854775808 := rfl
      have h2 : IntKind.i64.max = 9223372036854775807 := rfl
      simp only [Lit.wf, Bool.and_eq_true, decide_eq_true_eq, h1, h2]
      exact ⟨li, gi⟩
    have d0 : w3.cell? ⟨w.heap.size, 0, none⟩ = some (.int .i64 t1) := cell_kc RS3.out.kc (KX3.out.cell 0)
    have d1 : w3.cell? ⟨w.heap.size, 1, none⟩ = some (.slice A1 n1 c1) := cell_kc RS3.out.kc (KX3.out.cell 1)
    go_wp2_with fail
    clear d0 d1
    refine (To_any t1 A1 n1 c1 R1 w3 HS3.out (by omega)).mono ?_
    rintro e w4 ⟨D4, d4, rfl, s4, hb⟩
    have RS4 := Lib.hid (RS3.out.below hb)
    clear hb
    go_wp2_with fail
    refine (Put_any w4 _ x M L1 RS4.out.ix id t1 hid g1 D4 n1 d4 R1 s4 (by omega) (by omega)).mono ?_
    rintro e w5 ⟨rfl, ⟨A_w5, c_w5, hi5⟩, hkc, hbw⟩
    have RS5 := Lib.hid (RS4.out.next hi5 hkc hbw)
    clear hi5 hkc hbw
    clear s4
    have d0 : w5.cell? ⟨w.heap.size, 0, none⟩ = some (.int .i64 t1) := cell_kc RS5.out.kc (KX3.out.cell 0)
    have d1 : w5.cell? ⟨w.heap.size, 1, none⟩ = some (.slice A1 n1 c1) := cell_kc RS5.out.kc (KX3.out.cell 1)
    go_wp2_with fail
    refine (Put_any w5 _ x (M + 1) _ RS5.out.ix id t1 hid g1 none 0 0 [] ⟨rfl, fun h => absurd h (by omega)⟩ (by omega) (by omega)).mono ?_
    rintro e w6 ⟨rfl, ⟨A_w6, c_w6, hi5⟩, hkc, hbw⟩
    have RS6 := Lib.hid (RS5.out.next hi5 hkc hbw)
    clear hi5 hkc hbw
    clear d0 d1
    obtain ⟨L6, hL6⟩ : ∃ L6, L6 = putL (putL L1 ⟨id, t1, A_w5, n1, c_w5, R1⟩) ⟨id, t1, A_w6, 0, c_w6, []⟩ := ⟨_, rfl⟩
    rw [← hL6] at RS6
    have hl1 : L1.length = m := hlm
    have HL6 := Lib.hid (show L6.length ≤ 42 by
      rw [hL6]
      have a1 := put_len (putL L1 ⟨id, t1, A_w5, n1, c_w5, R1⟩) ⟨id, t1, A_w6, 0, c_w6, []⟩
      have a2 := put_len L1 ⟨id, t1, A_w5, n1, c_w5, R1⟩
      omega)
    have HF6 := Lib.hid (show (fnd L6 id).isSome = true by
      rw [hL6, fnd_put _ (⟨id, t1, A_w6, 0, c_w6, []⟩ : It)]
      rfl)
    have HD6 := Lib.hid (show delL L6 id = delL L1 id by
      rw [hL6]
      exact (del_put _ (⟨id, t1, A_w6, 0, c_w6, []⟩ : It)).trans (del_put L1 (⟨id, t1, A_w5, n1, c_w5, R1⟩ : It)))
    have HC6 := Lib.hid (show ∀ a ∈ candL L6 t1 R1, a ≠ id by
      rw [hL6]
      exact cand_empty _ (⟨id, t1, A_w6, 0, c_w6, []⟩ : It) rfl t1 R1)
    clear hL6 hl1
    have d0 : w6.cell? ⟨w.heap.size, 0, none⟩ = some (.int .i64 t1) := cell_kc RS6.out.kc (KX3.out.cell 0)
    have d1 : w6.cell? ⟨w.heap.size, 1, none⟩ = some (.slice A1 n1 c1) := cell_kc RS6.out.kc (KX3.out.cell 1)
    go_wp2_with fail
    clear d0 d1
    refine (To_any t1 A1 n1 c1 R1 w6 (HS3.out.kc RS6.out.kc) (by omega)).mono ?_
    rintro e w7 ⟨D7, d7, rfl, s7, hb⟩
    have RS7 := Lib.hid (RS6.out.below hb)
    clear hb
    have CC := Lib.hid (Cand_any w7 _ x (M + 1 + 1) L6 RS7.out.ix t1 g1 D7 n1 d7 R1 s7 (by omega) (by have := HL6.out; omega))
    clear s7
    go_wp2_with fail
    refine CC.out.mono ?_
    rintro e w8 ⟨A8, n8, c8, rfl, ho, hb⟩
    have RS8 := Lib.hid (RS7.out.below hb)
    have HN8 := Lib.hid (Nms.own ho)
    have HL8 := Lib.hid (show (candL L6 t1 R1).length = n8 by have h5 := ho.1; rw [ic_len] at h5; omega)
    have hn8 : n8 ≤ 42 := by
      have h5 := HL8.out
      unfold candL at h5
      rw [List.length_map] at h5
      have h6 := List.length_filter_le (hitB t1 R1) L6
      have h7 := HL6.out
      omega
    clear CC hb ho
    go_wp2
    go_loopw [49] (fun s wr => ∃ (k : Nat), s = .int .i64 (k : Int) ∧ k ≤ n8 ∧ RS w2 w3 wr x (M + 1 + 1) L6 ∧ Below w8.heap.size w8 wr) (fun s _ => n8 - (intOf s).toNat)
    case atStart => exact ⟨0, rfl, Nat.zero_le _, RS8.out, Below.refl _ _⟩
    case round =>
      obtain ⟨k, rfl, hkn, hrs, hB⟩ := hrel
      have RSR := Lib.hid hrs
      have HBR := Lib.hid hB
      clear hrs hB
      by_cases hlt : k < n8
      · have hki : (k : Int) < n8 := by omega
        have hk0 : (0 : Int) ≤ (k : Int) := by omega
        obtain ⟨b, off, rfl, hbl, hc⟩ := HN8.out.at (by omega)
        have hi' : k < (candL L6 t1 R1).length := by rw [HL8.out]; exact hlt
        have c0 := hc wr HBR.out k hi'
        have hne := HC6.out _ (List.getElem_mem hi')
        clear hc hbl
        generalize (candL L6 t1 R1)[k] = z at *
        go_wp2
        go_roundw
        case rel => exact ⟨k + 1, by go_num, hlt, RSR.out, HBR.out⟩
        case measure => simp [intOf]; omega
      · obtain rfl : k = n8 := by omega
        have hlt2 : ¬ ((k : Int) < (k : Int)) := by omega
        clear HC6 HN8 HL8 RS3 RS4 RS5 RS6 RS7 RS8
        have CRD := Lib.hid (RDelete_any A' m c' L2 id wr (HP.out.row.kc RSR.out.kc) (by omega))
        go_wp2_with fail
        refine CRD.out.mono ?_
        rintro e w9 ⟨A9, n9, c9, rfl, ho, hb⟩
        have RS9 := Lib.hid (RSR.out.below hb)
        have HR9 := Lib.hid (Irs.own ho)
        have hn9 : n9 ≤ m := by
          have h5 := (Irs.own ho).len
          have h6 := del_len L2 id
          have h7 := HP.out.row.len
          omega
        have hl9 : (delL L1 id).length = n9 := (HP.out.ks.del id).len.trans (Irs.own ho).len
        clear CRD hb ho RSR HBR
        go_upto_region 17 with fail
        obtain ⟨zs, hzs⟩ : ∃ zs, candL (delL L1 id) t1 R1 = zs := ⟨_, rfl⟩
        have hzs3 : wantL (delL L2 id) t1 R1 = zs := by rw [← hzs, (HP.out.ks.del id).cand t1 R1]
        have hzl : zs.length ≤ 1000 := by
          rw [← hzs]
          unfold candL
          rw [List.length_map]
          exact Nat.le_trans (List.length_filter_le _ _) (by omega)
        have hb0 : Below w9.heap.size w9 w9.drew := below_drew (Below.refl _ _)
        have hk0 : KC w9 w9.drew := KC.of_below hb0
        have HIX := Lib.hid (RS9.out.ix.below hb0)
        have HRS0 := Lib.hid (RS9.out.below hb0)
        have HR0 := Lib.hid (HR9.out.below hb0)
        refine wp_region_mix 19 (fun w' => KC w9 w') (by kernel_rfl) (by decide) ?_
        generalize w9.drew = y0 at hb0 hk0 HIX HRS0 HR0 ⊢
        clear hb0
        have HDE := Lib.hid (show Calls Try.prog 21 #[.pointer (some ⟨x, 0, none⟩), .int .i64 id] y0 fun e w' => e = .returned (.bool true) ∧ IX w' w2.heap.size x (M + 1 + 1) (delL L1 id) ∧ KC y0 w' ∧ (∀ w0, Below w2.heap.size w0 y0 → Below w2.heap.size w0 w') from by
          refine (Delete_any y0 _ x (M + 1 + 1) L6 HIX.out id hid).mono ?_
          rintro e w' ⟨rfl, h1, h2, h3⟩
          rw [HD6.out] at h1
          exact ⟨by rw [HF6.out], h1, h2, h3⟩)
        refine wpM_take (i := 0) (oi := ⟨some 63, _, _, _, _, _⟩) (v := ?_) rfl (by decide +kernel) (by decide +kernel) (by decide +kernel) (fun _ _ _ h => h) (Or.inl ⟨by rfl, ?_⟩) hk0 ?_
        case refine_2 =>
          intro w' hSw
          go_simp
          try (with_reducible rfl)
        try simp only [Act.put, List.setIfInBounds_toArray, List.set_cons_zero, List.set_cons_succ]
        refine wpM_take (i := 1) (oi := ⟨some 64, _, _, _, _, _⟩) (v := ?_) rfl (by decide +kernel) (by decide +kernel) (by decide +kernel) (fun _ _ _ h => h) (Or.inl ⟨by rfl, ?_⟩) hk0 ?_
        case refine_2 =>
          intro w' hSw
          go_simp
          try (with_reducible rfl)
        try simp only [Act.put, List.setIfInBounds_toArray, List.set_cons_zero, List.set_cons_succ]
        refine wpM_step (i := 2) (o := ⟨some 65, _, _, _, _, _⟩) rfl (by decide +kernel) (by decide) (fun K hK => ?_)
        go_simp
        refine (HDE.out).mono ?_
        rintro e y65 ⟨rfl, hi1, hkc1, hbw1⟩
        have hk1 := hk0.trans hkc1
        refine hK.out _ _ hk1 ?_
        clear hK K
        try simp only [Act.put, List.setIfInBounds_toArray, List.set_cons_zero, List.set_cons_succ]
        have HRS1 := Lib.hid (HRS0.out.next hi1 hkc1 hbw1)
        have HR1 := Lib.hid (HR0.out.kc hkc1)
        clear hi1 hkc1 hbw1 HIX HRS0 HR0 HDE
        refine wpM_less (fun w' => Below y65.heap.size y65 w') (fun w' h => hk1.trans (KC.of_below h)) ?_
        have hb0 : Below y65.heap.size y65 y65 := Below.refl _ _
        have d0 : y65.cell? ⟨w.heap.size, 0, none⟩ = some (.int .i64 t1) := cell_kc HRS1.out.kc (KX3.out.cell 0)
        have d1 : y65.cell? ⟨w.heap.size, 1, none⟩ = some (.slice A1 n1 c1) := cell_kc HRS1.out.kc (KX3.out.cell 1)
        have HT3 := Lib.hid (show ∀ (W : World) (_ : Below y65.heap.size y65 W), Sds W A1 n1 R1 from fun W hW => (HS3.out.kc HRS1.out.kc).below hW)
        have HLX := Lib.hid (show ∀ (W : World) (_ : Below y65.heap.size y65 W), Calls Try.prog 12 #[.pointer (some ⟨x, 0, none⟩)] W fun e w' => e = .returned (.int .i64 (n9 : Int)) ∧ w' = W from fun W hW => by
          have := Len_any W _ x _ (delL L1 id) (HRS1.out.ix.below hW)
          rw [hl9] at this
          exact this)
        have HCX := Lib.hid (show ∀ (W : World) (_ : Below y65.heap.size y65 W) (D : Option Addr) (d : Nat), Sds W D n1 R1 → Calls Try.prog 14 #[.pointer (some ⟨x, 0, none⟩), .agg #[.int .i64 t1, .slice D n1 d]] W fun e w' => ∃ A' n' c', e = .returned (.slice A' n' c') ∧ (Nms w' A' n' zs ∧ n' ≤ 1000) ∧ Below W.heap.size W w' from fun W hW D d hD => by
          refine (Cand_any W _ x _ (delL L1 id) (HRS1.out.ix.below hW) t1 g1 D n1 d R1 hD (by omega) (by omega)).mono ?_
          rintro e w' ⟨A1, n1, c1, rfl, ho, hb⟩
          rw [hzs] at ho
          refine ⟨A1, n1, c1, rfl, ⟨Nms.own ho, ?_⟩, hb⟩
          have h5 := ho.1
          rw [ic_len] at h5
          have h6 := hzl
          omega)
        have HSDD := Lib.hid (show ∀ (W : World) (_ : Below y65.heap.size y65 W), ∀ y ∈ delL L2 id, Sds W y.A y.n y.R ∧ y.n ≤ 1000 from fun W hW y hy => by
          have h1 := HP.out.sd y (List.mem_filter.1 hy).1
          exact ⟨(h1.1.kc HRS1.out.kc).below hW, h1.2⟩)
        have HWX := Lib.hid (show ∀ (W : World) (_ : Below y65.heap.size y65 W) (D : Option Addr) (d : Nat), Sds W D n1 R1 → Calls Try.prog 16 #[.slice A9 n9 c9, .agg #[.int .i64 t1, .slice D n1 d]] W fun e w' => ∃ A' n' c', e = .returned (.slice A' n' c') ∧ (Nms w' A' n' zs ∧ n' ≤ 1000) ∧ Below W.heap.size W w' from fun W hW D d hD => by
          refine (Wanted_any A9 n9 c9 (delL L2 id) t1 D n1 d R1 W (HR1.out.below hW) (by omega) (HSDD.out W hW) hD (by omega)).mono ?_
          rintro e w' ⟨A1, n1, c1, rfl, ho, hb⟩
          rw [hzs3] at ho
          refine ⟨A1, n1, c1, rfl, ⟨Nms.own ho, ?_⟩, hb⟩
          have h5 := ho.1
          rw [ic_len] at h5
          have h6 := hzl
          omega)
        clear hzs hzs3 hzl
        refine wpM_take (i := 3) (oi := ⟨some 66, _, _, _, _, _⟩) (v := .bool true) rfl (by decide +kernel) (by decide +kernel) (by decide +kernel) (fun _ _ _ h => h) (Or.inl ⟨by rfl, ?_⟩) hb0 ?_
        case refine_1 =>
          intro w' hSw
          go_simp
          try (with_reducible rfl)
        try simp only [Act.put, List.setIfInBounds_toArray, List.set_cons_zero, List.set_cons_succ]
        refine wpM_take (i := 4) (oi := ⟨some 67, _, _, _, _, _⟩) (v := ?_) rfl (by decide +kernel) (by decide +kernel) (by decide +kernel) (fun _ _ _ h => h) (Or.inl ⟨by rfl, ?_⟩) hb0 ?_
        case refine_2 =>
          intro w' hSw
          go_simp
          try (with_reducible rfl)
        try simp only [Act.put, List.setIfInBounds_toArray, List.set_cons_zero, List.set_cons_succ]
        refine wpM_take (i := 6) (oi := ⟨some 69, _, _, _, _, _⟩) (v := ?_) rfl (by decide +kernel) (by decide +kernel) (by decide +kernel) (fun _ _ _ h => h) (Or.inl ⟨by rfl, ?_⟩) hb0 ?_
        case refine_2 =>
          intro w' hSw
          go_simp
          try (with_reducible rfl)
        try simp only [Act.put, List.setIfInBounds_toArray, List.set_cons_zero, List.set_cons_succ]
        refine wpM_take (i := 7) (oi := ⟨some 70, _, _, _, _, _⟩) (v := ?_) rfl (by decide +kernel) (by decide +kernel) (by decide +kernel) (fun _ _ _ h => h) (Or.inl ⟨by rfl, ?_⟩) hb0 ?_
        case refine_2 =>
          intro w' hSw
          go_simp
          try (with_reducible rfl)
        try simp only [Act.put, List.setIfInBounds_toArray, List.set_cons_zero, List.set_cons_succ]
        refine wpM_step (i := 5) (o := ⟨some 68, _, _, _, _, _⟩) rfl (by decide +kernel) (by decide) (fun K hK => ?_)
        go_simp
        refine (HLX.out _ hb0).mono ?_
        rintro e y68 ⟨rfl, rfl⟩
        refine hK.out _ _ hb0 ?_
        clear hK K
        try simp only [Act.put, List.setIfInBounds_toArray, List.set_cons_zero, List.set_cons_succ]
        refine wpM_take (i := 8) (oi := ⟨some 71, _, _, _, _, _⟩) (v := .bool true) rfl (by decide +kernel) (by decide +kernel) (by decide +kernel) (fun _ _ _ h => h) (Or.inl ⟨by rfl, ?_⟩) hb0 ?_
        case refine_1 =>
          intro w' hSw
          go_simp
          try (with_reducible rfl)
        try simp only [Act.put, List.setIfInBounds_toArray, List.set_cons_zero, List.set_cons_succ]
        refine wpM_take (i := 9) (oi := ⟨some 72, _, _, _, _, _⟩) (v := .bool true) rfl (by decide +kernel) (by decide +kernel) (by decide +kernel) (fun _ _ _ h => h) (Or.inl ⟨by rfl, ?_⟩) hb0 ?_
        case refine_1 =>
          intro w' hSw
          go_simp
          try (with_reducible rfl)
        try simp only [Act.put, List.setIfInBounds_toArray, List.set_cons_zero, List.set_cons_succ]
        refine wpM_take (i := 10) (oi := ⟨some 73, _, _, _, _, _⟩) (v := .bool true) rfl (by decide +kernel) (by decide +kernel) (by decide +kernel) (fun _ _ _ h => h) (Or.inl ⟨by rfl, ?_⟩) hb0 ?_
        case refine_1 =>
          intro w' hSw
          go_simp
          try (with_reducible rfl)
        try simp only [Act.put, List.setIfInBounds_toArray, List.set_cons_zero, List.set_cons_succ]
        refine wpM_take (i := 11) (oi := ⟨some 74, _, _, _, _, _⟩) (v := ?_) rfl (by decide +kernel) (by decide +kernel) (by decide +kernel) (fun _ _ _ h => h) (Or.inl ⟨by rfl, ?_⟩) hb0 ?_
        case refine_2 =>
          intro w' hSw
          go_simp
          try (with_reducible rfl)
        try simp only [Act.put, List.setIfInBounds_toArray, List.set_cons_zero, List.set_cons_succ]
        refine wpM_take (i := 12) (oi := ⟨some 75, _, _, _, _, _⟩) (v := ?_) rfl (by decide +kernel) (by decide +kernel) (by decide +kernel) (fun _ _ _ h => h) (Or.inl ⟨by rfl, ?_⟩) hb0 ?_
        case refine_2 =>
          intro w' hSw
          have d0' := keepcell hSw d0
          have d1' := keepcell hSw d1
          go_simp
          try (with_reducible rfl)
        try simp only [Act.put, List.setIfInBounds_toArray, List.set_cons_zero, List.set_cons_succ]
        refine wpM_take (i := 15) (oi := ⟨some 78, _, _, _, _, _⟩) (v := ?_) rfl (by decide +kernel) (by decide +kernel) (by decide +kernel) (fun _ _ _ h => h) (Or.inl ⟨by rfl, ?_⟩) hb0 ?_
        case refine_2 =>
          intro w' hSw
          go_simp
          try (with_reducible rfl)
        try simp only [Act.put, List.setIfInBounds_toArray, List.set_cons_zero, List.set_cons_succ]
        refine wpM_take (i := 16) (oi := ⟨some 79, _, _, _, _, _⟩) (v := ?_) rfl (by decide +kernel) (by decide +kernel) (by decide +kernel) (fun _ _ _ h => h) (Or.inl ⟨by rfl, ?_⟩) hb0 ?_
        case refine_2 =>
          intro w' hSw
          have d0' := keepcell hSw d0
          have d1' := keepcell hSw d1
          go_simp
          try (with_reducible rfl)
        try simp only [Act.put, List.setIfInBounds_toArray, List.set_cons_zero, List.set_cons_succ]
        refine wpM_step (i := 13) (o := ⟨some 76, _, _, _, _, _⟩) rfl (by decide +kernel) (by decide) (fun K hK => ?_)
        rw [if_pos (by rfl)]
        go_simp
        refine (To_any t1 A1 n1 c1 R1 _ (HT3.out _ hb0) (by omega)).mono ?_
        rintro e y76 ⟨D1, q1, rfl, s1, h1⟩
        have hb1 := hb0.trans (h1.mono hb0.size)
        refine hK.out _ _ hb1 ?_
        clear hK K
        try simp only [Act.put, List.setIfInBounds_toArray, List.set_cons_zero, List.set_cons_succ]
        refine wpM_step (i := 14) (o := ⟨some 77, _, _, _, _, _⟩) rfl (by decide +kernel) (by decide) (fun K hK => ?_)
        rw [if_pos (by rfl)]
        go_simp
        refine (HCX.out _ hb1 D1 q1 s1).mono ?_
        rintro e y77 ⟨D2, k2, q2, rfl, ⟨s2, z2⟩, h2⟩
        have hb2 := hb1.trans (h2.mono hb1.size)
        refine hK.out _ _ hb2 ?_
        clear hK K
        try simp only [Act.put, List.setIfInBounds_toArray, List.set_cons_zero, List.set_cons_succ]
        refine wpM_step (i := 17) (o := ⟨some 80, _, _, _, _, _⟩) rfl (by decide +kernel) (by decide) (fun K hK => ?_)
        rw [if_pos (by rfl)]
        go_simp
        refine (To_any t1 A1 n1 c1 R1 _ (HT3.out _ hb2) (by omega)).mono ?_
        rintro e y80 ⟨D3, q3, rfl, s3, h3⟩
        have hb3 := hb2.trans (h3.mono hb2.size)
        refine hK.out _ _ hb3 ?_
        clear hK K
        try simp only [Act.put, List.setIfInBounds_toArray, List.set_cons_zero, List.set_cons_succ]
        refine wpM_step (i := 18) (o := ⟨some 81, _, _, _, _, _⟩) rfl (by decide +kernel) (by decide) (fun K hK => ?_)
        rw [if_pos (by rfl)]
        go_simp
        refine (HWX.out _ hb3 D3 q3 s3).mono ?_
        rintro e y81 ⟨D4, k4, q4, rfl, ⟨s4, z4⟩, h4⟩
        have hb4 := hb3.trans (h4.mono hb3.size)
        refine hK.out _ _ hb4 ?_
        clear hK K
        try simp only [Act.put, List.setIfInBounds_toArray, List.set_cons_zero, List.set_cons_succ]
        refine wpM_done (by decide +kernel) ?_
        have s2' := At.below (At.below s2 h3) h4
        simp only [List.drop_succ_cons, List.drop_zero]
        have CS := Lib.hid (Same_any D2 D4 k2 k4 q2 q4 zs zs _ s2' s4 (by omega))
        have HBZ := Lib.hid (HRS1.out.below hb4)
        clear s1 s2 s2' s3 s4 hb0 hb1 hb2 hb3 hb4 h1 h2 h3 h4
        go_wp2_with fail
        refine CS.out.mono ?_
        rintro e W' ⟨rfl, hb⟩
        have HBE := Lib.hid (HB2.out.trans ((HBZ.out.below hb).bl.mono HB2.out.size))
        clear hb CS HBZ
        simp only [decide_true]
        go_wp2
        go_ret
        exact ⟨rfl, HBE.out⟩

set_option maxRecDepth 100000 in
theorem boxindexReplaced_lifted (os : Os) (started : os.Started) (H : Type) (enc : TypeId × Value → H) :
    ReturnsInHanded {} Try.checked os 7 .any (Rows.boxindexReplacedSpec.pre6 enc Try.prog Try.f7 Rows.boxindexReplacedRow.domain false) (Rows.boxindexReplacedSpec.post enc Try.prog Try.f7 false true false false) := by
  refine law_lifted (C := Try.checked) (B := 4) Try.own started (by kernel_rfl) Try.func7
    (ChangeSpec.witness6 (enc := enc) (C := Try.checked) false ⟨#[], #[.slice none 0 0, .int .i64 0, .agg #[.int .i64 0, .slice none 0 0]], []⟩ 8 (by kernel_rfl) (by kernel_rfl) (by kernel_rfl) (by kernel_rfl))
    Try.laidOut (by kernel_rfl) rfl rfl rfl Try.underlying4 (fun ds h => match ds, h with | [_, _, _], _ => rfl) ?_
  intro W base args ds ps hval hA hlt hsz
  rw [Try.params7] at hA hval hsz
  obtain ⟨v0, vs0, d0, ds0, p0, q0, hargs, rfl, rfl, h0, r0⟩ := trodAll_cons hA
  obtain ⟨v1, vs1, d1, ds1, p1, q1, rfl, rfl, rfl, h1, r1⟩ := trodAll_cons r0
  obtain ⟨v2, vs2, d2, ds2, p2, q2, rfl, rfl, rfl, h2, r2⟩ := trodAll_cons r1
  obtain ⟨rfl, rfl, rfl⟩ := trodAll_nil r2
  obtain rfl : args = #[v0, v1, v2] := by cases args; simp_all
  obtain ⟨A0, n0, c0, R0, rfl, k0, l0, g0⟩ := open_opsS (hval 0 22 v0 rfl rfl) h0 (fun x hx => hlt x (by simp [hx])) hsz (j := 0) rfl rfl
  obtain ⟨a1, rfl, rfl, rfl, w1⟩ := open_int Try.underlying2 (hval 1 2 v1 rfl rfl) h1
  obtain ⟨l1, g1⟩ := i64_bd w1
  obtain ⟨x2, A2, n2, c2, R2, rfl, k2, l2, g2⟩ := open_Box (hval 2 32 v2 rfl rfl) h2 (fun x hx => hlt x (by simp [hx]))
  exact boxindexReplaced_walk A0 n0 c0 R0 a1 x2 A2 n2 c2 R2 W k0 l0 g0 l1 g1 k2 l2 g2

theorem boxindexReplaced_over : Rows.boxindexReplacedRow.holds Try.pinned (OpenSpec.ofChange Rows.boxindexReplacedSpec) :=
  OpenClaim.holds_of_wide 7 Try.f7 rfl rfl rfl rfl rfl rfl rfl ⟨rfl, rfl, rfl, rfl, rfl⟩ rfl rfl rfl rfl rfl (by kernel_rfl) Try.func7 (by kernel_rfl)
    (of_decide_eq_true (by kernel_rfl)) (by unfold Func.isWrapper; first | (rw [if_pos (by decide +kernel)]; kernel_rfl) | (rw [if_neg (by decide +kernel)]; exact ⟨rfl, rfl⟩))
    (fun os started H enc _ => boxindexReplaced_lifted os started H enc)

theorem boxindexReplaced_proved : Rows.BoxindexReplacedSaid := boxindexReplaced_over
end Go.Proofs.Ytgenpldldgplhaa
