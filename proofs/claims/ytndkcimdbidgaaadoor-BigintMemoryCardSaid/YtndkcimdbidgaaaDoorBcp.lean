/- Copies of integers. -/
import Derived.Test.YtndkcimdbidgaaaDoorBnm
import Derived.Test.YtndkcimdbidgaaaDoorApf
namespace Go.Proofs.YtndkcimdbidgaaaDoor
open Go.ChangeShapes Go.WideShapes Go.ChangeAt Go.RowKit Go.ChangeMaps

section
variable {P : Program} (w : World)
theorem run_append_mine (t tx ty e : TypeId) (i : TypeInfo) (z : Value) (size bytes : Nat) (ht : P.underlying t = some (.slice e)) (hi : P.info? e = some i) (hz : i.zero = some z)
    (hsize : i.size = size) (hby : i.bytes = bytes) (hzs : z.cells.size = size) (g : Nat) (hg : w.heap[g]? = some (.cells #[] e (0, 0)))
    (x : Value) (m : Nat) (news : List Value) (hs : Src P size tx x m news w) (h63 : m ≤ maxLen) (hbytes : m * bytes ≤ 140737488355328) :
    ∃ (g' c : Nat) (w' : World) (cs : Array Value), (Builtin.append_ #[t, tx] ty #[.slice (some ⟨g, 0, none⟩) 0 0, x]).run P w = .ok (.slice (some ⟨g', 0, none⟩) m c) w' ∧ Blk w' g' e cs ∧ (g' = g ∨ w.heap.size ≤ g') ∧ (∀ (j : Nat) (v : Value), news[j]? = some v → (cs : Array Value)[j]? = some v) ∧ m ≤ c ∧ c ≤ maxLen ∧ Below w.heap.size w w' := by
  subst hsize
  subst hby
  have hl := hs.newsLen
  have h1 := hs.one
  by_cases hm : m = 0
  · subst hm
    have hn : news = [] := List.eq_nil_of_length_eq_zero (by simpa using hl)
    subst hn
    have hst := run_storeCells_at P g 0 e [] 0 #[] w hg (by simp) h1
    simp only [Nat.add_zero] at hst
    refine ⟨g, 0, w, #[], ?_, hg, .inl rfl, fun j v hj => by simp at hj, Nat.le_refl _, by unfold maxLen; omega, Below.refl _ _⟩
    rcases hs.kind with ⟨e', hk⟩ | hk <;> simp [Builtin.append_, run_underlying ht, run_underlying hk, sizeOf, typeInfo, hi, hs.len, hs.cells, Addr.add_lit, hst, blk_same hg]
  · have hr := run_append_grow_src (P := P) w t tx ty e i z ht hi hz (some ⟨g, 0, none⟩) 0 0 [] (run_firstCells_some w.drew i.size 0 ⟨g, 0, none⟩ 0 0 [] (by simp) (fun j u h => by simp at h)) x m news hs (by omega) (by unfold maxLen at h63; omega) (growslice_fits (by omega) (by simpa using hbytes))
    simp only [Nat.zero_add, List.nil_append] at hr
    have hge := grownCap_ge w m 0 e
    have hcm : grownCap w m 0 e ≤ maxLen := grownCap_le_maxLen w m 0 e h63
    refine ⟨_, _, _, _, hr, heap_alloc_new w.drew _, .inr (Nat.le_refl _), fun j v hj => ?_, hge, hcm, ⟨rfl, rfl, rfl, by simp, fun k hk => Below.heap_alloc w.drew _ k hk⟩⟩
    have hjl : j < news.length := (List.getElem?_eq_some_iff.1 hj).1
    rw [Array.getElem?_append_left (by simpa using hjl)]
    simpa using hj
end
theorem wp_append_mine {P : Program} (w : World) {o : Oper} {a : Act} {K : Act → World → Prop} {Q : Exit → Act → World → Prop} (s x : Operand) (t tx : TypeId)
    (ho : o.op = .call { callee := .builtin .append, args := #[s, x], argTypes := #[t, tx] })
    (e : TypeId) (i : TypeInfo) (z : Value) (size bytes : Nat) (ht : P.underlying t = some (.slice e)) (hi : P.info? e = some i) (hz : i.zero = some z)
    (hsize : i.size = size) (hby : i.bytes = bytes) (hzs : z.cells.size = size) (g : Nat) (hv : a.eval s = .slice (some ⟨g, 0, none⟩) 0 0) (hg : w.heap[g]? = some (.cells #[] e (0, 0)))
    (y : Value) (m : Nat) (news : List Value) (hy : a.eval x = y) (hs : Src P size tx y m news w) (h63 : m ≤ maxLen) (hbytes : m * bytes ≤ 140737488355328)
    (h : ∀ (g' c : Nat) (w' : World) (cs : Array Value), Blk w' g' e cs → (g' = g ∨ w.heap.size ≤ g') → (∀ (j : Nat) (v : Value), news[j]? = some v → (cs : Array Value)[j]? = some v) → m ≤ c → c ≤ maxLen → Below w.heap.size w w' → K (a.put o.dst (.slice (some ⟨g', 0, none⟩) m c)) w') : o.wp P a w K Q := by
  obtain ⟨g', c, w', cs, hrun, h2, h3, h4, h5, h6, h7⟩ := run_append_mine (P := P) w t tx o.type e i z size bytes ht hi hz hsize hby hzs g hg y m news hs h63 hbytes
  unfold Oper.wp execOp
  simp only [ho, resolve, invoke, builtin, Sem.run_bind, Sem.run_pure, Result.andThen_ok, List.map_toArray, List.map_cons, List.map_nil, hv, hy, hrun]
  exact h g' c w' cs h2 h3 h4 h5 h6 h7
set_option maxRecDepth 100000 in
set_option maxHeartbeats 4000000 in
theorem Copy_any (w : World) (na : Bool) (A : Option Addr) (n c : Nat) (D : List Nat) (hd : DG w A n D) (hn : n ≤ 100000) : Calls Tryd.prog 46 #[.agg #[.bool na, .slice A n c]] w fun e w' => ∃ A' c', e = .returned (.agg #[.bool na, .slice A' n c']) ∧ Own w' w.heap.size A' n D ∧ Sl A' n c' ∧ Below w.heap.size w w' := by
  obtain ⟨i0, hi, hz0, hz1, hz2⟩ := info_parts (show (Tryd.prog.info? 47).map (fun i => (i.zero, i.size, i.bytes)) = some (some (.int .u32 0), 1, 4) by kernel_rfl)
  obtain ⟨W0, hW0⟩ : ∃ W, W = (w.alloc (.cells #[.bool na, .slice A n c] 24)).alloc (.cells #[.bool false, .slice none 0 0] 24) := ⟨_, rfl⟩
  have HB := Lib.hid (show Below w.heap.size w W0 by rw [hW0]; exact ((Below.refl _ w).alloc (Nat.le_refl _) _).alloc (by simp) _)
  have K2 := Lib.hid (show Blk W0 w.heap.size 24 #[.bool na, .slice A n c] by rw [hW0]; exact (Blk.new _ _ _).alloc _)
  have K4 := Lib.hid (show Blk W0 (w.heap.size + 1) 24 #[.bool false, .slice none 0 0] by rw [hW0]; exact Blk.new_ (by simp) rfl)
  have HDG := Lib.hid hd
  have HL1 := hd.1
  clear hd
  have K2_0 : W0.cell? ⟨w.heap.size, 0, none⟩ = some (.bool na) := K2.out.cell 0
  have K2_1 : W0.cell? ⟨w.heap.size, 1, none⟩ = some (.slice A n c) := K2.out.cell 1
  go_enter Tryd.func46, Tryd.ntmps46
  go_upto_region 1 with fail
  rw [← hW0]
  clear hW0
  have hy0 : Below W0.heap.size W0 W0.drew := below_drew (Below.refl _ _)
  refine wp_region_mix 7 (fun w' => Below W0.heap.size W0 w') (by kernel_rfl) (by decide) ?_
  generalize W0.drew = y0 at hy0 ⊢
  refine wpM_take (i := 0) (oi := ⟨some 3, _, _, _, _, _⟩) (v := ?_) rfl (by decide +kernel) (by decide +kernel) (by decide +kernel) (fun _ _ _ h => h) (Or.inl ⟨by rfl, ?_⟩) hy0 ?_
  case refine_2 =>
    intro w' hSw
    have K2_0' := keepcell hSw K2_0
    have K2_1' := keepcell hSw K2_1
    go_simp
    try (with_reducible rfl)
  try simp only [Act.put, List.setIfInBounds_toArray, List.set_cons_zero, List.set_cons_succ]
  refine wpM_take (i := 1) (oi := ⟨some 4, _, _, _, _, _⟩) (v := ?_) rfl (by decide +kernel) (by decide +kernel) (by decide +kernel) (fun _ _ _ h => h) (Or.inl ⟨by rfl, ?_⟩) hy0 ?_
  case refine_2 =>
    intro w' hSw
    have K2_0' := keepcell hSw K2_0
    have K2_1' := keepcell hSw K2_1
    go_simp
    try (with_reducible rfl)
  try simp only [Act.put, List.setIfInBounds_toArray, List.set_cons_zero, List.set_cons_succ]
  refine wpM_take (i := 3) (oi := ⟨some 6, _, _, _, _, _⟩) (v := ?_) rfl (by decide +kernel) (by decide +kernel) (by decide +kernel) (fun _ _ _ h => h) (Or.inl ⟨by rfl, ?_⟩) hy0 ?_
  case refine_2 =>
    intro w' hSw
    have K2_0' := keepcell hSw K2_0
    have K2_1' := keepcell hSw K2_1
    go_simp
    try (with_reducible rfl)
  try simp only [Act.put, List.setIfInBounds_toArray, List.set_cons_zero, List.set_cons_succ]
  refine wpM_take (i := 4) (oi := ⟨some 7, _, _, _, _, _⟩) (v := ?_) rfl (by decide +kernel) (by decide +kernel) (by decide +kernel) (fun _ _ _ h => h) (Or.inl ⟨by rfl, ?_⟩) hy0 ?_
  case refine_2 =>
    intro w' hSw
    have K2_0' := keepcell hSw K2_0
    have K2_1' := keepcell hSw K2_1
    go_simp
    try (with_reducible rfl)
  try simp only [Act.put, List.setIfInBounds_toArray, List.set_cons_zero, List.set_cons_succ]
  refine wpM_step (i := 2) (o := ⟨some 5, _, _, _, _, _⟩) rfl (by decide +kernel) (by decide) (fun K hK => ?_)
  go_simp
  have HG0 : Blk (y0.alloc (.cells #[] 47)) y0.heap.size 47 #[] := Blk.new _ _ _
  refine hK.out _ _ (hy0.alloc hy0.size _) ?_
  clear hK K
  obtain ⟨g0, hg0⟩ : ∃ g, y0.heap.size = g := ⟨_, rfl⟩
  have hy1 := hy0.alloc hy0.size (.cells #[] 47)
  have hge0 : W0.heap.size ≤ g0 := by rw [← hg0]; exact hy0.size
  rw [hg0] at HG0
  revert HG0 hy1
  generalize y0.alloc (.cells #[] 47) = y1
  intro HG0 hy1
  try simp only [hg0]
  try simp only [Act.put, List.setIfInBounds_toArray, List.set_cons_zero, List.set_cons_succ]
  refine wpM_step (i := 5) (o := ⟨some 8, _, _, _, _, _⟩) rfl (by decide +kernel) (by decide) (fun K hK => ?_)
  refine ite_pos (by rfl) ?_
  refine wp_append_mine y1 _ _ 22 22 rfl 47 i0 _ 1 4 Tryd.underlying22 hi hz0 hz1 hz2 rfl g0 rfl HG0 _ n (dcl D) rfl (src_dg ((HDG.out.below HB.out).below hy1)) (by unfold maxLen; omega) (by omega) ?_
  intro g1 c1 y2 cs HK1 hge hcs hnc hcm hc
  have hy2 : Below W0.heap.size W0 y2 := hy1.trans (hc.mono hy1.size)
  have HO1 := Lib.hid (show Own y2 w.heap.size (some ⟨g1, 0, none⟩) n D from ⟨HL1, HDG.out.2.1, fun _ => ⟨g1, 0, cs, rfl, by
    have h1 := HB.out.size
    have h2 := hy1.size
    rcases hge with e | e <;> omega, HK1, fun j d hj => by rw [Nat.zero_add]; exact hcs j _ (dcl_get hj)⟩⟩)
  have HS1 := Lib.hid (show Sl (some ⟨g1, 0, none⟩) n c1 from Sl.own hnc hcm)
  clear HK1 hge hcs hc hnc hcm
  refine hK.out _ _ hy2 ?_
  clear hK K
  try simp only [Act.put, List.setIfInBounds_toArray, List.set_cons_zero, List.set_cons_succ]
  refine wpM_take (i := 6) (oi := ⟨some 9, _, _, _, _, _⟩) (v := ?_) rfl (by decide +kernel) (by decide +kernel) (by decide +kernel) (fun _ _ _ h => h) (Or.inl ⟨by rfl, ?_⟩) hy2 ?_
  case refine_2 =>
    intro w' hSw
    have K2_0' := keepcell hSw K2_0
    have K2_1' := keepcell hSw K2_1
    go_simp
    try (with_reducible rfl)
  try simp only [Act.put, List.setIfInBounds_toArray, List.set_cons_zero, List.set_cons_succ]
  refine wpM_done (by decide +kernel) ?_
  simp only [List.drop_succ_cons, List.drop_zero]
  have HB9 := Lib.hid (HB.out.trans (hy2.mono HB.out.size))
  have K9 := Lib.hid (K4.out.below hy2)
  go_wp2_with ((refine wpList_store_row (o := ⟨none, _, _, _, _, _⟩) rfl 24 _ _ rfl (w.heap.size + 1) #[.bool na, .slice (some ⟨g1, 0, none⟩) n c1] rfl rfl 24 _ K9.out (by kernel_rfl) rfl (by simp [Value.oneCell']) ?_))
  refine bodyPost_ret (results_c1 rfl _ _ _ (w.heap.size + 1) _ rfl (load24 (K9.out.setRow (ds := #[.bool na, .slice (some ⟨g1, 0, none⟩) n c1])) rfl)) rfl ?_
  exact ⟨_, _, rfl, HO1.out.row K9.out _, HS1.out, HB9.out.grown (grown_row y2 (w.heap.size + 1) _) HB9.out.size (fun j hj => by first | (injection hj with hj; omega) | omega | (cases hj; exact Nat.le_refl _))⟩
set_option maxRecDepth 100000 in
set_option maxHeartbeats 4000000 in
theorem cp_any (w : World) (na : Bool) (A : Option Addr) (n c : Nat) (D : List Nat) (hd : DG w A n D) (hn : n ≤ 100000) : Calls Tryd.prog 16 #[.agg #[.bool na, .slice A n c]] w fun e w' => ∃ A' c', e = .returned (.agg #[.bool na, .slice A' n c']) ∧ Own w' w.heap.size A' n D ∧ Sl A' n c' ∧ Below w.heap.size w w' := by
  obtain ⟨W0, hW0⟩ : ∃ W, W = (w.alloc (.cells #[.bool na, .slice A n c] 24)).alloc (.cells #[.bool false, .slice none 0 0] 24) := ⟨_, rfl⟩
  have HB := Lib.hid (show Below w.heap.size w W0 by rw [hW0]; exact ((Below.refl _ w).alloc (Nat.le_refl _) _).alloc (by simp) _)
  have K2 := Lib.hid (show Blk W0 w.heap.size 24 #[.bool na, .slice A n c] by rw [hW0]; exact (Blk.new _ _ _).alloc _)
  have K4 := Lib.hid (show Blk W0 (w.heap.size + 1) 24 #[.bool false, .slice none 0 0] by rw [hW0]; exact Blk.new_ (by simp) rfl)
  have HDG := Lib.hid hd
  have HL1 := hd.1
  have HL0 : (loadVar 24 ⟨w.heap.size, 0, none⟩).run Tryd.prog W0 = .ok (.agg #[.bool na, .slice A n c]) W0 := load24 K2.out rfl
  have CC := Lib.hid (Copy_any W0 na A n c D (hd.below HB.out) hn)
  clear hd
  go_enter Tryd.func16, Tryd.ntmps16
  go_wp2_with fail
  rw [← hW0]
  refine CC.out.mono ?_
  rintro e w2 ⟨A1, c1, rfl, ho, hsl, hb⟩
  have HO1 := Lib.hid (ho.mono HB.out.size)
  have HS1 := Lib.hid hsl
  have HB9 := Lib.hid (HB.out.trans (hb.mono HB.out.size))
  have K9 := Lib.hid (K4.out.below hb)
  clear hb ho hsl hW0
  go_wp2_with ((refine wpList_store_row (o := ⟨none, _, _, _, _, _⟩) rfl 24 _ _ rfl (w.heap.size + 1) #[.bool na, .slice A1 n c1] rfl rfl 24 _ K9.out (by kernel_rfl) rfl (by simp [Value.oneCell']) ?_))
  refine bodyPost_ret (results_c1 rfl _ _ _ (w.heap.size + 1) _ rfl (load24 (K9.out.setRow (ds := #[.bool na, .slice A1 n c1])) rfl)) rfl ?_
  exact ⟨_, _, rfl, HO1.out.row K9.out _, HS1.out, HB9.out.grown (grown_row w2 (w.heap.size + 1) _) HB9.out.size (fun j hj => by first | (injection hj with hj; omega) | omega | (cases hj; exact Nat.le_refl _))⟩
end Go.Proofs.YtndkcimdbidgaaaDoor
