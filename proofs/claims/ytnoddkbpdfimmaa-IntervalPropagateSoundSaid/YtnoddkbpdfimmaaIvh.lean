/- One element of a row deleted in place. -/
import Derived.Test.YtnoddkbpdfimmaaIvg
import Derived.Lib.SliceRun
namespace Go.Proofs.Ytnoddkbpdfimmaa
open Go.ChangeShapes Go.WideShapes Go.ChangeAt Go.RowKit Go.ChangeMaps

theorem Try.info61 : (Try.prog.info? 61).map (fun i => (i.zero, i.size, i.bytes)) = some (some (.agg #[.int .i64 0, .int .i64 0]), 2, 16) := by kernel_rfl
set_option maxRecDepth 100000 in
set_option maxHeartbeats 1000000 in
theorem CloneC_any (A : Option Addr) (n c : Nat) (R : List Iv) (w : World) (h : Ivs w A n R) (hn : n ≤ 100000) : Calls Try.prog 54 #[.slice A n c] w fun e w' => ∃ v, e = .returned v ∧ OR 61 w' w.heap.size v R ∧ Below w.heap.size w w' := by
  obtain ⟨i0, hi, hz0, hz1, hz2⟩ := info_parts Try.info61
  have HH := Lib.hid h
  have HL := Lib.hid h.len
  have qn : ∀ (w : World) (a : Option Addr) (n c n' c' : Nat), (binOp .eql 54 (.slice a n c) (.slice none n' c')).run Try.prog w = .ok (.bool a.isNone) w := fun w a n c n' c' => Lib.run_eql_slice_nil w _ _ a n c n' c' Try.underlying54
  rcases A with _ | ⟨b, off, pth⟩
  · have hz : n = 0 := by
      rcases Nat.eq_zero_or_pos n with h0 | h0
      · exact h0
      · obtain ⟨b, off, e, -⟩ := h.at h0
        cases e
    subst hz
    have HR := Lib.hid (show R = [] from List.eq_nil_of_length_eq_zero HL.out)
    clear h
    go_enter Try.func54, Try.ntmps54
    go_wp2
    go_ret
    exact ⟨_, rfl, by rw [HR.out]; exact World.ownsRow_nil _ _ _ _, Below.refl _ _⟩
  · have HO := Lib.hid (show (w.alloc (.cells #[] 61)).ownsRow w.heap.size 61 2 (.slice (some ⟨w.heap.size, 0, none⟩) 0 0) 0 [] from ⟨rfl, .inr ⟨w.heap.size, 0, #[], rfl, Nat.le_refl _, heap_alloc_new w _, Nat.le_refl _, Nat.zero_le _, rfl, rfl⟩⟩)
    have HS := Lib.hid (At.src (P := Try.prog) (c := c) Try.underlying54 (At.alloc HH.out (.cells #[] 61)) (ivs_one R) (by decide))
    clear h
    go_enter Try.func54, Try.ntmps54
    go_wp2_with (at_builtin; go_loud (refine wpList_append_src _ rfl _ _ 54 54 rfl w.heap.size 61 i0 _ 2 16 Try.underlying54 hi hz0 hz1 hz2 rfl _ 0 [] rfl HO.out _ n (R.flatMap Iv.cells) rfl HS.out ?c1 ?c2 ?c3 ?_))
    case c1 => unfold maxLen; omega
    case c2 => omega
    case c3 => simp
    intro v' w1 own' hg _
    have HB := Lib.hid ((((Below.refl _ w).alloc (Nat.le_refl _) (.cells #[] 61)).grown hg (by simp) (fun j hj => (HO.out.lt j hj).1)))
    have HR := Lib.hid own'
    clear own' hg
    go_wp2
    go_ret
    refine ⟨_, rfl, ?_, HB.out⟩
    have h := HR.out
    unfold OR
    rw [HL.out]
    simpa using h

theorem run_append_room {P : Program} {w : World} {t tx ty e : TypeId} {i : TypeInfo} {size : Nat} (ht : P.underlying t = some (.slice e)) (hi : P.info? e = some i) (hsize : i.size = size)
    {g n cap m : Nat} {cur : Array Value} {x : Value} {news : List Value} (hg : Blk w g e cur) (hroom : n + m ≤ cap) (hcs : cur.size = cap * size) (hs : Src P size tx x m news w) :
    (Builtin.append_ #[t, tx] ty #[.slice (some ⟨g, 0, none⟩) n cap, x]).run P w = .ok (.slice (some ⟨g, 0, none⟩) (n + m) cap) (w.setRow g (cur.toList.take (n * size) ++ news ++ cur.toList.drop (n * size + news.length)).toArray) := by
  subst hsize
  have hl := hs.newsLen
  have hfit : n * i.size + news.length ≤ cur.size := by rw [hl, hcs, ← Nat.add_mul]; exact Nat.mul_le_mul_right _ hroom
  have hst := run_storeCells_at P g (n * i.size) e news 0 cur w hg (by simpa using hfit) hs.one
  simp only [Nat.add_zero] at hst
  rcases hs.kind with ⟨e', hk⟩ | hk <;> simp [Builtin.append_, run_underlying ht, run_underlying hk, sizeOf, typeInfo, hi, hs.len, hroom, hs.cells, Addr.add_lit, hst]
theorem run_clear_one {P : Program} {w : World} {t e ty : TypeId} {i : TypeInfo} {z : Value} (ht : P.underlying t = some (.slice e)) (hi : P.info? e = some i) (hz : i.zero = some z) (zs : List Value) (hzc : (Builtin.zeroCells z.cells 1).toList = zs) (h1 : ∀ v ∈ zs, v.oneCell' = true)
    {g o c : Nat} {cur : Array Value} (hg : Blk w g e cur) (hfit : o + zs.length ≤ cur.size) :
    (Builtin.clear_ #[t] ty #[.slice (some ⟨g, o, none⟩) 1 c]).run P w = .ok (.tuple #[]) (w.setRow g (cur.toList.take o ++ zs ++ cur.toList.drop (o + zs.length)).toArray) := by
  have hst := run_storeCells_at P g o e zs 0 cur w hg (by simpa using hfit) h1
  simp only [Nat.add_zero] at hst
  have hv : (zeroValue e).run P w = .ok z w := by simp [zeroValue, typeInfo, hi, hz]
  simp [Builtin.clear_, run_underlying ht, hv, hzc, hst]
theorem wpList_append_room {P : Program} {ops : Array Oper} {rest : List Oper} {o : Oper} {a : Act} {w : World} {Q : Exit → Act → World → Prop} (hgd : o.guard = none) (s x : Operand) (t tx : TypeId)
    (ho : o.op = .call { callee := .builtin .append, args := #[s, x], argTypes := #[t, tx] })
    {e : TypeId} {i : TypeInfo} {size : Nat} (ht : P.underlying t = some (.slice e)) (hi : P.info? e = some i) (hsize : i.size = size)
    {g n cap m q : Nat} {cur : Array Value} {y : Value} {news : List Value} (hv : a.eval s = .slice (some ⟨g, 0, none⟩) n cap) (hy : a.eval x = y) (hg : Blk w g e cur) (hroom : n + m ≤ cap) (hcs : cur.size = cap * size) (hs : Src P size tx y m news w) (hq : n + m = q)
    {W' : World} (hW : W' = w.setRow g (cur.toList.take (n * size) ++ news ++ cur.toList.drop (n * size + news.length)).toArray) (h : wpList P ops Q rest (a.put o.dst (.slice (some ⟨g, 0, none⟩) q cap)) W') : wpList P ops Q (o :: rest) a w :=
  wpList_plain hgd fun K hK => by
    have hrun := run_append_room (t := t) (ty := o.type) ht hi hsize hg hroom hcs hs
    rw [hq, ← hW] at hrun
    unfold Oper.wp execOp
    simp only [ho, resolve, invoke, builtin, Sem.run_bind, Sem.run_pure, Result.andThen_ok, List.map_toArray, List.map_cons, List.map_nil, hv, hy, hrun]
    exact hK _ _ h
theorem flat_drop : ∀ (L : List Iv) (k : Nat), (L.drop k).flatMap Iv.cells = (L.flatMap Iv.cells).drop (k * 2)
  | [], k => by simp
  | x :: L, 0 => by simp
  | x :: L, k + 1 => by
    rw [List.drop_succ_cons, flat_drop L k, show (k + 1) * 2 = k * 2 + 1 + 1 by omega]
    rfl
theorem flat_take : ∀ (L : List Iv) (k : Nat), (L.take k).flatMap Iv.cells = (L.flatMap Iv.cells).take (k * 2)
  | [], k => by simp
  | x :: L, 0 => by simp
  | x :: L, k + 1 => by
    rw [List.take_succ_cons, show (k + 1) * 2 = k * 2 + 1 + 1 by omega]
    show _ ++ (L.take k).flatMap Iv.cells = _
    rw [flat_take L k]
    rfl
set_option maxRecDepth 100000 in
set_option maxHeartbeats 1000000 in
theorem Delete_any (v : Value) (base k : Nat) (L : List Iv) (w : World) (h : OR 61 w base v L) (hk : k < L.length) (hn : L.length ≤ 64) (hb : base ≤ w.heap.size) : Calls Try.prog 53 #[v, .int .i64 (k : Int), .int .i64 ((k : Int) + 1)] w fun e w' => ∃ v', e = .returned v' ∧ OR 61 w' base v' (L.eraseIdx k) ∧ Below base w w' ∧ w.grownBy w' v.ownBlock := by
  obtain ⟨i0, hi, hz0, hz1, hz2⟩ := info_parts Try.info61
  have HO := Lib.hid h
  obtain ⟨n, hln⟩ : ∃ n, L.length = n := ⟨_, rfl⟩
  have HN := Lib.hid hln
  have h3 := h.2
  rw [hln] at h3 hk hn
  rcases h3 with ⟨rfl, hl⟩ | ⟨g, cap, cur, rfl, hg, hh, hnc, hcap, hsz, htake⟩
  · omega
  clear hln
  have HG := Lib.hid (show Blk w g 61 cur from hh)
  have HT := Lib.hid htake
  have HZ := Lib.hid hsz
  have hkcN : k ≤ cap := by omega
  have hk1N : k + 1 ≤ cap := by omega
  have hk1n : k + 1 ≤ n := by omega
  obtain ⟨p, rfl⟩ : ∃ p, n = p + 1 := ⟨n - 1, by omega⟩
  obtain ⟨m, hm⟩ : ∃ m, p - k = m := ⟨_, rfl⟩
  have hmk : p + 1 - (k + 1) = m := by omega
  have hk01 : (0 : Int) ≤ (k : Int) + 1 := by omega
  have hcp : ¬ cap = p := by omega
  have hpc : p + 1 ≤ cap := hnc
  have hp0 : (0 : Int) ≤ (p : Int) := by omega
  obtain ⟨X, hX⟩ : ∃ X, (if cap = k + 1 then some (Addr.mk g 0 none) else some ⟨g, (k + 1) * 2, none⟩) = X := ⟨_, rfl⟩
  have HAT : Hid (At w X m 2 ((L.drop (k + 1)).flatMap Iv.cells)) := Lib.hid (by
    refine ⟨by rw [iv_len, List.length_drop, HN.out]; omega, fun h0 => ⟨g, (k + 1) * 2, ?_, HG.out.lt, fun j u hj => ?_⟩⟩
    · rw [← hX, if_neg (by omega)]
    · rw [flat_drop, List.getElem?_drop] at hj
      have hlt : (k + 1) * 2 + j < (L.flatMap Iv.cells).length := by
        rcases Nat.lt_or_ge ((k + 1) * 2 + j) (L.flatMap Iv.cells).length with h | h
        · exact h
        · rw [List.getElem?_eq_none h] at hj; cases hj
      rw [iv_len, HN.out] at hlt
      have h4 : w.ownsRow base 61 2 (.slice (some ⟨g, 0, none⟩) (p + 1) cap) (p + 1) (L.flatMap Iv.cells) := by have := HO.out; unfold OR at this; rwa [HN.out] at this
      exact (World.ownsRow.cellAt h4 _ hlt).trans hj)
  have hki : (k : Int) < (p : Int) + 1 := by omega
  have hk0 : (0 : Int) ≤ (k : Int) := by omega
  have hk1 : (k : Int) + 1 ≤ (p : Int) + 1 := by omega
  have hkc : (k : Int) + 1 ≤ cap := by omega
  have hnci : (p : Int) + 1 ≤ cap := by omega
  have HBG := Lib.hid hg
  clear h hh htake hsz hg
  go_enter Try.func53, Try.ntmps53
  go_upto_region 5 with fail
  have hy0 : Below w.heap.size w w.drew := below_drew (Below.refl _ _)
  refine wp_region_mix 6 (fun w' => Below w.heap.size w w') (by kernel_rfl) (by decide) ?_
  generalize w.drew = y0 at hy0 ⊢
  refine wpM_take (i := 0) (oi := ⟨some 20, _, _, _, _, _⟩) (v := ?_) rfl (by decide +kernel) (by decide +kernel) (by decide +kernel) (fun _ _ _ h => h) (Or.inl ⟨by rfl, ?_⟩) hy0 ?_
  case refine_2 =>
    intro w' hSw
    go_simp
    try (with_reducible rfl)
  try simp only [Act.put, List.setIfInBounds_toArray, List.set_cons_zero, List.set_cons_succ]
  refine wpM_take (i := 1) (oi := ⟨some 21, _, _, _, _, _⟩) (v := ?_) rfl (by decide +kernel) (by decide +kernel) (by decide +kernel) (fun _ _ _ h => h) (Or.inl ⟨by rfl, ?_⟩) hy0 ?_
  case refine_2 =>
    intro w' hSw
    go_simp
    try (with_reducible rfl)
  try simp only [Act.put, List.setIfInBounds_toArray, List.set_cons_zero, List.set_cons_succ]
  refine wpM_take (i := 2) (oi := ⟨some 22, _, _, _, _, _⟩) (v := ?_) rfl (by decide +kernel) (by decide +kernel) (by decide +kernel) (fun _ _ _ h => h) (Or.inl ⟨by rfl, ?_⟩) hy0 ?_
  case refine_2 =>
    intro w' hSw
    go_simp
    try (with_reducible rfl)
  try simp only [Act.put, List.setIfInBounds_toArray, List.set_cons_zero, List.set_cons_succ]
  refine wpM_take (i := 3) (oi := ⟨some 23, _, _, _, _, _⟩) (v := ?_) rfl (by decide +kernel) (by decide +kernel) (by decide +kernel) (fun _ _ _ h => h) (Or.inl ⟨by rfl, ?_⟩) hy0 ?_
  case refine_2 =>
    intro w' hSw
    go_simp
    try (with_reducible rfl)
  try simp only [Act.put, List.setIfInBounds_toArray, List.set_cons_zero, List.set_cons_succ]
  refine wpM_take (i := 4) (oi := ⟨some 24, _, _, _, _, _⟩) (v := ?_) rfl (by decide +kernel) (by decide +kernel) (by decide +kernel) (fun _ _ _ h => h) (Or.inl ⟨by rfl, ?_⟩) hy0 ?_
  case refine_2 =>
    intro w' hSw
    go_simp
    try (with_reducible rfl)
  try simp only [Act.put, List.setIfInBounds_toArray, List.set_cons_zero, List.set_cons_succ]
  refine wpM_take (i := 5) (oi := ⟨some 25, _, _, _, _, _⟩) (v := ?_) rfl (by decide +kernel) (by decide +kernel) (by decide +kernel) (fun _ _ _ h => h) (Or.inl ⟨by rfl, ?_⟩) hy0 ?_
  case refine_2 =>
    intro w' hSw
    go_simp
    try (with_reducible rfl)
  try simp only [Act.put, List.setIfInBounds_toArray, List.set_cons_zero, List.set_cons_succ]
  refine wpM_done (by decide +kernel) ?_
  simp only [List.drop_succ_cons, List.drop_zero]
  have G0 : Hid (Blk y0 g 61 cur) := Lib.hid (HG.out.below hy0)
  have HS0 := Lib.hid (At.src (P := Try.prog) (c := cap - (k + 1)) Try.underlying54 (HAT.out.below hy0) (ivs_one _) (by decide))
  have HY := Lib.hid hy0
  clear hy0
  have HL2 := Lib.hid HS0.out.newsLen
  obtain ⟨cs1, hcs1⟩ : ∃ cs, cs = (cur.toList.take (k * 2) ++ (L.drop (k + 1)).flatMap Iv.cells ++ cur.toList.drop (k * 2 + ((L.drop (k + 1)).flatMap Iv.cells).length)).toArray := ⟨_, rfl⟩
  have HC1 := Lib.hid hcs1
  have HZ1 : Hid (cs1.size = cap * 2) := Lib.hid (by
    have h1 := HL2.out
    have h2 := HZ.out
    rw [hcs1]
    simp only [List.size_toArray, List.length_append, List.length_take, List.length_drop, Array.length_toList]
    omega)
  obtain ⟨W2, hW2⟩ : ∃ W, W = y0.setRow g cs1 := ⟨_, rfl⟩
  have G2 : Hid (Blk W2 g 61 cs1) := Lib.hid (by rw [hW2]; exact G0.out.setRow)
  have GW := Lib.hid (show w.grownBy W2 (some g) by rw [hW2]; exact ⟨HY.out.os, HY.out.tape, HY.out.output, by simpa using HY.out.size, fun j hj hne => (setRow_other y0 g j _ (fun e => hne (by rw [e]))).trans (HY.out.block j hj)⟩)
  have qz : (Builtin.zeroCells (Value.agg #[.int .i64 0, .int .i64 0]).cells 1).toList = ([.int .i64 0, .int .i64 0] : List Value) := by kernel_rfl
  have qc := fun ty => run_clear_one (P := Try.prog) (ty := ty) (c := cap - p) Try.underlying54 hi hz0 _ qz (by intro v hv; simp at hv; rw [hv]; rfl) G2.out (show p * 2 + 2 ≤ cs1.size by rw [HZ1.out]; omega)
  have HW2 := Lib.hid (show W2 = y0.setRow g (cur.toList.take (k * 2) ++ (L.drop (k + 1)).flatMap Iv.cells ++ cur.toList.drop (k * 2 + ((L.drop (k + 1)).flatMap Iv.cells).length)).toArray by rw [hW2, hcs1])
  clear hW2 hcs1 qz
  have hkcI : (p : Int) ≤ (p : Int) + 1 := by omega
  have hpcI : (p : Int) + 1 ≤ (cap : Int) := by omega
  have h01 : (0 : Int) ≤ (p : Int) + 1 := by omega
  obtain ⟨W3, hW3⟩ : ∃ W, W = W2.setRow g (cs1.toList.take (p * 2) ++ ([.int .i64 0, .int .i64 0] : List Value) ++ cs1.toList.drop (p * 2 + 2)).toArray := ⟨_, rfl⟩
  have qc' : ∀ ty, (Builtin.clear_ #[54] ty #[.slice (some ⟨g, p * 2, none⟩) 1 (cap - p)]).run Try.prog W2 = .ok (.tuple #[]) W3 := fun ty => by rw [hW3]; exact qc ty
  have HW3 := Lib.hid hW3
  clear qc hW3
  go_wp2_with (at_builtin; go_loud (refine wpList_append_room (q := p) (n := k) rfl _ _ 54 54 rfl Try.underlying54 hi hz1 rfl rfl G0.out ?c1 HZ.out HS0.out ?c2 HW2.out ?_))
  case c1 => omega
  case c2 => omega
  go_ret
  have h4 : (L.flatMap Iv.cells) = cur.toList.take ((p + 1) * 2) := HT.out.symm
  have hln2 : (L.eraseIdx k).length = p := by rw [List.length_eraseIdx, if_pos (by rw [HN.out]; exact hk), HN.out]; omega
  have hL2 := HL2.out
  have hZ := HZ.out
  have hZ1 := HZ1.out
  refine ⟨_, rfl, ?_, ?_, ?_⟩
  · unfold OR
    rw [hln2]
    refine ⟨by rw [iv_len, hln2], .inr ⟨g, cap, _, rfl, HBG.out, by rw [HW3.out]; exact setRow_heap W2 g cs1 _ 61 _ G2.out, by omega, hcap, ?_, ?_⟩⟩
    · simp only [List.size_toArray, List.length_append, List.length_take, List.length_drop, Array.length_toList, List.length_cons, List.length_nil]
      omega
    · rw [List.eraseIdx_eq_take_drop_succ, List.flatMap_append, flat_take, h4, List.take_take, Nat.min_eq_left (by omega)]
      show List.take (p * 2) (List.take (p * 2) cs1.toList ++ _ ++ _) = _
      rw [List.append_assoc, List.take_append_of_le_length (by rw [List.length_take, Array.length_toList]; omega), List.take_take, Nat.min_self, HC1.out]
      show List.take (p * 2) (List.take (k * 2) cur.toList ++ _ ++ _) = _
      rw [List.take_append_of_le_length (by rw [List.length_append, List.length_take, Array.length_toList, hL2]; omega), List.take_of_length_le (by rw [List.length_append, List.length_take, Array.length_toList, hL2]; omega)]
  · rw [HW3.out]
    have h5 := grown_row W2 g (cs1.toList.take (p * 2) ++ ([.int .i64 0, .int .i64 0] : List Value) ++ cs1.toList.drop (p * 2 + 2)).toArray
    exact ((Below.refl base w).grown GW.out hb (fun j hj => by injection hj with hj; rw [← hj]; exact HBG.out)).grown h5 (Nat.le_trans hb GW.out.size) (fun j hj => by injection hj with hj; rw [← hj]; exact HBG.out)
  · rw [HW3.out]
    exact grown_chain (v := .slice (some ⟨g, 0, none⟩) (p + 1) cap) GW.out (.inl rfl) (grown_row W2 g _)
end Go.Proofs.Ytnoddkbpdfimmaa
