/- Operations on the index. -/
import Derived.Test.YtgenpldldgplhaaBix
import Derived.Deep.Cut
namespace Go.Proofs.Ytgenpldldgplhaa
open Go.ChangeShapes Go.WideShapes Go.ChangeAt Go.RowKit Go.ChangeMaps

section
variable {ops : Array Oper} {rest : List Oper} {o : Oper} {a : Act} {Q : Exit → Act → World → Prop} {k t e : TypeId} {q : IntKind} {b n s : Nat} {f : Int → Option Value}
theorem wpList_mdel (w : World) (hg : o.guard = none) (m x : Operand) (t k : TypeId) (hop : o.op = Op.call { callee := Callee.builtin Builtin.delete, args := #[m, x], argTypes := #[t, k] })
    (hk : Try.prog.underlying k = some (.int q)) (ht : Try.prog.underlying t = some (.map k e)) (hm : a.eval m = .map (some b)) (h : MB w k q b n s f) (z : Int) (hz : (Lit.int q z).wf = true) (hx : a.eval x = .int q z)
    (hK : ∀ w', MB w' k q b n (if (f z).isSome then s - 1 else s) (fdel f z) → w.grownBy w' (some b) → wpList Try.prog ops Q rest (a.put o.dst (.tuple #[])) w') :
    wpList Try.prog ops Q (o :: rest) a w := by
  refine wpList_plain hg fun K' hK' => ?_
  obtain ⟨w', hrun, r1, r2⟩ := h.del hk ht hz o.type
  unfold Oper.wp
  simp [execOp, hop, resolve, invoke, builtin, hm, hx, hrun, Result.andThen]
  exact hK' _ _ (hK w' r1 r2)
theorem wpList_mput (w : World) (hg : o.guard = none) (m x v : Operand) (t : TypeId) (hop : o.op = Op.mapUpdate t m x v)
    (hk : Try.prog.underlying k = some (.int q)) (ht : Try.prog.underlying t = some (.map k e)) (hm : a.eval m = .map (some b)) (h : MB w k q b n s f) (hn : n < maxLen) (z : Int) (hz : (Lit.int q z).wf = true) (hx : a.eval x = .int q z) (u : Value) (hv : a.eval v = u)
    (hK : ∀ w', MB w' k q b (n + 1) (if (f z).isSome then s else s + 1) (fup f z u) → w.grownBy w' (some b) → wpList Try.prog ops Q rest (a.put o.dst undef) w') :
    wpList Try.prog ops Q (o :: rest) a w := by
  refine wpList_plain hg fun K' hK' => ?_
  obtain ⟨w', hrun, r1, r2⟩ := h.put hk ht hn hz u
  unfold Oper.wp
  simp [execOp, hop, hm, hx, hv, hrun, Result.andThen]
  exact hK' _ _ (hK w' r1 r2)
end
theorem below_map {B : Nat} {w0 w w' : World} {b : Nat} (h : Below B w0 w) (hg : w.grownBy w' (some b)) (hB : B ≤ w.heap.size) (hb : B ≤ b) : Below B w0 w' := h.grown hg hB (fun j hj => by injection hj with hj; omega)
theorem del_none {L : List It} {a : Int} (h : fnd L a = none) : delL L a = L := by
  unfold delL
  refine List.filter_eq_self.2 (fun x hx => ?_)
  have := List.find?_eq_none.1 h x hx
  simpa using this
theorem New_any (w : World) : Calls Try.prog 17 #[] w fun e w' => ∃ x, e = .returned (.pointer (some ⟨x, 0, none⟩)) ∧ IX w' w.heap.size x 0 [] ∧ Below w.heap.size w w' := by
  have hmm := @run_makeMap Try.prog
  go_enter Try.func17, Try.ntmps17
  go_wp2
  go_ret
  refine ⟨_, rfl, ⟨⟨w.heap.size, w.heap.size + 1, fun _ => 0, ?_, by first | omega | (simp; omega) | simp, Nat.le_refl _, by omega, by omega, ?_, ⟨0, ?_⟩, fun T hT => by cases hT⟩, List.Pairwise.nil, fun _ h => (by cases h), fun _ h => (by cases h), by decide⟩, ?_⟩
  · exact Blk.new_ (by simp) rfl
  · have h := (MB.made (w.alloc (.map #[] 0)) 2 .i64).alloc (.cells #[.map (some w.heap.size), .map (some (w.heap.size + 1))] 63)
    simp only [World.size_alloc] at h
    exact h
  · have h := ((MB.made w 3 .i64).alloc (.map #[] 0)).alloc (.cells #[.map (some w.heap.size), .map (some (w.heap.size + 1))] 63)
    exact h
  · exact (((Below.refl _ w).alloc (Nat.le_refl _) _).alloc (by simp) _).alloc (by simp; omega) _
theorem Len_any (w : World) (B x M : Nat) (L : List It) (h : IX w B x M L) : Calls Try.prog 12 #[.pointer (some ⟨x, 0, none⟩)] w fun e w' => e = .returned (.int .i64 (L.length : Int)) ∧ w' = w := by
  obtain ⟨bt, bi, g, h1, -, -, -, -, h6, -⟩ := h.all
  have c1 : w.cell? ⟨x, 1, none⟩ = some (.map (some bi)) := h1.cell 1
  have hl := fun ty => h6.len (t := 61) (e := 3) Try.underlying61 ty
  clear h h1 h6
  go_enter Try.func12, Try.ntmps12
  go_wp2
  go_ret
  exact ⟨rfl, rfl⟩
def spec (L : List It) (T : Int) : Int → Option Value := fun a => match fnd L a with | some it => if it.t = T then some it.val else none | none => none
theorem hasT_del {L : List It} {id T : Int} (h : hasT (delL L id) T = true) : hasT L T = true := by
  unfold hasT delL at *
  rw [List.any_eq_true] at *
  obtain ⟨x, h1, h2⟩ := h
  exact ⟨x, (List.mem_filter.1 h1).1, h2⟩
theorem spec_del (L : List It) (id T : Int) : spec (delL L id) T = fdel (spec L T) id := by
  funext a
  unfold spec fdel
  rw [fnd_del]
  by_cases e : a = id
  · rw [if_pos e, if_pos e]
  · rw [if_neg e, if_neg e]
theorem spec_del_other {L : List It} {id T : Int} {it : It} (hf : fnd L id = some it) (ht : it.t ≠ T) : spec (delL L id) T = spec L T := by
  rw [spec_del]
  funext a
  unfold fdel
  by_cases e : a = id
  · subst e
    rw [if_pos rfl]
    unfold spec
    rw [hf]
    simp [ht]
  · rw [if_neg e]
theorem IX.del {w W : World} {B x M : Nat} {L : List It} {id : Int} {it : It} (h : IX w B x M L) (hf : fnd L id = some it) (hkc : KC w W) {bt bi : Nat} {g : Int → Nat} (hblk : Blk W x 63 #[.map (some bt), .map (some bi)]) (hB1 : B ≤ x) (hB2 : B ≤ bt) (hB3 : B ≤ bi) (hne : bt ≠ bi)
    (hbi : MB W 2 .i64 bi M (L.length - 1) (fdel (fun a => (fnd L a).map (fun it => .int .i64 it.t)) id))
    (hbt : ∃ st, MB W 3 .i64 bt M st (fun T => if hasT (delL L id) T = true then some (.map (some (g T))) else none))
    (hg1 : MB W 2 .i64 (g it.t) M (cntT L it.t - 1) (fdel (spec L it.t) id)) (hg2 : ∀ T, hasT L T = true → T ≠ it.t → MB W 2 .i64 (g T) M (cntT L T) (spec L T))
    (hgg : ∀ T, hasT L T = true → B ≤ g T ∧ g T ≠ bt ∧ g T ≠ bi ∧ ∀ T', hasT L T' = true → g T' = g T → T' = T) : IX W B x M (delL L id) := by
  obtain ⟨l1, l2⟩ := len_del h.asc hf
  refine ⟨⟨bt, bi, g, hblk, hB1, hB2, hB3, hne, hbi.ext l1 (fun a _ => ?_), hbt, fun T hT => ?_⟩, asc_del h.asc id, fun y hy => ?_, fun y hy => h.ok y (List.mem_filter.1 hy).1, h.M⟩
  · unfold fdel
    rw [fnd_del]
    by_cases e : a = id
    · rw [if_pos e, if_pos e]; rfl
    · rw [if_neg e, if_neg e]
  · have hT0 := hasT_del hT
    obtain ⟨q1, q2, q3, q4⟩ := hgg T hT0
    refine ⟨?_, q1, q2, q3, fun T' hT' e => q4 T' (hasT_del hT') e⟩
    show MB W 2 .i64 (g T) M _ (spec (delL L id) T)
    by_cases e : T = it.t
    · subst e
      rw [spec_del, l2, if_pos rfl]
      exact hg1
    · rw [spec_del_other hf (fun h => e h.symm), l2, if_neg (fun h => e h.symm)]
      exact hg2 T hT0 e
  · obtain ⟨s1, s2⟩ := h.sds y (List.mem_filter.1 hy).1
    exact ⟨s1.kc hkc, s2⟩
set_option maxRecDepth 100000 in
set_option maxHeartbeats 1000000 in
theorem Delete_any (w : World) (B x M : Nat) (L : List It) (h : IX w B x M L) (id : Int) (hid : w64 id) : Calls Try.prog 21 #[.pointer (some ⟨x, 0, none⟩), .int .i64 id] w fun e w' => e = .returned (.bool (fnd L id).isSome) ∧ IX w' B x M (delL L id) ∧ KC w w' ∧ (∀ w0, Below B w0 w → Below B w0 w') := by
  have HX := Lib.hid h
  obtain ⟨bt, bi, g, h1, hB1, hB2, hB3, hne, h6, ⟨st, h7⟩, h8⟩ := h.all
  have c0 : w.cell? ⟨x, 0, none⟩ = some (.map (some bt)) := h1.cell 0
  have c1 : w.cell? ⟨x, 1, none⟩ = some (.map (some bi)) := h1.cell 1
  have hl := h6.look_ok (t := 61) (e := 3) Try.underlying2 Try.underlying61 (zeroI w) hid
  have hBw : B ≤ w.heap.size := Nat.le_trans hB2 (Nat.le_of_lt h7.lt)
  cases hf : fnd L id with
  | none =>
    rw [hf] at hl
    simp only [Option.map_none, Option.getD_none, Option.isSome_none] at hl
    have HD := Lib.hid (del_none hf)
    clear h h1 h6 h7 h8 hf
    go_enter Try.func21, Try.ntmps21
    go_wp2
    go_ret
    rw [HD.out]
    exact ⟨rfl, HX.out, KC.refl _, fun _ h => h⟩
  | some it =>
    rw [hf] at hl
    simp only [Option.map_some, Option.getD_some, Option.isSome_some] at hl
    obtain ⟨hm, hie⟩ := fnd_mem hf
    have hwt := (h.ok it hm).2
    have hT : hasT L it.t = true := List.any_eq_true.2 ⟨it, hm, by simp⟩
    have H8 := Lib.hid (show ∀ T, hasT L T = true → MB w 2 .i64 (g T) M (cntT L T) (spec L T) ∧ B ≤ g T ∧ g T ≠ bt ∧ g T ≠ bi ∧ ∀ T', hasT L T' = true → g T' = g T → T' = T from h8)
    obtain ⟨m8, hg1, hg2, hg3, hg4⟩ := H8.out it.t hT
    have HF := Lib.hid hf
    have H1 := Lib.hid h1
    have H6 := Lib.hid h6
    have H7 := Lib.hid h7
    have HM8 := Lib.hid m8
    have HG4 := Lib.hid hg4
    have HT := Lib.hid hT
    have HS8 := Lib.hid (show ((spec L it.t) id).isSome = true by unfold spec; rw [hf]; simp)
    have HCN := Lib.hid ((len_del h.asc hf).2 it.t)
    have HBI : Hid (((fun a => (fnd L a).map (fun it => Value.int .i64 it.t)) id).isSome = true) := Lib.hid (by simp [hf])
    obtain ⟨T, hTe⟩ : ∃ T, it.t = T := ⟨_, rfl⟩
    have HTE := Lib.hid hTe
    rw [hTe] at hl hwt hg1 hg2 hg3 HM8 HG4 HT HS8 HCN
    rw [if_pos rfl] at HCN
    obtain ⟨gt, hgt⟩ : ∃ z, g T = z := ⟨_, rfl⟩
    have HGT := Lib.hid hgt
    rw [hgt] at hg1 hg2 hg3 HM8 HG4
    clear h h1 h6 h7 h8 m8 hf hg4 hT hTe hgt hm hie
    go_enter Try.func21, Try.ntmps21
    go_upto_region 5 with (at_delete; refine wpList_mdel _ rfl _ _ 61 2 rfl Try.underlying2 Try.underlying61 rfl H6.out id hid rfl ?_; intro w1 m1 gr1)
    rw [if_pos HBI.out] at m1
    have M1 := Lib.hid m1
    have K1 := Lib.hid (KC.of_map H6.out gr1)
    have HB1 := Lib.hid (fun w0 (h : Below B w0 w) => below_map h gr1 hBw hB3)
    have M7 := Lib.hid (H7.out.kept gr1 (fun e => hne (by injection e)))
    have MG := Lib.hid (HM8.out.kept gr1 (fun e => hg3 (by injection e)))
    have MO := Lib.hid (fun T' (h : hasT L T' = true) => ((H8.out T' h).1.kept gr1 (fun e => (H8.out T' h).2.2.2.1 (by injection e))))
    have c0 := cell_kc K1.out c0
    have hl2 := M7.out.look (t := 60) (e := 64) Try.underlying3 Try.underlying60 (zeroM w1) hwt
    simp only [HT.out, if_true, Option.getD_some, HGT.out] at hl2
    clear m1 gr1 c1 hl
    go_upto_region 6 with (at_delete; refine wpList_mdel _ rfl _ _ 64 2 rfl Try.underlying2 Try.underlying64 rfl MG.out id hid rfl ?_; intro w2 m2 gr2)
    rw [if_pos HS8.out] at m2
    have M2 := Lib.hid m2
    have K2 := Lib.hid (K1.out.trans (KC.of_map MG.out gr2))
    have hBw1 : B ≤ w1.heap.size := Nat.le_trans hBw K1.out.size
    have HB2 := Lib.hid (fun w0 (h : Below B w0 w) => below_map (HB1.out w0 h) gr2 hBw1 hg1)
    have M72 := Lib.hid (M7.out.kept gr2 (fun e => hg2 (by injection e with e; exact e.symm)))
    have M12 := Lib.hid (M1.out.kept gr2 (fun e => hg3 (by injection e with e; exact e.symm)))
    have MO2 := Lib.hid (fun T' (h : hasT L T' = true) (hT' : T' ≠ T) => ((MO.out T' h).kept gr2 (fun e => hT' (HG4.out T' h (by injection e)))))
    have c0 := cell_kc (KC.of_map MG.out gr2) c0
    have hl3 := M72.out.look (t := 60) (e := 64) Try.underlying3 Try.underlying60 (zeroM w2) hwt
    simp only [HT.out, if_true, Option.getD_some, HGT.out] at hl3
    have hln := fun ty => M2.out.len (t := 64) (e := 40) Try.underlying64 ty
    have hBw2 : B ≤ w2.heap.size := Nat.le_trans hBw K2.out.size
    clear m2 gr2 hl2
    by_cases hz : cntT L T - 1 = 0
    · rw [hz] at hln
      go_upto_region 8 with (at_delete; refine wpList_mdel _ rfl _ _ 60 3 rfl Try.underlying3 Try.underlying60 rfl M72.out T hwt rfl ?_; intro w3 m3 gr3)
      have K3 := Lib.hid (K2.out.trans (KC.of_map M72.out gr3))
      have HB3 := Lib.hid (fun w0 (h : Below B w0 w) => below_map (HB2.out w0 h) gr3 hBw2 hB2)
      have HIX := Lib.hid (HX.out.del HF.out K3.out (H1.out.kc K3.out) hB1 hB2 hB3 hne (M12.out.kept gr3 (fun e => hne (by injection e with e; exact e.symm))) ⟨_, m3.ext (s' := _) rfl (fun a _ => by
        unfold fdel
        by_cases e : a = T
        · subst e
          rw [if_pos rfl, if_neg (by rw [hasT_cnt, HCN.out, hz]; decide)]
        · rw [if_neg e]
          have h5 : cntT (delL L id) a = cntT L a := by rw [(len_del HX.out.asc HF.out).2 a, if_neg (by rw [HTE.out]; exact fun h => e h.symm)]
          rw [hasT_cnt, h5, ← hasT_cnt])⟩
        (by rw [HTE.out, HGT.out]; exact M2.out.kept gr3 (fun e => hg2 (by injection e)))
        (fun T' h hT' => (MO2.out T' h (by rw [← HTE.out]; exact hT')).kept gr3 (fun e => (H8.out T' h).2.2.1 (by injection e)))
        (fun T' h => (H8.out T' h).2))
      clear m3 gr3
      go_wp2
      go_ret
      exact ⟨rfl, HIX.out, K3.out, HB3.out⟩
    · have hzi : (((cntT L T - 1 : Nat) : Int) == 0) = false := beq_eq_false_iff_ne.2 (by omega)
      have HIX := Lib.hid (HX.out.del HF.out K2.out (H1.out.kc K2.out) hB1 hB2 hB3 hne M12.out ⟨_, M72.out.ext (s' := _) rfl (fun a _ => by
        by_cases e : a = T
        · subst e
          rw [HT.out, if_pos rfl, if_pos (by rw [hasT_cnt, HCN.out]; simp; omega)]
        · have h5 : cntT (delL L id) a = cntT L a := by rw [(len_del HX.out.asc HF.out).2 a, if_neg (by rw [HTE.out]; exact fun h => e h.symm)]
          rw [hasT_cnt, h5, ← hasT_cnt])⟩
        (by rw [HTE.out, HGT.out]; exact M2.out)
        (fun T' h hT' => MO2.out T' h (by rw [← HTE.out]; exact hT'))
        (fun T' h => (H8.out T' h).2))
      generalize cntT L T - 1 = cz at *
      go_wp2
      go_ret
      exact ⟨rfl, HIX.out, K2.out, HB2.out⟩
end Go.Proofs.Ytgenpldldgplhaa
