/- The reference's product. -/
import Derived.Test.YthfolccofjaknaaBrt
namespace Go.Proofs.Ythfolccofjaknaa
open Go.ChangeShapes Go.WideShapes Go.ChangeAt Go.RowKit Go.ChangeMaps

theorem sgn_mul (s t : Bool) (x y : Nat) : sgn (s != t) (x * y) = sgn s x * sgn t y := by
  cases s <;> cases t <;> simp [sgn, Int.neg_mul, Int.mul_neg]
theorem dv_zero_cons (B : Nat) (l : List Nat) : dv B (0 :: l) = B * dv B l := by simp [dv]
/-- A list that can be read, not necessarily without zeros at its end. -/
def HR0 (w : World) (v : Value) (x N : Nat) : Prop := ∃ A n c L, v = .slice A n c ∧ HG w A n L ∧ Sl A n c ∧ dv 65536 L = x ∧ n ≤ N
theorem HR0.below {w w' : World} {v : Value} {x N : Nat} (h : HR0 w v x N) (hb : Below w.heap.size w w') : HR0 w' v x N := by
  obtain ⟨A, n, c, L, e, hg, hs, hv, hN⟩ := h
  exact ⟨A, n, c, L, e, hg.below hb, hs, hv, hN⟩
theorem HV.r0 {w : World} {v : Value} {x N : Nat} (h : HV w v x N) : HR0 w v x N := by
  obtain ⟨A, n, c, L, e, hg, hs, hn, hv, hN⟩ := h
  exact ⟨A, n, c, L, e, hg, hs, hv, hN⟩
theorem plus_r0 (v1 v2 : Value) (x y N : Nat) (w : World) (h : HR0 w v1 x N) (h2 : HR0 w v2 y N) (hN : N ≤ 90000) : Calls Try.prog 67 #[v1, v2] w fun e w' => ∃ v', e = .returned v' ∧ HV w' v' (x + y) (N + 1) ∧ Below w.heap.size w w' := by
  obtain ⟨A, n, c, L, rfl, hg, hs, hv, hnN⟩ := h
  obtain ⟨A2, n2, c2, L2, rfl, hg2, hs2, hv2, hnN2⟩ := h2
  refine (plus_any A n c L A2 n2 c2 L2 w hg hg2 (by omega) (by omega)).mono ?_
  rintro e w' ⟨v', rfl, h1, hb⟩
  rw [hv, hv2] at h1
  exact ⟨v', rfl, h1.mono (by omega), hb⟩
/-- A new list of one zero. -/
def Z1 (w : World) (base : Nat) (v : Value) : Prop := ∃ g, v = .slice (some ⟨g, 0, none⟩) 1 1 ∧ base ≤ g ∧ Blk w g 3 #[.int .i64 0]
theorem Z1.below {w w' : World} {base : Nat} {v : Value} (h : Z1 w base v) (hb : Below w.heap.size w w') : Z1 w' base v := by
  obtain ⟨g, e, hg, hk⟩ := h
  exact ⟨g, e, hg, hk.below hb⟩
theorem run_append_one (ty : TypeId) (g : Nat) (w : World) (hg : Blk w g 3 #[.int .i64 0]) (x : Value) (m : Nat) (L : List Nat) (hs : Src Try.prog 1 88 x m (hcl L) w) (hd : dok 65536 L) (hm : m ≤ 100000) :
    ∃ v' w', (Builtin.append_ #[88, 88] ty #[.slice (some ⟨g, 0, none⟩) 1 1, x]).run Try.prog w = .ok v' w' ∧ HR0 w' v' (65536 * dv 65536 L) (m + 1) ∧ Below w.heap.size w w' := by
  obtain ⟨i, hi, hz, hsize, hby⟩ := info_parts (show (Try.prog.info? 3).map (fun i => (i.zero, i.size, i.bytes)) = some (some (.int .i64 0), 1, 8) by kernel_rfl)
  have hs2 : Src Try.prog i.size 88 x m (hcl L) w := by rw [hsize]; exact hs
  have hl : L.length = m := by have := hs.newsLen; rw [hcl_len] at this; omega
  have h1 := hs2.one
  have hd0 : dok 65536 (0 :: L) := dok_cons.2 ⟨by decide, hd⟩
  by_cases h0 : m = 0
  · subst h0
    have hn : L = [] := List.eq_nil_of_length_eq_zero hl
    subst hn
    have hst := run_storeCells_at Try.prog g 1 3 [] 0 #[.int .i64 0] w hg (by simp) (fun u hu => by cases hu)
    simp only [Nat.add_zero] at hst
    refine ⟨.slice (some ⟨g, 0, none⟩) 1 1, w, ?_, ⟨some ⟨g, 0, none⟩, 1, 1, [0], rfl, ⟨rfl, hd0, fun _ => ⟨g, 0, rfl, hg.lt, fun j d hj => ?_⟩⟩, Sl.own (Nat.le_refl _) (by decide), by simp [dv], Nat.le_refl _⟩, Below.refl _ _⟩
    · have hcs : hcl [] = [] := rfl
      rw [hcs] at hs
      have hcc := hs.cells
      have hbs := blk_same hg
      rcases hs.kind with ⟨e', hk⟩ | hk <;> simp [Builtin.append_, run_underlying Try.underlying88, run_underlying hk, sizeOf, typeInfo, hi, hs.len, hcc, Addr.add_lit, hsize, hst, hbs]
    · match j, hj with
      | 0, hj => obtain rfl : 0 = d := (by simpa using hj); exact hg.cell 0
      | j + 1, hj => simp at hj
  · have hr := run_append_grow_src (P := Try.prog) w 88 88 ty 3 i (.int .i64 0) Try.underlying88 hi hz (some ⟨g, 0, none⟩) 1 1 [.int .i64 0] (run_firstCells_some w.drew i.size 1 ⟨g, 0, none⟩ 1 1 [.int .i64 0] (by rw [hsize]; rfl) (fun j u h => by
      match j, h with
      | 0, h => obtain rfl : Value.int .i64 0 = u := (by simpa using h); exact hg.cell 0
      | j + 1, h => simp at h)) x m (hcl L) hs2 (by omega) (by omega) (growslice_fits (by omega) (by rw [hby]; omega))
    have hge := grownCap_ge w (1 + m) 1 3
    have hcm : grownCap w (1 + m) 1 3 ≤ maxLen := grownCap_le_maxLen w (1 + m) 1 3 (by unfold maxLen; omega)
    refine ⟨_, _, hr, ⟨_, _, _, 0 :: L, rfl, ⟨by rw [List.length_cons, hl, Nat.add_comm], hd0, fun _ => ⟨w.heap.size, 0, rfl, by simp, fun j d hj => ?_⟩⟩, Sl.own hge (by unfold maxLen at hcm; exact hcm), dv_zero_cons _ _, by omega⟩, ⟨rfl, rfl, rfl, by simp, fun k hk => Below.heap_alloc w.drew _ k hk⟩⟩
    have hj2 : (hcl (0 :: L))[j]? = some (.int .i64 (d : Int)) := hcl_get hj
    have hjl : j < (hcl (0 :: L)).length := (List.getElem?_eq_some_iff.1 hj2).1
    rw [Nat.zero_add]
    refine newcell (w := w.drew) j _ rfl ?_
    rw [Array.getElem?_append_left (by simpa [hcl] using hjl)]
    simpa [hcl] using hj2
theorem wp_append_one (w : World) {o : Oper} {a : Act} {K : Act → World → Prop} {Q : Exit → Act → World → Prop} (s x : Operand)
    (ho : o.op = .call { callee := .builtin .append, args := #[s, x], argTypes := #[88, 88] })
    (g : Nat) (hv : a.eval s = .slice (some ⟨g, 0, none⟩) 1 1) (hg : Blk w g 3 #[.int .i64 0])
    (y : Value) (m : Nat) (L : List Nat) (hy : a.eval x = y) (hs : Src Try.prog 1 88 y m (hcl L) w) (hd : dok 65536 L) (hm : m ≤ 100000)
    (h : ∀ (v' : Value) (w' : World), HR0 w' v' (65536 * dv 65536 L) (m + 1) → Below w.heap.size w w' → K (a.put o.dst v') w') : o.wp Try.prog a w K Q := by
  obtain ⟨v', w', hrun, h2, h3⟩ := run_append_one o.type g w hg y m L hs hd hm
  unfold Oper.wp execOp
  simp only [ho, resolve, invoke, builtin, Sem.run_bind, Sem.run_pure, Result.andThen_ok, List.map_toArray, List.map_cons, List.map_nil, hv, hy, hrun]
  exact h v' w' h2 h3
end Go.Proofs.Ythfolccofjaknaa
