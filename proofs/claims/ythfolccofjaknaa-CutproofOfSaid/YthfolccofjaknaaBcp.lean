/- Copies of integers. -/
import Derived.Test.YthfolccofjaknaaMB
import Derived.Test.YthfolccofjaknaaMA
namespace Go.Proofs.Ythfolccofjaknaa
open Go.ChangeShapes Go.WideShapes Go.ChangeAt Go.RowKit Go.ChangeMaps

section
variable {P : Program} (w : World)
theorem run_append_mine (t tx ty e : TypeId) (i : TypeInfo) (z : Value) (size bytes : Nat) (ht : P.underlying t = some (.slice e)) (hi : P.info? e = some i) (hz : i.zero = some z)
    (hsize : i.size = size) (hby : i.bytes = bytes) (hzs : z.cells.size = size) (g : Nat) (hg : w.heap[g]? = some (.cells #[] e (0, 0)))
    (x : Value) (m : Nat) (news : List Value) (hs : Src P size tx x m news w) (h63 : m ≤ maxLen) (hbytes : m * bytes ≤ 140737488355328) :
    ∃ (g' c : Nat) (w' : World) (cs : Array Value), (Builtin.append_ #[t, tx] ty #[.slice (some ⟨g, 0, none⟩) 0 0, x]).run P w = .ok (.slice (some ⟨g', 0, none⟩) m c) w' ∧ Blk w' g' e cs ∧ (g' = g ∨ w.heap.size ≤ g') ∧ (∀ (j : Nat) (v : Value), news[j]? = some v → (cs : Array Value)[j]? = some v) ∧ m ≤ c ∧ c ≤ maxLen ∧ Below w.heap.size w w' := by
  subst hsize
  subst hby
  have hl := hs.newsLen
  have h1 := hs.one
  by_cases hm : m = 0
  · subst hm
    have hn : news = [] := List.eq_nil_of_length_eq_zero (by simpa using hl)
    subst hn
    have hst := run_storeCells_at P g 0 e [] 0 #[] w hg (by simp) h1
    simp only [Nat.add_zero] at hst
    refine ⟨g, 0, w, #[], ?_, hg, .inl rfl, fun j v hj => by simp at hj, Nat.le_refl _, by unfold maxLen; omega, Below.refl _ _⟩
    rcases hs.kind with ⟨e', hk⟩ | hk <;> simp [Builtin.append_, run_underlying ht, run_underlying hk, sizeOf, typeInfo, hi, hs.len, hs.cells, Addr.add_lit, hst, blk_same hg]
  · have hr := run_append_grow_src (P := P) w t tx ty e i z ht hi hz (some ⟨g, 0, none⟩) 0 0 [] (run_firstCells_some w.drew i.size 0 ⟨g, 0, none⟩ 0 0 [] (by simp) (fun j u h => by simp at h)) x m news hs (by omega) (by unfold maxLen at h63; omega) (growslice_fits (by omega) (by simpa using hbytes))
    simp only [Nat.zero_add, List.nil_append] at hr
    have hge := grownCap_ge w m 0 e
    have hcm : grownCap w m 0 e ≤ maxLen := grownCap_le_maxLen w m 0 e h63
    refine ⟨_, _, _, _, hr, heap_alloc_new w.drew _, .inr (Nat.le_refl _), fun j v hj => ?_, hge, hcm, ⟨rfl, rfl, rfl, by simp, fun k hk => Below.heap_alloc w.drew _ k hk⟩⟩
    have hjl : j < news.length := (List.getElem?_eq_some_iff.1 hj).1
    rw [Array.getElem?_append_left (by simpa using hjl)]
    simpa using hj
end
theorem wp_append_mine {P : Program} (w : World) {o : Oper} {a : Act} {K : Act → World → Prop} {Q : Exit → Act → World → Prop} (s x : Operand) (t tx : TypeId)
    (ho : o.op = .call { callee := .builtin .append, args := #[s, x], argTypes := #[t, tx] })
    (e : TypeId) (i : TypeInfo) (z : Value) (size bytes : Nat) (ht : P.underlying t = some (.slice e)) (hi : P.info? e = some i) (hz : i.zero = some z)
    (hsize : i.size = size) (hby : i.bytes = bytes) (hzs : z.cells.size = size) (g : Nat) (hv : a.eval s = .slice (some ⟨g, 0, none⟩) 0 0) (hg : w.heap[g]? = some (.cells #[] e (0, 0)))
    (y : Value) (m : Nat) (news : List Value) (hy : a.eval x = y) (hs : Src P size tx y m news w) (h63 : m ≤ maxLen) (hbytes : m * bytes ≤ 140737488355328)
    (h : ∀ (g' c : Nat) (w' : World) (cs : Array Value), Blk w' g' e cs → (g' = g ∨ w.heap.size ≤ g') → (∀ (j : Nat) (v : Value), news[j]? = some v → (cs : Array Value)[j]? = some v) → m ≤ c → c ≤ maxLen → Below w.heap.size w w' → K (a.put o.dst (.slice (some ⟨g', 0, none⟩) m c)) w') : o.wp P a w K Q := by
  obtain ⟨g', c, w', cs, hrun, h2, h3, h4, h5, h6, h7⟩ := run_append_mine (P := P) w t tx o.type e i z size bytes ht hi hz hsize hby hzs g hg y m news hs h63 hbytes
  unfold Oper.wp execOp
  simp only [ho, resolve, invoke, builtin, Sem.run_bind, Sem.run_pure, Result.andThen_ok, List.map_toArray, List.map_cons, List.map_nil, hv, hy, hrun]
  exact h g' c w' cs h2 h3 h4 h5 h6 h7
end Go.Proofs.Ythfolccofjaknaa
