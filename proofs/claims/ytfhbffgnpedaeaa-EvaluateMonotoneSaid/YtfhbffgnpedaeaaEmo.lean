/- Values in place of NULLs; the rows that an append makes. -/
import Derived.Test.YtfhbffgnpedaeaaEct
import Derived.Test.YtfhbffgnpedaeaaEop
import Derived.Test.YtfhbffgnpedaeaaApf
namespace Go.Proofs.Ytfhbffgnpedaeaa
open Go.ChangeShapes Go.WideShapes Go.ChangeAt Go.RowKit Go.ChangeMaps

theorem upd_len (R S : List V3) (h : R.length = S.length) : (List.zipWith (fun r s : V3 => if r.k = 0 then s else r) R S).length = R.length := by simp [h]
/-- The row T has the values of R that are not NULL. -/
def Fills (R T : List V3) : Prop := R.length = T.length ∧ ∀ (i : Nat) (r : V3), R[i]? = some r → r.k ≠ 0 → T[i]? = some r
theorem comb_known {op : Int} {l : List V3} (h : (combM op l).k ≠ 0) : ∀ v ∈ l, v.k ≠ 0 := by
  intro v hv h0
  apply h
  unfold combM
  rw [if_pos]
  · rfl
  · rw [List.any_eq_true]
    exact ⟨v, hv, by simp [nullB, h0]⟩
theorem ev_fills {R T : List V3} (hT : Fills R T) (x : Ex) : (evM R x).k ≠ 0 → evM T x = evM R x := by
  refine Ex.ind (p := fun x => (evM R x).k ≠ 0 → evM T x = evM R x) (fun x ih h => ?_) x
  rw [evM_eq] at h ⊢
  rw [evM_eq R x]
  by_cases h1 : x.op = 1
  · rw [if_pos h1, if_pos h1]
  rw [if_neg h1] at h ⊢
  rw [if_neg h1]
  by_cases h2 : x.op = 2
  · rw [if_pos h2] at h ⊢
    rw [if_pos h2]
    by_cases h3 : x.ix < 0
    · rw [if_pos h3, if_pos h3]
    rw [if_neg h3] at h ⊢
    rw [if_neg h3]
    simp only [List.getD] at h ⊢
    cases hr : R[x.ix.toNat]? with
    | none => rw [hr] at h; exact absurd rfl h
    | some r =>
      rw [hr] at h
      rw [hT.2 _ r hr h]
  rw [if_neg h2] at h ⊢
  rw [if_neg h2]
  have hk := comb_known h
  rw [evL_map] at hk
  rw [evL_map, evL_map]
  rw [List.map_congr_left fun y hy => ih y hy (hk _ (List.mem_map.2 ⟨y, hy, rfl⟩))]
theorem cmp_known {op : Int} {u v : V3} (h : cmpM op u v ≠ 2) : u.k ≠ 0 ∧ v.k ≠ 0 := by
  have n2 : notM 2 = 2 := rfl
  constructor
  · intro h0
    apply h
    unfold cmpM eqM ltM
    simp only [h0, if_true]
    by_cases g : v.k = 0
    · simp only [g, if_true, n2, ite_self]
    · simp only [if_neg g, n2, ite_self]
  · intro h0
    apply h
    unfold cmpM eqM ltM
    simp only [h0, if_true, n2, ite_self]
theorem nl_args {x : Ex} (h : nlM x = false) : x.op ≠ 17 ∧ ∀ y ∈ x.args, nlM y = false := by
  rw [nlM_eq, Bool.or_eq_false_iff] at h
  refine ⟨by simpa using h.1, ?_⟩
  have := h.2
  generalize x.args = l at this
  clear h
  induction l with
  | nil => intro y hy; cases hy
  | cons a l ih =>
    intro y hy
    simp only [nlL, Bool.or_eq_false_iff] at this
    rcases List.mem_cons.1 hy with rfl | hy
    · exact this.1
    · exact ih this.2 y hy
theorem cond_fills {R T : List V3} (hT : Fills R T) (x : Ex) : nlM x = false → condM R x ≠ 2 → condM T x = condM R x := by
  refine Ex.ind (p := fun x => nlM x = false → condM R x ≠ 2 → condM T x = condM R x) (fun x ih hn h => ?_) x
  obtain ⟨h17, hna⟩ := nl_args hn
  have ihx : ∀ y ∈ x.args, condM R y ≠ 2 → condM T y = condM R y := fun y hy => ih y hy (hna y hy)
  rw [condM_eq] at h ⊢
  rw [condM_eq R x]
  clear ih hn hna
  match hx : x.args, h with
  | [], h => rw [hx] at ihx; simp [condL, evL, comC] at h
  | [a], h =>
    rw [hx] at ihx
    simp only [condL, evL, comC] at h ⊢
    by_cases h20 : x.op = 20
    · rw [if_pos h20] at h ⊢
      rw [if_pos h20]
      have : condM R a ≠ 2 := fun e => h (by rw [e]; rfl)
      rw [ihx a (by simp) this]
    · rw [if_neg h20, if_neg h17] at h
      exact absurd rfl h
  | [a, b], h =>
    rw [hx] at ihx
    have ia := ihx a (by simp)
    have ib := ihx b (by simp)
    have ca := cond_three R a
    have cb := cond_three R b
    simp only [condL, evL, comC] at h ⊢
    by_cases h18 : x.op = 18
    · rw [if_pos h18] at h ⊢
      rw [if_pos h18]
      rcases ca with ca | ca | ca
      · rw [ia (by omega), ca]; unfold andM; rw [if_pos (by rfl), if_pos (by rfl)]
      · rw [ia (by omega)]
        rcases cb with cb | cb | cb
        · rw [ib (by omega)]
        · rw [ib (by omega)]
        · rw [ca, cb] at h; exact absurd rfl h
      · rcases cb with cb | cb | cb
        · rw [ib (by omega), cb, ca]
          rcases cond_three T a with q | q | q <;> rw [q] <;> rfl
        · rw [ca, cb] at h; exact absurd rfl h
        · rw [ca, cb] at h; exact absurd rfl h
    · rw [if_neg h18] at h ⊢
      rw [if_neg h18]
      by_cases h19 : x.op = 19
      · rw [if_pos h19] at h ⊢
        rw [if_pos h19]
        rcases ca with ca | ca | ca
        · rw [ia (by omega)]
          rcases cb with cb | cb | cb
          · rw [ib (by omega)]
          · rw [ib (by omega)]
          · rw [ca, cb] at h; exact absurd rfl h
        · rw [ia (by omega), ca]; unfold orM; rw [if_pos (by rfl), if_pos (by rfl)]
        · rcases cb with cb | cb | cb
          · rw [ca, cb] at h; exact absurd rfl h
          · rw [ib (by omega), cb, ca]
            rcases cond_three T a with q | q | q <;> rw [q] <;> rfl
          · rw [ca, cb] at h; exact absurd rfl h
      · rw [if_neg h19] at h ⊢
        rw [if_neg h19]
        obtain ⟨k1, k2⟩ := cmp_known h
        rw [ev_fills hT a k1, ev_fills hT b k2]
  | _ :: _ :: _ :: _, h => simp [condL, evL, comC] at h
section
variable {P : Program} (w : World)
theorem run_append_mine (t tx ty e : TypeId) (i : TypeInfo) (z : Value) (size bytes : Nat) (ht : P.underlying t = some (.slice e)) (hi : P.info? e = some i) (hz : i.zero = some z)
    (hsize : i.size = size) (hby : i.bytes = bytes) (hzs : z.cells.size = size) (g : Nat) (hg : w.heap[g]? = some (.cells #[] e (0, 0)))
    (x : Value) (m : Nat) (news : List Value) (hs : Src P size tx x m news w) (h63 : m ≤ maxLen) (hbytes : m * bytes ≤ 140737488355328) :
    ∃ (g' c : Nat) (w' : World) (cs : Array Value), (Builtin.append_ #[t, tx] ty #[.slice (some ⟨g, 0, none⟩) 0 0, x]).run P w = .ok (.slice (some ⟨g', 0, none⟩) m c) w' ∧ Blk w' g' e cs ∧ (g' = g ∨ w.heap.size ≤ g') ∧ (∀ (j : Nat) (v : Value), news[j]? = some v → (cs : Array Value)[j]? = some v) ∧ m ≤ c ∧ c ≤ maxLen ∧ Below w.heap.size w w' := by
  subst hsize
  subst hby
  have hl := hs.newsLen
  have h1 := hs.one
  by_cases hm : m = 0
  · subst hm
    have hn : news = [] := List.eq_nil_of_length_eq_zero (by simpa using hl)
    subst hn
    have hst := run_storeCells_at P g 0 e [] 0 #[] w hg (by simp) h1
    simp only [Nat.add_zero] at hst
    refine ⟨g, 0, w, #[], ?_, hg, .inl rfl, fun j v hj => by simp at hj, Nat.le_refl _, by unfold maxLen; omega, Below.refl _ _⟩
    rcases hs.kind with ⟨e', hk⟩ | hk <;> simp [Builtin.append_, run_underlying ht, run_underlying hk, sizeOf, typeInfo, hi, hs.len, hs.cells, Addr.add_lit, hst, blk_same hg]
  · have hr := run_append_grow_src (P := P) w t tx ty e i z ht hi hz (some ⟨g, 0, none⟩) 0 0 [] (run_firstCells_some w.drew i.size 0 ⟨g, 0, none⟩ 0 0 [] (by simp) (fun j u h => by simp at h)) x m news hs (by omega) (by unfold maxLen at h63; omega) (growslice_fits (by omega) (by simpa using hbytes))
    simp only [Nat.zero_add, List.nil_append] at hr
    have hge := grownCap_ge w m 0 e
    have hcm : grownCap w m 0 e ≤ maxLen := grownCap_le_maxLen w m 0 e h63
    refine ⟨_, _, _, _, hr, heap_alloc_new w.drew _, .inr (Nat.le_refl _), fun j v hj => ?_, hge, hcm, ⟨rfl, rfl, rfl, by simp, fun k hk => Below.heap_alloc w.drew _ k hk⟩⟩
    have hjl : j < news.length := (List.getElem?_eq_some_iff.1 hj).1
    rw [Array.getElem?_append_left (by simpa using hjl)]
    simpa using hj
theorem wpList_append_mine {ops : Array Oper} {rest : List Oper} {o : Oper} {a : Act} {Q : Exit → Act → World → Prop} (hgd : o.guard = none) (s x : Operand) (t tx : TypeId)
    (ho : o.op = .call { callee := .builtin .append, args := #[s, x], argTypes := #[t, tx] })
    (e : TypeId) (i : TypeInfo) (z : Value) (size bytes : Nat) (ht : P.underlying t = some (.slice e)) (hi : P.info? e = some i) (hz : i.zero = some z)
    (hsize : i.size = size) (hby : i.bytes = bytes) (hzs : z.cells.size = size) (g : Nat) (hv : a.eval s = .slice (some ⟨g, 0, none⟩) 0 0) (hg : w.heap[g]? = some (.cells #[] e (0, 0)))
    (y : Value) (m : Nat) (news : List Value) (hy : a.eval x = y) (hs : Src P size tx y m news w) (h63 : m ≤ maxLen) (hbytes : m * bytes ≤ 140737488355328)
    (h : ∀ (g' c : Nat) (w' : World) (cs : Array Value), Blk w' g' e cs → (g' = g ∨ w.heap.size ≤ g') → (∀ (j : Nat) (v : Value), news[j]? = some v → (cs : Array Value)[j]? = some v) → m ≤ c → c ≤ maxLen → Below w.heap.size w w' → wpList P ops Q rest (a.put o.dst (.slice (some ⟨g', 0, none⟩) m c)) w') : wpList P ops Q (o :: rest) a w := by
  refine wpList_plain hgd fun K hK => ?_
  obtain ⟨g', c, w', cs, hrun, h2, h3, h4, h5, h6, h7⟩ := run_append_mine (P := P) w t tx o.type e i z size bytes ht hi hz hsize hby hzs g hg y m news hs h63 hbytes
  unfold Oper.wp execOp
  simp only [ho, resolve, invoke, builtin, Sem.run_bind, Sem.run_pure, Result.andThen_ok, List.map_toArray, List.map_cons, List.map_nil, hv, hy, hrun]
  exact hK _ _ (h g' c w' cs h2 h3 h4 h5 h6 h7)
end
end Go.Proofs.Ytfhbffgnpedaeaa
