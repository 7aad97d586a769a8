/- Law Bas App Mix Mxe Slc Chn Chi Apf Dap in one text. -/
import Derived.Test.YthfolccofjaknaaRows
import Derived.WalkKit
import Derived.ProofKit
import Derived.OpenShut
import Derived.SizedLaws
import Derived.Carry
import Derived.Lib.Hide
import Derived.IntWalk
import Derived.LoopN
import Derived.WalkLawsBesides
import Derived.WalkSpells
import Derived.Deep.Slices
import Derived.Deep.Fields
import Derived.Deep.RegionHeld3
import Derived.ChangeSame
import Derived.Lib.SmallJoins
import Derived.ChangeMaps5
import Derived.BigQuiet
import Derived.Deep.QuietTactic
import Derived.Lib.QuietBelow
import Derived.Laws.OwnMore
import Derived.Maps.AppendAt
import Derived.Deep.AppendSrc
import Derived.OwnWalk
import Derived.Laws.IdiomStrings
import Derived.StillTail
import Derived.OrdersHeld
import Derived.Deep.MidRow
import Derived.Deep.WholeRow
namespace Go.Proofs.Ythfolccofjaknaa
open Go.ChangeShapes Go.WideShapes Go.ChangeAt Go.RowKit Go.ChangeMaps
section
theorem trodAll_below {H : Type} {enc : TypeId × Value → H} {P : Program} (hl : laidOutB P = true) {W W' : World} (hb : Below W.heap.size W W') :
    ∀ {ts : List TypeId} {vs : List Value} {ds : List (DataW H)} {ps : List MemPlace}, (ts.all fun t => P.readableRec t && decide (t < P.types.size)) = true →
      DataW.TrodAll enc P W 0 (fun _ => true) true ts vs ds ps → (∀ x ∈ ps, x.block < W.heap.size) → DataW.TrodAll enc P W' 0 (fun b => decide (b < W.heap.size)) true ts vs ds ps
  | [], [], [], _, _, h, _ => h
  | [], [], _ :: _, _, _, h, _ => h.elim
  | [], _ :: _, _, _, _, h, _ => by cases h
  | _ :: _, [], _, _, _, h, _ => by cases h
  | _ :: _, _ :: _, [], _, _, h, _ => h.elim
  | t :: ts, v :: vs, d :: ds, ps, ht, h, hlt => by
    obtain ⟨p, q, h1, h2, rfl⟩ := h
    simp only [List.all_cons, Bool.and_eq_true, decide_eq_true_eq] at ht
    exact ⟨p, q, Below.trod hl ht.1.1 ht.1.2 h1 hb (fun x hx => hlt x (List.mem_append_left _ hx)), trodAll_below hl hb ht.2 h2 (fun x hx => hlt x (List.mem_append_right _ hx)), rfl⟩

theorem trodAll_len {H : Type} {enc : TypeId × Value → H} {P : Program} {W : World} {base : Nat} {spare : Nat → Bool} {held : Bool} :
    ∀ {ts : List TypeId} {vs : List Value} {ds : List (DataW H)} {ps : List MemPlace}, DataW.TrodAll enc P W base spare held ts vs ds ps → ds.length = ts.length
  | [], [], [], _, _ => rfl
  | [], [], _ :: _, _, h => h.elim
  | [], _ :: _, _, _, h => by cases h
  | _ :: _, [], _, _, h => by cases h
  | _ :: _, _ :: _, [], _, h => h.elim
  | _ :: _, _ :: _, _ :: _, _, h => by obtain ⟨_, _, _, h2, _⟩ := h; simpa using trodAll_len h2

theorem law_lifted {H : Type} {enc : TypeId × Value → H} {C : Checked} {os : Os} {f : FuncId} {fn : Func} {s : ChangeSpec} {B : TypeId}
    (own : ownKnob C.prog.godebug = none) (started : os.Started) (noInit : C.prog.inits.idxOf? f = none) (hfn : C.prog.funcs[f]? = some fn)
    (witness : ∃ (w : World) (tape : Tape) (i : Input), w.os = os ∧ (w.forCall tape i).Shaped C.prog ∧ i.vars = [] ∧ Input.okWide C.prog (w.forCall tape i) .any w.heap.size f i ∧
      s.pre6 enc C.prog fn [] false (w.forCall tape i).memory i.args ∧ ({} : Assume).holds C.prog (lone (Frame.enter C.prog f i.args .normal) [] (w.forCall tape i)))
    (hl : laidOutB C.prog = true) (hread : (fn.params.toList.all fun t => C.prog.readableRec t && decide (t < C.prog.types.size)) = true)
    (hvars : s.vars = []) (hvt : s.plain.varTypes C.prog = []) (hres : fn.resultTypes = #[B]) (hB : C.prog.underlying B = some .bool)
    (hspec : ∀ ds : List (DataW H), ds.length = fn.params.toList.length → s.fn H ds = { results := [.lit (.bool true)], args := ds })
    (walk : ∀ (W : World) (base : Nat) (args : Array Value) (ds : List (DataW H)) (ps : List MemPlace),
      (∀ (j : Nat) t v, fn.params[j]? = some t → args[j]? = some v → Value.okWide C.prog W .any base t v) →
      DataW.TrodAll enc C.prog W 0 (fun _ => true) true fn.params.toList args.toList ds ps → (∀ x ∈ ps, x.block < W.heap.size) →
      (DataW.weightsEach C.prog fn.params.toList ds).all (· ≤ reachBytes) = true →
      Calls C.prog f args W fun e W' => e = .returned (.bool true) ∧ Below W.heap.size W W') :
    ReturnsInHanded {} C os f .any (s.pre6 enc C.prog fn [] false) (s.post enc C.prog fn false true false false) := by
  refine returnsInHanded_of_change_sized own started noInit hfn witness ?_
  intro W base args ds gs before hval hW _ hsz _
  have hW' := hW
  obtain ⟨p, q, hA, hV, rfl, hfz, hnd⟩ := hW
  rw [hvars] at hV
  obtain ⟨rfl, rfl⟩ := trodVars_none hV
  rw [hvt] at hsz
  simp only [List.append_nil] at hsz
  have hlt : ∀ x ∈ p, x.block < W.heap.size := fun x hx => by simpa using hW'.lt x (by simp [hx])
  have hn := trodAll_len hA
  refine (walk W base args ds p hval hA hlt hsz).mono fun e W' ⟨he, hb⟩ => ?_
  subst he
  have es : s.fn H (ds ++ []) = { results := [.lit (.bool true)], args := ds } := by rw [List.append_nil]; exact hspec ds hn
  refine ⟨_, rfl, ds, [], p ++ [], [], p, [], hW', ?_, ?_, ?_, hb.frame _, fun h => by cases h⟩
  · rw [es, hres]
    exact trodAll_mk1 (shut_bool hB _)
  · rw [es]
    exact trodAll_below hl hb hread hA hlt
  · rw [es, hvars]
    rfl

theorem Try.own : ownKnob Try.prog.godebug = none := by kernel_rfl
theorem Try.laidOut : laidOutB Try.prog = true := by kernel_rfl
end

section
theorem int_eq {k : IntKind} {a b : Int} (h : a = b) : Value.int k a = .int k b := by rw [h]
theorem ret_int {k : IntKind} {a b : Int} (h : a = b) : Ending.returned (.int k a) = .returned (.int k b) := by rw [h]

theorem ret_bool {a b : Bool} (h : a = b) : Ending.returned (.bool a) = .returned (.bool b) := by rw [h]


theorem i64_bd {n : Int} (h : (Lit.int .i64 n).wf = true) : -9223372036854775808 ≤ n ∧ n ≤ 9223372036854775807 := by
  have h1 : IntKind.i64.min = -9223372036854775808 := rfl
  have h2 : IntKind.i64.max = 9223372036854775807 := rfl
  simp only [Lit.wf, Bool.and_eq_true, decide_eq_true_eq, h1, h2] at h
  exact h

theorem keepcell {W w1 : World} {b o : Nat} {v : Value} (hb : Below W.heap.size W w1) (h : W.cell? ⟨b, o, none⟩ = some v) : w1.cell? ⟨b, o, none⟩ = some v :=
  (hb.cell (p := ⟨b, o, none⟩) (block_lt_of_cell h)).trans h
theorem pastcell {w : World} {b o : Nat} {v : Value} {x : Obj} (h : w.cell? ⟨b, o, none⟩ = some v) : (w.alloc x).cell? ⟨b, o, none⟩ = some v := by
  rw [World.cell?_alloc_past _ _ _ (block_lt_of_cell h)]; exact h
theorem newcell {w : World} {cs : Array Value} {T : TypeId} {g : Nat} (j : Nat) (v : Value) (hg : g = w.heap.size) (h : cs[j]? = some v) : (w.alloc (.cells cs T)).cell? ⟨g, j, none⟩ = some v := by
  rw [World.cell?_alloc_at _ _ _ _ hg]; exact h
theorem more_below {w W W' : World} (h : Below w.heap.size w W) (hb : Below W.heap.size W W') : Below w.heap.size w W' := h.trans (hb.mono h.size)
theorem below_drewN {w W : World} {n : Nat} (h : Below w.heap.size w W) : Below w.heap.size w (W.drewN n) := ⟨h.os, h.tape, h.output, h.size, h.block⟩
theorem below_drew {w W : World} (h : Below w.heap.size w W) : Below w.heap.size w W.drew := ⟨h.os, h.tape, h.output, h.size, h.block⟩
theorem newfree {w : World} {cs : Array Value} {T : TypeId} {g : Nat} (hg : g = w.heap.size) : ∀ j, (w.alloc (.cells cs T)).frozen? ⟨g, j, none⟩ = false := fun j => by
  subst hg
  exact Joins.unfrozen_of_block (cs := cs) (t := T) (by show (w.heap.push _)[w.heap.size]? = _; simp) j
theorem keepfree {w w' : World} {g : Nat} (hg : g < w.heap.size) (hb : Below w.heap.size w w') (h : ∀ j, w.frozen? ⟨g, j, none⟩ = false) : ∀ j, w'.frozen? ⟨g, j, none⟩ = false := fun j => (hb.frozen (p := ⟨g, j, none⟩) hg).trans (h j)
open Go.Deep
section
variable {H : Type} {enc : TypeId × Value → H} {P : Program} {w : World} {base : Nat} {spare : Nat → Bool} {held : Bool}
/-- A slice of structs of one-cell fields: every element's cells and the fields' readings. -/
theorem open_slice_fields {t e : TypeId} {fs : Array Field} {fuel : Nat} {cs : List Value} {x : DataW H × List MemPlace} (ht : P.underlying t = some (.slice e)) (he : P.underlying e = some (.struct fs))
    (hone : oneCellFields P fs = true) (hC : P.cellsOf e = fs.size) (h : DataW.trod enc P w base spare held fuel t cs = some x) :
    (cs = [.slice none 0 0] ∧ x = (.nil, [])) ∨
    ∃ (a : Addr) (len cap m : Nat) (D : Nat → DataW H) (Pl : Nat → List MemPlace), cs = [.slice (some a) len cap] ∧ base ≤ a.block ∧ len ≤ cap ∧ cap ≤ maxLen ∧ m = (if spare a.block then cap else len) ∧
      x = (.slice ((List.range len).map D) ((List.range (m - len)).map fun j => D (len + j)), MemPlace.row a (m * fs.size) ++ (List.range m).flatMap Pl) ∧
      ∀ i, i < m → ∃ (ys : List (DataW H × List MemPlace)) (n : Nat), D i = .agg (ys.map (·.1)) ∧ Pl i = ys.flatMap (·.2) ∧ ys.length = fs.size ∧
        ∀ (j : Nat) (f : Field), fs[j]? = some f → ∃ (v : Value) (y : DataW H × List MemPlace), w.cell? (a.add (i * fs.size + j)) = some v ∧ ys[j]? = some y ∧ DataW.trod enc P w base spare held n f.type [v] = some y := by
  rcases open_slice ht h with h0 | ⟨a, len, cap, m, n, D, Pl, hcs, hb, hl, hm, hmm, hx, hi⟩
  · exact .inl h0
  · refine .inr ⟨a, len, cap, m, D, Pl, hcs, hb, hl, hm, hmm, by rw [hC] at hx; exact hx, fun i him => ?_⟩
    obtain ⟨cs', hc, ht'⟩ := hi i him
    rw [hC] at hc
    obtain ⟨ys, n', hn', hy, hlen, hyl, hf⟩ := DataW.trod_struct he ht'
    obtain ⟨_, hcl, hat⟩ := World.cells?_some hc
    simp only [Prod.mk.injEq] at hy
    refine ⟨ys, n', hy.1, hy.2, hyl, fun j f hj => ?_⟩
    obtain ⟨ho, hk⟩ := hone_of hone j f hj
    have hjl : j < fs.size := (Array.getElem?_eq_some_iff.1 hj).1
    have hcell := hat j hjl
    have hv : cs'[j]? = some (cs'[j]'(by omega)) := List.getElem?_eq_getElem (by omega)
    have h1 := hf j f hj
    rw [ho, hk] at h1
    have hone' : (cs'.drop j).take 1 = [cs'[j]'(by omega)] := by
      rw [List.drop_eq_getElem_cons (by omega)]
      rfl
    rw [hone'] at h1
    have hys : ys[j]? = some (ys[j]'(by omega)) := List.getElem?_eq_getElem (by omega)
    refine ⟨_, _, ?_, hys, h1.trans hys⟩
    rw [← Go.Deep.add_add, hcell, hv]
theorem weightsAll_of {e : TypeId} {x : DataW H} : ∀ {l : List (DataW H)}, x ∈ l → ∀ n ∈ x.weights P e, n ∈ DataW.weightsAll P e l
  | y :: l, hx, n, hn => by
    simp only [DataW.weightsAll, List.mem_append]
    rcases List.mem_cons.1 hx with rfl | hx
    · exact .inl hn
    · exact .inr (weightsAll_of hx n hn)
end

open Go.WideElems
theorem open_aggN {H : Type} {enc : TypeId × Value → H} {P : Program} {w : World} {base : Nat} {spare : Nat → Bool} {held : Bool} {r : Reach} {b0 : Nat} {t : TypeId} {fs : Array Field} {v : Value} {d : DataW H} {p : List MemPlace} (hs : P.underlying t = some (.struct fs)) (hone : oneCellFields P fs = true) (hC : P.cellsOf t = fs.size)
    (hv : Value.okWide P w r b0 t v) (h : DataW.Trod enc P w base spare held t v d p) :
    ∃ vs : Array Value, v = .agg vs ∧ vs.size = fs.size ∧ ∀ (i : Nat) (f : Field), fs[i]? = some f → ∃ vi y m, vs[i]? = some vi ∧ DataW.trod enc P w base spare held m f.type [vi] = some y := by
  obtain ⟨cs, rfl, hsz⟩ := okWide_struct hs hv
  obtain ⟨fuel, hf⟩ := h
  obtain ⟨xs, n, _, _, hl, hlen, hg⟩ := DataW.trod_struct hs hf
  refine ⟨cs, rfl, hsz.trans hC, fun i f hi => ?_⟩
  obtain ⟨o, k⟩ := hone_of hone i f hi
  have hlt : i < fs.size := (Array.getElem?_eq_some_iff.1 hi).1
  have hlc : i < cs.size := by rw [hsz, hC]; exact hlt
  have e := hg i f hi
  have hx : i < xs.length := by rw [hlen]; simpa using hlt
  rw [o, k] at e
  refine ⟨cs[i], xs[i], n, by simp [hlc], ?_⟩
  rw [List.getElem?_eq_getElem hx] at e
  rw [← e]
  congr 1
  rw [show Value.cells (.agg cs) = cs from rfl]
  rw [List.drop_eq_getElem_cons (by simpa using hlc)]
  simp
end

section
/-- The new row is the old one or new. -/
def Moved (w : World) (v v' : Value) : Prop := v'.ownBlock = v.ownBlock ∨ ∃ k, v'.ownBlock = some k ∧ w.heap.size ≤ k

section
variable {P : Program} (w : World)

theorem run_append_src (base : Nat) (t tx ty e : TypeId) (i : TypeInfo) (z : Value) (size bytes : Nat) (ht : P.underlying t = some (.slice e)) (hi : P.info? e = some i) (hz : i.zero = some z)
    (hsize : i.size = size) (hby : i.bytes = bytes) (hzs : z.cells.size = size)
    (v : Value) (n : Nat) (xs : List Value) (hown : w.ownsRow base e size v n xs)
    (x : Value) (m : Nat) (news : List Value) (hs : Src P size tx x m news w)
    (h63 : n + m ≤ maxLen) (hbytes : (n + m) * bytes ≤ 140737488355328) (hbase : base ≤ w.heap.size) :
    ∃ v' w', (Builtin.append_ #[t, tx] ty #[v, x]).run P w = .ok v' w' ∧ w'.ownsRow base e size v' (n + m) (xs ++ news) ∧ w.grownBy w' v.ownBlock ∧ Moved w v v' := by
  subst hsize
  subst hby
  have hl := hs.newsLen
  have h1 := hs.one
  have hsmall : n + m ≤ 9223372036854775807 := by simp only [maxLen] at h63; omega
  have hlen : (xs ++ news).length = (n + m) * i.size := by rw [List.length_append, hown.1, hl, Nat.add_mul]
  have grown : ∀ (old : Nat), old < n + m → ∀ (row : Option Nat),
      (w.drew.alloc (.cells ((xs ++ news).toArray ++ Builtin.zeroCells z.cells (grownCap w (n + m) old e - (n + m))) e)).ownsRow base e i.size
        (.slice (some ⟨w.heap.size, 0, none⟩) (n + m) (grownCap w (n + m) old e)) (n + m) (xs ++ news) ∧
      w.grownBy (w.drew.alloc (.cells ((xs ++ news).toArray ++ Builtin.zeroCells z.cells (grownCap w (n + m) old e - (n + m))) e)) row := by
    intro old ho row
    have hge := grownCap_ge w (n + m) old e
    have hcm : grownCap w (n + m) old e ≤ maxLen := grownCap_le_maxLen w (n + m) old e h63
    refine ⟨⟨hlen, .inr ⟨w.heap.size, _, _, rfl, hbase, heap_alloc_new w.drew _, hge, hcm, ?_, ?_⟩⟩, ⟨rfl, rfl, rfl, by simp, fun k hk _ => Below.heap_alloc w.drew _ k hk⟩⟩
    · simp only [Array.size_append, List.size_toArray, size_zeroCells, hzs, List.length_append, hown.1, hl, ← Nat.add_mul]
      congr 1
      omega
    · simp only [Array.toList_append]
      rw [← hlen]
      exact List.take_left
  rcases hown.2 with ⟨rfl, rfl⟩ | ⟨g, cap, cur, rfl, hbg, hg, hnc, hcm, hcs, htake⟩
  · have hx : xs = [] := List.eq_nil_of_length_eq_zero (by simpa using hown.1)
    subst hx
    by_cases hm : m = 0
    · subst hm
      have hn : news = [] := List.eq_nil_of_length_eq_zero (by simpa using hl)
      subst hn
      refine ⟨.slice none 0 0, w, ?_, World.ownsRow_nil w base e i.size, World.grownBy.refl w _, Or.inl rfl⟩
      rcases hs.kind with ⟨e', hk⟩ | hk <;> simp [Builtin.append_, run_underlying ht, run_underlying hk, sizeOf, typeInfo, hi, hs.len, hs.cells]
    · have hr := run_append_grow_src (P := P) w t tx ty e i z ht hi hz none 0 0 [] (run_firstCells_none w.drew i.size 0 0 0) x m news hs (by omega) (by omega) (growslice_fits (by omega) hbytes)
      have hgr := grown 0 (by omega) (Value.ownBlock (.slice none 0 0))
      exact ⟨_, _, hr, hgr.1, hgr.2, Or.inr ⟨_, rfl, Nat.le_refl _⟩⟩
  · by_cases hroom : n + m ≤ cap
    · have hfit : n * i.size + news.length ≤ cur.size := by rw [hl, hcs, ← Nat.add_mul]; exact Nat.mul_le_mul_right _ hroom
      have hst := run_storeCells_at P g (n * i.size) e news 0 cur w hg (by simpa using hfit) h1
      simp only [Nat.add_zero] at hst
      have hr : (Builtin.append_ #[t, tx] ty #[.slice (some ⟨g, 0, none⟩) n cap, x]).run P w =
          .ok (.slice (some ⟨g, 0, none⟩) (n + m) cap) (w.setRow g (cur.toList.take (n * i.size) ++ news ++ cur.toList.drop (n * i.size + news.length)).toArray) := by
        rcases hs.kind with ⟨e', hk⟩ | hk <;> simp [Builtin.append_, run_underlying ht, run_underlying hk, sizeOf, typeInfo, hi, hs.len, hroom, hs.cells, Addr.add_lit, hst]
      refine ⟨_, _, hr, ⟨hlen, .inr ⟨g, cap, _, rfl, hbg, setRow_heap w g cur _ e _ hg, hroom, hcm, ?_, ?_⟩⟩, ⟨rfl, rfl, rfl, by simp, fun k _ hk => setRow_other w g k _ (fun e => hk (by simp [Value.ownBlock, e]))⟩, Or.inl rfl⟩
      · simp only [List.size_toArray, List.length_append, List.length_take, List.length_drop, Array.length_toList]
        omega
      · rw [htake, ← hlen]
        exact List.take_left
    · have holds : ∀ j u, xs[j]? = some u → w.drew.cell? ((⟨g, 0, none⟩ : Addr).add j) = some u := hown.cells (g := g) rfl
      have hr := run_append_grow_src (P := P) w t tx ty e i z ht hi hz (some ⟨g, 0, none⟩) n cap xs (run_firstCells_some w.drew i.size n ⟨g, 0, none⟩ n cap xs hown.1 holds) x m news hs (by omega) (by omega) (growslice_fits (by omega) hbytes)
      have hgr := grown cap (by omega) (Value.ownBlock (.slice (some ⟨g, 0, none⟩) n cap))
      exact ⟨_, _, hr, hgr.1, hgr.2, Or.inr ⟨_, rfl, Nat.le_refl _⟩⟩

theorem wp_append_src {o : Oper} {a : Act} {K : Act → World → Prop} {Q : Exit → Act → World → Prop} (s x : Operand) (t tx : TypeId)
    (ho : o.op = .call { callee := .builtin .append, args := #[s, x], argTypes := #[t, tx] })
    (base : Nat) (e : TypeId) (i : TypeInfo) (z : Value) (size bytes : Nat) (ht : P.underlying t = some (.slice e)) (hi : P.info? e = some i) (hz : i.zero = some z)
    (hsize : i.size = size) (hby : i.bytes = bytes) (hzs : z.cells.size = size)
    (v : Value) (n : Nat) (xs : List Value) (hv : a.eval s = v) (hown : w.ownsRow base e size v n xs)
    (y : Value) (m : Nat) (news : List Value) (hy : a.eval x = y) (hs : Src P size tx y m news w)
    (h63 : n + m ≤ maxLen) (hbytes : (n + m) * bytes ≤ 140737488355328) (hbase : base ≤ w.heap.size)
    (h : ∀ v' w', w'.ownsRow base e size v' (n + m) (xs ++ news) → w.grownBy w' v.ownBlock → Moved w v v' → K (a.put o.dst v') w') : o.wp P a w K Q := by
  obtain ⟨v', w', hrun, h2, h3, h4⟩ := run_append_src (P := P) w base t tx o.type e i z size bytes ht hi hz hsize hby hzs v n xs hown y m news hs h63 hbytes hbase
  unfold Oper.wp execOp
  simp only [ho, resolve, invoke, builtin, Sem.run_bind, Sem.run_pure, Result.andThen_ok, List.map_toArray, List.map_cons, List.map_nil, hv, hy, hrun]
  exact h v' w' h2 h3 h4

theorem wpList_append_src {ops : Array Oper} {rest : List Oper} {o : Oper} {a : Act} {Q : Exit → Act → World → Prop} (hgd : o.guard = none) (s x : Operand) (t tx : TypeId)
    (ho : o.op = .call { callee := .builtin .append, args := #[s, x], argTypes := #[t, tx] })
    (base : Nat) (e : TypeId) (i : TypeInfo) (z : Value) (size bytes : Nat) (ht : P.underlying t = some (.slice e)) (hi : P.info? e = some i) (hz : i.zero = some z)
    (hsize : i.size = size) (hby : i.bytes = bytes) (hzs : z.cells.size = size)
    (v : Value) (n : Nat) (xs : List Value) (hv : a.eval s = v) (hown : w.ownsRow base e size v n xs)
    (y : Value) (m : Nat) (news : List Value) (hy : a.eval x = y) (hs : Src P size tx y m news w)
    (h63 : n + m ≤ maxLen) (hbytes : (n + m) * bytes ≤ 140737488355328) (hbase : base ≤ w.heap.size)
    (h : ∀ v' w', w'.ownsRow base e size v' (n + m) (xs ++ news) → w.grownBy w' v.ownBlock → Moved w v v' → wpList P ops Q rest (a.put o.dst v') w') : wpList P ops Q (o :: rest) a w :=
  wpList_plain hgd fun _ hK => wp_append_src w s x t tx ho base e i z size bytes ht hi hz hsize hby hzs v n xs hv hown y m news hy hs h63 hbytes hbase fun v' w' h2 h3 h4 => hK _ _ (h v' w' h2 h3 h4)

theorem step_append_src {ops : Array Oper} {o : Oper} {a : Act} {K : Act → World → Prop} {Q : Exit → Act → World → Prop} {E : Prop} (hgd : o.guard = none) (s x : Operand) (t tx : TypeId)
    (ho : o.op = .call { callee := .builtin .append, args := #[s, x], argTypes := #[t, tx] })
    (base : Nat) (e : TypeId) (i : TypeInfo) (z : Value) (size bytes : Nat) (ht : P.underlying t = some (.slice e)) (hi : P.info? e = some i) (hz : i.zero = some z)
    (hsize : i.size = size) (hby : i.bytes = bytes) (hzs : z.cells.size = size)
    (v : Value) (n : Nat) (xs : List Value) (hv : a.eval s = v) (hown : w.ownsRow base e size v n xs)
    (y : Value) (m : Nat) (news : List Value) (hy : a.eval x = y) (hs : Src P size tx y m news w)
    (h63 : n + m ≤ maxLen) (hbytes : (n + m) * bytes ≤ 140737488355328) (hbase : base ≤ w.heap.size)
    (h : ∀ v' w', w'.ownsRow base e size v' (n + m) (xs ++ news) → w.grownBy w' v.ownBlock → Moved w v v' → K (a.put o.dst v') w') :
    if Region.wanted o (yielded ops a.tmps) = true then Oper.wp P o a w K Q else E := by
  have hw : Region.wanted o (yielded ops a.tmps) = true := by simp [Region.wanted, hgd]
  rw [if_pos hw]
  exact wp_append_src w s x t tx ho base e i z size bytes ht hi hz hsize hby hzs v n xs hv hown y m news hy hs h63 hbytes hbase h
end

/-- Two steps on one row. -/
theorem grown_chain {a b c : World} {v v' : Value} (h : a.grownBy b v.ownBlock) (hm : Moved a v v') (k : b.grownBy c v'.ownBlock) : a.grownBy c v.ownBlock :=
  ⟨k.os.trans h.os, k.tape.trans h.tape, k.output.trans h.output, Nat.le_trans h.size k.size, fun i hi hne => (k.block i (Nat.lt_of_lt_of_le hi h.size) (by
    rcases hm with e | ⟨g, e, hg⟩
    · rw [e]; exact hne
    · rw [e]; intro e2; injection e2 with e2; omega)).trans (h.block i hi hne)⟩
theorem moved_chain {a b : World} {v v' v'' : Value} (hs : a.heap.size ≤ b.heap.size) (h : Moved a v v') (k : Moved b v' v'') : Moved a v v'' := by
  rcases k with e | ⟨g, e, hg⟩
  · rcases h with e2 | ⟨g2, e2, hg2⟩
    · exact .inl (e.trans e2)
    · exact .inr ⟨g2, e.trans e2, hg2⟩
  · exact .inr ⟨g, e, by omega⟩
theorem grown_below {B : Nat} {a w w' : World} {v : Value} {e : TypeId} {size n : Nat} {xs : List Value} (h : Below B a w) (hB : B ≤ w.heap.size) (hown : w.ownsRow B e size v n xs) (hg : w.grownBy w' v.ownBlock) : Below B a w' :=
  h.grown hg hB (fun j hj => (hown.lt j hj).1)

/-- Bytes as cells. -/
def bc (l : List UInt8) : List Value := l.map fun x => Value.int .u8 (x.toNat : Int)
theorem bc_len (l : List UInt8) : (bc l).length = l.length := by simp [bc]
theorem bc_app (l m : List UInt8) : bc (l ++ m) = bc l ++ bc m := by simp [bc]
theorem bc_at (l : List UInt8) (j : Nat) (h : j < l.length) : (bc l)[j]? = some (.int .u8 (l[j].toNat : Int)) := by simp [bc, List.getElem?_eq_getElem h]
theorem bc_one (l : List UInt8) : ∀ u ∈ bc l, u.oneCell' = true := by
  intro u hu; obtain ⟨x, _, rfl⟩ := List.mem_map.1 hu; rfl
theorem bc_inj {l m : List UInt8} (h : bc l = bc m) : l = m := by
  unfold bc at h
  have : ∀ a b : UInt8, Value.int .u8 (a.toNat : Int) = .int .u8 (b.toNat : Int) → a = b := by
    intro a b e; injection e with _ e; exact UInt8.toNat.inj (by omega)
  exact (List.map_inj_right this).1 h
theorem bytes_bc (s : ByteArray) : byteCells s = bc s.data.toList := rfl

/-- From w on, the row v has become v' and holds the bytes l; besides it and new blocks nothing has changed. -/
def Grows (E : TypeId) (B : Nat) (w : World) (v : Value) (l : List UInt8) (v' : Value) (w' : World) : Prop :=
  w'.ownsRow B E 1 v' l.length (bc l) ∧ w.grownBy w' v.ownBlock ∧ Moved w v v' ∧ B ≤ w'.heap.size
section
variable {E : TypeId} {B : Nat} {w W W' : World} {v v' v'' : Value} {l : List UInt8}
theorem Grows.refl (h : w.ownsRow B E 1 v l.length (bc l)) (hB : B ≤ w.heap.size) : Grows E B w v l v w := ⟨h, World.grownBy.refl w _, .inl rfl, hB⟩
theorem Grows.none_ (hB : B ≤ w.heap.size) : Grows E B w (.slice none 0 0) [] (.slice none 0 0) w := .refl (World.ownsRow_nil _ _ _ _) hB
theorem Grows.size (h : Grows E B w v l v' W) : w.heap.size ≤ W.heap.size := h.2.1.size
theorem Grows.more (h : Grows E B w v l v' W) (hs : W.heap.size ≤ W'.heap.size) (ho : W'.ownsRow B E 1 v' l.length (bc l)) (hg : W.grownBy W' v'.ownBlock) : Grows E B w v l v' W' :=
  ⟨ho, grown_chain h.2.1 h.2.2.1 hg, h.2.2.1, Nat.le_trans h.2.2.2 hs⟩
theorem Grows.alloc (h : Grows E B w v l v' W) (o : Obj) : Grows E B w v l v' (W.alloc o) := h.more (by simp) (h.1.alloc o) (World.grownBy_alloc W o _)
theorem Grows.drew (h : Grows E B w v l v' W) : Grows E B w v l v' W.drew := ⟨h.1, ⟨h.2.1.os, h.2.1.tape, h.2.1.output, h.2.1.size, h.2.1.block⟩, h.2.2.1, h.2.2.2⟩
theorem grown_of_below {row : Option Nat} (hb : Below W.heap.size W W') : W.grownBy W' row := ⟨hb.os, hb.tape, hb.output, hb.size, fun k hk _ => hb.block k hk⟩
theorem own_below {e : TypeId} {size n : Nat} {xs : List Value} (h : W.ownsRow B e size v n xs) (hb : Below W.heap.size W W') : W'.ownsRow B e size v n xs :=
  h.kept (grown_of_below (row := none) hb) (by cases v.ownBlock <;> simp)
theorem Grows.below (hb : Below W.heap.size W W') (h : Grows E B w v l v' W) : Grows E B w v l v' W' := h.more hb.size (own_below h.1 hb) (grown_of_below hb)
theorem Grows.step (h : Grows E B w v l v' W) {j : Nat} {N : List Value} (news : List UInt8) (own' : W'.ownsRow B E 1 v'' (l.length + j) (bc l ++ N)) (hN : N = bc news) (hj : j = news.length)
    (hg : W.grownBy W' v'.ownBlock) (hm : Moved W v' v'') : Grows E B w v (l ++ news) v'' W' := by
  subst hN; subst hj
  exact ⟨by rw [bc_app, List.length_append]; exact own', grown_chain h.2.1 h.2.2.1 hg, moved_chain h.2.1.size h.2.2.1 hm, Nat.le_trans h.2.2.2 hg.size⟩
theorem Grows.is_below (h : Grows E B w v l v' W) (hv : v = .slice none 0 0) : Below w.heap.size w W := by
  subst hv
  exact ⟨h.2.1.os, h.2.1.tape, h.2.1.output, h.2.1.size, fun k hk => h.2.1.block k hk (by simp [Value.ownBlock])⟩
theorem Grows.below_of (h : Grows E B w v l v' W) {n : Nat} {xs : List Value} (ho : w.ownsRow B E 1 v n xs) (hB : B ≤ w.heap.size) : Below B w W :=
  (Below.refl B w).grown h.2.1 hB (fun j hj => (ho.lt j hj).1)
end

/-- What an append hands back. -/
def Apd (E : TypeId) (B : Nat) (w : World) (v : Value) (l : List UInt8) (e : Ending) (w' : World) : Prop := ∃ v', e = .returned v' ∧ Grows E B w v l v' w'

/-- A block that is known whole. -/
def Blk (w : World) (g : Nat) (t : TypeId) (cs : Array Value) : Prop := w.heap[g]? = some (.cells cs t (0, 0))
section
variable {w w' : World} {g : Nat} {t : TypeId} {cs : Array Value}
theorem Blk.lt (h : Blk w g t cs) : g < w.heap.size := by
  rcases Nat.lt_or_ge g w.heap.size with hlt | hge
  · exact hlt
  · unfold Blk at h; rw [Array.getElem?_eq_none hge] at h; cases h
theorem Blk.cell (h : Blk w g t cs) (i : Nat) : w.cell? ⟨g, i, none⟩ = cs[i]? := cell_of_row w g i cs t (0, 0) h
theorem Blk.new (w : World) (t : TypeId) (cs : Array Value) : Blk (w.alloc (.cells cs t)) w.heap.size t cs := heap_alloc_new w _
theorem Blk.new_ {cs' : Array Value} (hg : g = w.heap.size) (hc : cs' = cs) : Blk (w.alloc (.cells cs t)) g t cs' := by subst hg; subst hc; exact Blk.new _ _ _
theorem Blk.alloc (h : Blk w g t cs) (o : Obj) : Blk (w.alloc o) g t cs := (Below.heap_alloc w o g h.lt).trans h
theorem Blk.drew (h : Blk w g t cs) : Blk w.drew g t cs := h
theorem Blk.below (hb : Below w.heap.size w w') (h : Blk w g t cs) : Blk w' g t cs := (hb.block g h.lt).trans h
theorem own_blk_ne {base : Nat} {e : TypeId} {size n : Nat} {v : Value} {xs : List Value} (h : w.ownsRow base e size v n xs) (hg : Blk w g t cs) (hne : t ≠ e) : v.ownBlock ≠ some g := by
  rcases h.2 with ⟨rfl, _⟩ | ⟨g', cap, cur, rfl, _, hh, _⟩
  · simp [Value.ownBlock]
  · intro he
    have : g' = g := by simpa [Value.ownBlock] using he
    subst this
    unfold Blk at hg
    rw [hh] at hg
    injection hg with hg
    injection hg with _ h2
    exact hne h2.symm
theorem Blk.grown {base : Nat} {e : TypeId} {size n : Nat} {v : Value} {xs : List Value} (h : Blk w g t cs) (ho : w.ownsRow base e size v n xs) (hne : t ≠ e) (hg : w.grownBy w' v.ownBlock) : Blk w' g t cs :=
  (hg.block g h.lt (fun e2 => own_blk_ne ho h hne e2.symm)).trans h
end

theorem src_blk {P : Program} {W : World} {g e t size : Nat} {xs : List Value} {n c : Nat} (ht : P.underlying t = some (.slice e)) (hl : xs.length = n * size) (h1 : ∀ u ∈ xs, u.oneCell' = true) (h : Blk W g e xs.toArray) :
    Src P size t (.slice (some ⟨g, 0, none⟩) n c) n xs W := by
  refine Src.ofSlice _ ht _ _ _ _ hl (fun j u hu => ?_) h1
  rw [add_plain, Nat.zero_add, h.cell j]
  simpa using hu
theorem src_str {P : Program} {W : World} {t : TypeId} (ht : P.underlying t = some .string) (l : List UInt8) (n : Nat) (hn : n = l.length) : Src P 1 t (.string ⟨l.toArray⟩) n (bc l) W := by
  have := Src.ofString (P := P) W (tx := t) ht ⟨l.toArray⟩
  rw [bytes_bc] at this
  have e : ByteArray.size ⟨l.toArray⟩ = n := by rw [hn]; simp [ByteArray.size]
  rw [e] at this
  exact this

theorem step_app {P : Program} {W : World} {ops : Array Oper} {o : Oper} {a : Act} {K : Act → World → Prop} {Q : Exit → Act → World → Prop} {F : Prop} (hgd : o.guard = none) (s x : Operand) (t tx : TypeId)
    (ho : o.op = .call { callee := .builtin .append, args := #[s, x], argTypes := #[t, tx] })
    (B : Nat) (w0 : World) (v0 : Value) (e : TypeId) (i : TypeInfo) (ht : P.underlying t = some (.slice e)) (hi : P.info? e = some i) (hz : i.zero = some (.int .u8 0)) (hsize : i.size = 1) (hby : i.bytes = 1)
    (v : Value) (l : List UInt8) (hv : a.eval s = v) (G : Grows e B w0 v0 l v W)
    (y : Value) (m : Nat) (news : List UInt8) (hy : a.eval x = y) (hs : Src P 1 tx y m (bc news) W) (hb : l.length + m ≤ 140737488355328)
    (h : ∀ v' w', Grows e B w0 v0 (l ++ news) v' w' → W.heap.size ≤ w'.heap.size → (∀ g t cs, t ≠ e → Blk W g t cs → Blk w' g t cs) → K (a.put o.dst v') w') :
    if Region.wanted o (yielded ops a.tmps) = true then Oper.wp P o a W K Q else F :=
  step_append_src W hgd s x t tx ho B e i _ 1 1 ht hi hz hsize hby rfl v l.length (bc l) hv G.1 y m (bc news) hy hs (by unfold maxLen; omega) (by omega) G.2.2.2
    fun v' w' own' hg hm => h v' w' (G.step news own' rfl (by have := hs.newsLen; rw [bc_len] at this; omega) hg hm) hg.size (fun _ _ _ hne hk => hk.grown G.1 hne hg)

theorem wpList_app {P : Program} {W : World} {ops : Array Oper} {rest : List Oper} {o : Oper} {a : Act} {Q : Exit → Act → World → Prop} (hgd : o.guard = none) (s x : Operand) (t tx : TypeId)
    (ho : o.op = .call { callee := .builtin .append, args := #[s, x], argTypes := #[t, tx] })
    (B : Nat) (w0 : World) (v0 : Value) (e : TypeId) (i : TypeInfo) (ht : P.underlying t = some (.slice e)) (hi : P.info? e = some i) (hz : i.zero = some (.int .u8 0)) (hsize : i.size = 1) (hby : i.bytes = 1)
    (v : Value) (l : List UInt8) (hv : a.eval s = v) (G : Grows e B w0 v0 l v W)
    (y : Value) (m : Nat) (news : List UInt8) (hy : a.eval x = y) (hs : Src P 1 tx y m (bc news) W) (hb : l.length + m ≤ 140737488355328)
    (h : ∀ v' w', Grows e B w0 v0 (l ++ news) v' w' → W.heap.size ≤ w'.heap.size → (∀ g t cs, t ≠ e → Blk W g t cs → Blk w' g t cs) → wpList P ops Q rest (a.put o.dst v') w') : wpList P ops Q (o :: rest) a W :=
  wpList_append_src W hgd s x t tx ho B e i _ 1 1 ht hi hz hsize hby rfl v l.length (bc l) hv G.1 y m (bc news) hy hs (by unfold maxLen; omega) (by omega) G.2.2.2
    fun v' w' own' hg hm => h v' w' (G.step news own' rfl (by have := hs.newsLen; rw [bc_len] at this; omega) hg hm) hg.size (fun _ _ _ hne hk => hk.grown G.1 hne hg)

/-- 'string(b)' of a row of the call's own. -/
theorem run_string_own {P : Program} (w : World) (src dst e : TypeId) (B : Nat) (v : Value) (l : List UInt8) (hs : P.underlying src = some (.slice e)) (he : P.underlying e = some (.int .u8)) (hd : P.underlying dst = some .string)
    (h : w.ownsRow B e 1 v l.length (bc l)) : (convert src dst v).run P w = .ok (.string ⟨l.toArray⟩) w := by
  rcases h.2 with ⟨rfl, hl⟩ | ⟨g, cap, cur, rfl, hg, hh, hnc, hcap, hsz, htake⟩
  · obtain rfl : l = [] := List.eq_nil_of_length_eq_zero hl
    rw [run_convert_bytes_string w src dst e none 0 0 hs he hd]
    rfl
  · refine run_convert_bytes_back w src dst e ⟨g, 0, none⟩ cap l hs he hd fun j hj => ?_
    rw [add_plain, Nat.zero_add, World.ownsRow.cellAt h j (by omega), bc_at l j hj]
end

section
section
variable {P : Program} {ops : Array Oper} {md : Region.Mode} {S : World → Prop} {Q : Exit → Act → World → Prop}
/-- Whatever order the head is carried out in: behind each of its operations S holds; the tail waits for it. -/
def wpAnyM (P : Program) (md : Region.Mode) (ops : Array Oper) (Q : Exit → Act → World → Prop) (S : World → Prop) (n : Nat) (L : Array Bool → Act → World → Prop) : Nat → Array Bool → Act → World → Prop
  | 0, listed, a, w => L listed a w
  | f + 1, listed, a, w => Region.ready md ops listed ≠ [] ∧ ∀ i ∈ Region.ready md ops listed, i < n ∧ wpOp P ops Q i (fun a' w' => S w' ∧ wpAnyM P md ops Q S n L f (listed.setIfInBounds i true) a' w') a w
theorem wpAny_of_mix {n g : Nat} {L : Array Bool → Act → World → Prop} (hL : ∀ listed a w, L listed a w → wpAny P md ops Q g listed a w) :
    ∀ (f : Nat) (listed : Array Bool) (a : Act) (w : World), wpAnyM P md ops Q S n L f listed a w → wpAny P md ops Q (f + g) listed a w
  | 0, listed, a, w, h => by rw [Nat.zero_add]; exact hL _ _ _ h
  | f + 1, listed, a, w, h => by
    rw [show f + 1 + g = (f + g) + 1 by omega]
    exact ⟨fun h0 => absurd h0 h.1, fun i hi => wpOp_mono (fun a' w' h' => wpAny_of_mix hL f _ a' w' h'.2) (h.2 i hi).2⟩
theorem wpAnyM_first {n i : Nat} {oi : Oper} {v : Value} {L : Array Bool → Act → World → Prop} (hi : ops[i]? = some oi) (hsel : ∀ (j : Nat) (o : Oper) cs b, ops[j]? = some o → o.op ≠ .select cs b)
    (hs : Region.sinkB md ops n = true) (hc : Region.chainB md ops n = true) (hn : n < ops.size) (hin : i < n)
    (hdone : ∀ listed a w, L listed a w → ∀ j ∈ Region.ready md ops listed, n ≤ j) (hQ : ∀ c a w, Q (.panic c) (a.put oi.dst v) w → Q (.panic c) a w) :
    ∀ (f : Nat) (listed : Array Bool) (a : Act) (w : World), HeadInv md ops n listed →
      (∀ j oj, ops[j]? = some oj → j ≠ i → listed.getD j true = false → (∀ e ∈ oj.after, Region.binds md e = true → e.on ≠ i) → oi.apart ops oj = true) →
      i ∈ Region.ready md ops listed → YieldsIf P ops S oi v a → S w →
      wpAnyM P md ops Q S n L f (listed.setIfInBounds i true) (a.put oi.dst v) w → wpAnyM P md ops Q S n L (f + 1) listed a w := by
  intro f
  induction f with
  | zero =>
    intro listed a w inv _ hr hy hS H
    have hun := (mem_ready.1 hr).1
    refine ⟨fun h => (by rw [h] at hr; cases hr), fun j hj => ?_⟩
    have hjn : j < n := by
      rcases Nat.lt_or_ge j n with h | h
      · exact h
      · exact absurd hj (tail_waits hs hc hn inv _ i rfl hin hun j h)
    refine ⟨hjn, ?_⟩
    by_cases hji : j = i
    · subst hji; exact hy.wpOp hi hS ⟨hS, H⟩
    · have := hdone _ _ _ H j (ready_mono hj hji)
      omega
  | succ f ih =>
    intro listed a w inv hfree hr hy hS H
    have hun := (mem_ready.1 hr).1
    refine ⟨fun h => (by rw [h] at hr; cases hr), fun j hj => ?_⟩
    have hjn : j < n := by
      rcases Nat.lt_or_ge j n with h | h
      · exact h
      · exact absurd hj (tail_waits hs hc hn inv _ i rfl hin hun j h)
    refine ⟨hjn, ?_⟩
    by_cases hji : j = i
    · subst hji; exact hy.wpOp hi hS ⟨hS, H⟩
    · have h1 := (H.2 j (ready_mono hj hji)).2
      obtain ⟨hjun, oj, hoj, hall⟩ := mem_ready.1 hj
      have hnot : ∀ e ∈ oj.after, Region.binds md e = true → e.on ≠ i := fun e he hb heq => by
        have h1 := hall e he hb
        rw [heq, getD_both hun] at h1
        cases h1
      have h2 := wpOp_putIf hoj (hfree j oj hoj hji hjun hnot) (fun cs b => hsel i oi cs b hi) (fun cs b => hsel j oj cs b hoj) hQ hy h1
      have hfree' : ∀ k ok, ops[k]? = some ok → k ≠ i → (listed.setIfInBounds j true).getD k true = false →
          (∀ e ∈ ok.after, Region.binds md e = true → e.on ≠ i) → oi.apart ops ok = true := fun k ok hk hki hun hno => by
        refine hfree k ok hk hki ?_ hno
        by_cases hjk : j = k
        · subst hjk; exact hjun
        · rw [getD_set_ne true hjk] at hun; exact hun
      refine wpOp_mono (fun a' w' h3 => ⟨h3.2.1, ih (listed.setIfInBounds j true) a' w' (inv.set hj hjn) hfree' (ready_mono hr (Ne.symm hji)) h3.1 h3.2.1 ?_⟩) h2
      rw [Array.setIfInBounds_comm _ _ hji]
      exact h3.2.2
/-- The walk's goal: with what is known of the list of those that have come up. -/
def wpM (P : Program) (ops : Array Oper) (Q : Exit → Act → World → Prop) (S : World → Prop) (n : Nat) (T : List Oper) (f : Nat) (listed : Array Bool) (a : Act) (w : World) : Prop :=
  HeadInv .any ops n listed → wpAnyM P .any ops Q S n (fun listed' a' w' => Region.seqB .any ops T.length n listed' = true ∧ wpList P ops Q T a' w') f listed a w
theorem wpM_take {n f i : Nat} {T : List Oper} {oi : Oper} {v : Value} {listed : Array Bool} {a : Act} {w : World} (hi : ops[i]? = some oi)
    (hB : (Region.noSelect ops && Region.sinkB .any ops n && Region.chainB .any ops n && decide (n < ops.size) && decide (i < n)) = true)
    (hf : Region.free .any ops listed i = true) (hr : (Region.ready .any ops listed).contains i = true)
    (hQ : ∀ c a w, Q (.panic c) (a.put oi.dst v) w → Q (.panic c) a w) (hy : YieldsIf P ops S oi v a) (hS : S w)
    (h : wpM P ops Q S n T f (listed.setIfInBounds i true) (a.put oi.dst v) w) : wpM P ops Q S n T (f + 1) listed a w := by
  intro inv
  simp only [Bool.and_eq_true, decide_eq_true_eq] at hB
  obtain ⟨⟨⟨⟨h1, h2⟩, h3⟩, h4⟩, h5⟩ := hB
  have hr' : i ∈ Region.ready .any ops listed := by simpa using hr
  exact wpAnyM_first hi (Region.noSelect_spec h1) h2 h3 h4 h5 (fun _ _ _ hL => seqB_ready hL.1) hQ f listed a w inv (Region.free_spec hi hf) hr' hy hS (h (inv.set hr' h5))
theorem wpM_only {n f i : Nat} {T : List Oper} {listed : Array Bool} {a : Act} {w : World} (hr : Region.ready .any ops listed = [i]) (hin : i < n)
    (h : wpOp P ops Q i (fun a' w' => S w' ∧ wpM P ops Q S n T f (listed.setIfInBounds i true) a' w') a w) : wpM P ops Q S n T (f + 1) listed a w := by
  intro inv
  refine ⟨fun h0 => (by rw [hr] at h0; cases h0), fun j hj => ?_⟩
  have hj0 := hj
  rw [hr] at hj
  obtain rfl : j = i := by simpa using hj
  exact ⟨hin, wpOp_mono (fun a' w' h' => ⟨h'.1, h'.2 (inv.set hj0 hin)⟩) h⟩
theorem wpM_step {n f i : Nat} {T : List Oper} {o : Oper} {listed : Array Bool} {a : Act} {w : World} (ho : ops[i]? = some o) (hr : Region.ready .any ops listed = [i]) (hin : i < n)
    (h : ∀ K' : Act → World → Prop, Shut (∀ a w, S w → wpM P ops Q S n T f (listed.setIfInBounds i true) a w → K' a w) → if Region.wanted o (yielded ops a.tmps) = true then Oper.wp P o a w K' Q else K' (a.put o.dst undef) w) : wpM P ops Q S n T (f + 1) listed a w :=
  wpM_only hr hin (wpOp_step ho fun K' hK => h K' (fun a w hS hW => hK a w ⟨hS, hW⟩))
theorem wpM_done {n : Nat} {T : List Oper} {listed : Array Bool} {a : Act} {w : World} (hs : Region.seqB .any ops T.length n listed = true) (h : wpList P ops Q T a w) : wpM P ops Q S n T 0 listed a w := fun _ => ⟨hs, h⟩
theorem wp_region_mix {id : Nat} {a : Act} {w : World} {l : List Oper} (n : Nat) (S : World → Prop) (hm : P.follows .mixedOrders = true) (hn : n ≤ l.length)
    (h : wpM P l.toArray Q S n (l.drop n) n (Array.replicate l.toArray.size false) a w.drew) : (Code.region id l.toArray true).wp P Q a w := by
  have inv0 : HeadInv .any l.toArray n (Array.replicate l.toArray.size false) :=
    ⟨by simp, fun j oj _ hl => (by rw [getD_replicate_false] at hl; cases hl), fun t _ ht => getD_in (by simpa using ht) (getD_replicate_false _ _)⟩
  refine wp_region_any hm ?_
  have := wpAny_of_mix (Q := Q) (g := (l.drop n).length) (fun listed a' w' hL => wpAny_of_seq (md := .any) (Q' := Q) (l.drop n) n listed a' w' (fun j => by simp [List.getElem?_drop]) hL.1 hL.2) _ _ _ _ (h inv0)
  have e : n + (l.drop n).length = l.toArray.size := by simp; omega
  rw [e] at this
  exact this
end
end

section
section
variable {P : Program} {ops : Array Oper} {md : Region.Mode} {S : World → Prop} {Q : Exit → Act → World → Prop}
theorem ready_lt {listed : Array Bool} {j : Nat} (h : j ∈ Region.ready md ops listed) : j < ops.size := by
  obtain ⟨_, o, ho, _⟩ := mem_ready.1 h
  exact (Array.getElem?_eq_some_iff.1 ho).1
theorem wpAnyE_first {i : Nat} {oi : Oper} {v : Value} {L : Array Bool → Act → World → Prop} (hi : ops[i]? = some oi) (hsel : ∀ (j : Nat) (o : Oper) cs b, ops[j]? = some o → o.op ≠ .select cs b)
    (hdone : ∀ listed a w, L listed a w → Region.ready md ops listed = []) (hQ : ∀ c a w, Q (.panic c) (a.put oi.dst v) w → Q (.panic c) a w) :
    ∀ (f : Nat) (listed : Array Bool) (a : Act) (w : World),
      (∀ j oj, ops[j]? = some oj → j ≠ i → listed.getD j true = false → (∀ e ∈ oj.after, Region.binds md e = true → e.on ≠ i) → oi.apart ops oj = true) →
      i ∈ Region.ready md ops listed → YieldsIf P ops S oi v a → S w →
      wpAnyM P md ops Q S ops.size L f (listed.setIfInBounds i true) (a.put oi.dst v) w → wpAnyM P md ops Q S ops.size L (f + 1) listed a w := by
  intro f
  induction f with
  | zero =>
    intro listed a w _ hr hy hS H
    refine ⟨fun h => (by rw [h] at hr; cases hr), fun j hj => ⟨ready_lt hj, ?_⟩⟩
    by_cases hji : j = i
    · subst hji; exact hy.wpOp hi hS ⟨hS, H⟩
    · have h1 := ready_mono (i := i) hj hji
      rw [hdone _ _ _ H] at h1
      cases h1
  | succ f ih =>
    intro listed a w hfree hr hy hS H
    have hun := (mem_ready.1 hr).1
    refine ⟨fun h => (by rw [h] at hr; cases hr), fun j hj => ⟨ready_lt hj, ?_⟩⟩
    by_cases hji : j = i
    · subst hji; exact hy.wpOp hi hS ⟨hS, H⟩
    · have h1 := (H.2 j (ready_mono hj hji)).2
      obtain ⟨hjun, oj, hoj, hall⟩ := mem_ready.1 hj
      have hnot : ∀ e ∈ oj.after, Region.binds md e = true → e.on ≠ i := fun e he hb heq => by
        have h1 := hall e he hb
        rw [heq, getD_both hun] at h1
        cases h1
      have h2 := wpOp_putIf hoj (hfree j oj hoj hji hjun hnot) (fun cs b => hsel i oi cs b hi) (fun cs b => hsel j oj cs b hoj) hQ hy h1
      have hfree' : ∀ k ok, ops[k]? = some ok → k ≠ i → (listed.setIfInBounds j true).getD k true = false →
          (∀ e ∈ ok.after, Region.binds md e = true → e.on ≠ i) → oi.apart ops ok = true := fun k ok hk hki hun hno => by
        refine hfree k ok hk hki ?_ hno
        by_cases hjk : j = k
        · subst hjk; exact hjun
        · rw [getD_set_ne true hjk] at hun; exact hun
      refine wpOp_mono (fun a' w' h3 => ⟨h3.2.1, ih (listed.setIfInBounds j true) a' w' hfree' (ready_mono hr (Ne.symm hji)) h3.1 h3.2.1 ?_⟩) h2
      rw [Array.setIfInBounds_comm _ _ hji]
      exact h3.2.2
/-- The walk's goal, where the whole region is taken. -/
def wpE (P : Program) (ops : Array Oper) (Q : Exit → Act → World → Prop) (S : World → Prop) (f : Nat) (listed : Array Bool) (a : Act) (w : World) : Prop :=
  wpAnyM P .any ops Q S ops.size (fun listed' a' w' => Region.ready .any ops listed' = [] ∧ Q .normal a' w') f listed a w
theorem wpE_take {f i : Nat} {oi : Oper} {v : Value} {listed : Array Bool} {a : Act} {w : World} (hi : ops[i]? = some oi) (hB : Region.noSelect ops = true)
    (hf : Region.free .any ops listed i = true) (hr : (Region.ready .any ops listed).contains i = true)
    (hQ : ∀ c a w, Q (.panic c) (a.put oi.dst v) w → Q (.panic c) a w) (hy : YieldsIf P ops S oi v a) (hS : S w)
    (h : wpE P ops Q S f (listed.setIfInBounds i true) (a.put oi.dst v) w) : wpE P ops Q S (f + 1) listed a w :=
  wpAnyE_first hi (Region.noSelect_spec hB) (fun _ _ _ hL => hL.1) hQ f listed a w (Region.free_spec hi hf) (by simpa using hr) hy hS h
theorem wpE_step {f i : Nat} {o : Oper} {listed : Array Bool} {a : Act} {w : World} (ho : ops[i]? = some o) (hr : Region.ready .any ops listed = [i])
    (h : ∀ K' : Act → World → Prop, Shut (∀ a w, S w → wpE P ops Q S f (listed.setIfInBounds i true) a w → K' a w) → if Region.wanted o (yielded ops a.tmps) = true then Oper.wp P o a w K' Q else K' (a.put o.dst undef) w) : wpE P ops Q S (f + 1) listed a w := by
  refine ⟨fun h0 => (by rw [hr] at h0; cases h0), fun j hj => ⟨ready_lt hj, ?_⟩⟩
  rw [hr] at hj
  obtain rfl : j = i := by simpa using hj
  exact wpOp_step ho fun K' hK => h K' (fun a w hS hW => hK a w ⟨hS, hW⟩)
theorem wpE_done {listed : Array Bool} {a : Act} {w : World} (hr : Region.ready .any ops listed = []) (h : Q .normal a w) : wpE P ops Q S 0 listed a w := ⟨hr, h⟩
theorem wp_region_mixE {id : Nat} {a : Act} {w : World} {l : List Oper} (S : World → Prop) (hm : P.follows .mixedOrders = true)
    (h : wpE P l.toArray Q S l.length (Array.replicate l.toArray.size false) a w.drew) : (Code.region id l.toArray true).wp P Q a w := by
  refine wp_region_any hm ?_
  have := wpAny_of_mix (Q := Q) (g := 0) (fun listed a' w' hL => hL) _ _ _ _ h
  rw [Nat.add_zero, show l.length = l.toArray.size by simp] at this
  exact this
end
end

section
/-- A slice that reads as a list of cells, some to an element. -/
def At (w : World) (A : Option Addr) (n size : Nat) (xs : List Value) : Prop :=
  xs.length = n * size ∧ (0 < n → ∃ b off, A = some ⟨b, off, none⟩ ∧ b < w.heap.size ∧ ∀ j u, xs[j]? = some u → w.cell? ⟨b, off + j, none⟩ = some u)
section
variable {w w' : World} {A : Option Addr} {n size : Nat} {xs : List Value}
theorem At.keep (h : At w A n size xs) (hs : w.heap.size ≤ w'.heap.size) (hk : ∀ b o v, b < w.heap.size → w.cell? ⟨b, o, none⟩ = some v → w'.cell? ⟨b, o, none⟩ = some v) : At w' A n size xs :=
  ⟨h.1, fun hn => by
    obtain ⟨b, off, e, hb, hc⟩ := h.2 hn
    exact ⟨b, off, e, by omega, fun j u hu => hk _ _ _ hb (hc j u hu)⟩⟩
theorem At.below (h : At w A n size xs) (hb : Below w.heap.size w w') : At w' A n size xs := h.keep hb.size fun b o v hl hc => (hb.cell (p := ⟨b, o, none⟩) hl).trans hc
theorem At.alloc (h : At w A n size xs) (o : Obj) : At (w.alloc o) A n size xs := h.below ((Below.refl _ w).alloc (Nat.le_refl _) o)
theorem At.drew (h : At w A n size xs) : At w.drew A n size xs := h
theorem At.drewN (h : At w A n size xs) (k : Nat) : At (w.drewN k) A n size xs := h
theorem At.of_own {base : Nat} {e : TypeId} {v : Value} (h : w.ownsRow base e size v n xs) : ∃ A c, v = .slice A n c ∧ At w A n size xs ∧ n ≤ c ∧ c ≤ maxLen := by
  have h0 := h
  rcases h.2 with ⟨rfl, hl⟩ | ⟨g, cap, cur, rfl, hg, hh, hnc, hcap, hsz, htake⟩
  · subst hl
    exact ⟨none, 0, rfl, ⟨h.1, fun hn => by omega⟩, Nat.le_refl _, by unfold maxLen; omega⟩
  · refine ⟨_, _, rfl, ⟨h.1, fun hn => ⟨g, 0, rfl, (h0.lt g rfl).2, fun i u hi => ?_⟩⟩, hnc, hcap⟩
    have hl : i < n * size := by rw [← h.1]; exact (List.getElem?_eq_some_iff.1 hi).1
    rw [Nat.zero_add, World.ownsRow.cellAt h0 i hl, hi]
theorem At.src {P : Program} {t e : TypeId} {c : Nat} (ht : P.underlying t = some (.slice e)) (h : At w A n size xs) (h1 : ∀ u ∈ xs, u.oneCell' = true) (hA : 0 < size) : Src P size t (.slice A n c) n xs w := by
  rcases A with _ | a
  · rcases Nat.eq_zero_or_pos n with h0 | h0
    · subst h0
      obtain rfl : xs = [] := List.eq_nil_of_length_eq_zero (by simpa using h.1)
      exact Src.ofNil _ ht _
    · obtain ⟨b, off, e, _⟩ := h.2 h0
      cases e
  · refine Src.ofSlice _ ht _ _ _ _ h.1 (fun j u hu => ?_) h1
    have hj : j < n * size := by rw [← h.1]; exact (List.getElem?_eq_some_iff.1 hu).1
    obtain ⟨b, off, e, _, hc⟩ := h.2 (by rcases Nat.eq_zero_or_pos n with h0 | h0; (· rw [h0] at hj; omega); exact h0)
    injection e with e
    subst e
    rw [add_plain]
    exact hc j u hu
end
/-- Ints as cells. -/
def ic (k : IntKind) (R : List Int) : List Value := R.map (.int k)
theorem ic_len (k : IntKind) (R : List Int) : (ic k R).length = R.length := by simp [ic]
theorem ic_get (k : IntKind) (R : List Int) (j : Nat) (h : j < R.length) : (ic k R)[j]? = some (.int k (R.getD j 0)) := by simp [ic, List.getElem?_eq_getElem h]
theorem At.int {w : World} {A : Option Addr} {n : Nat} {k : IntKind} {R : List Int} (h : At w A n 1 (ic k R)) : R.length = n := by simpa [ic_len] using h.1
/-- Lists whose elements have a fixed number of cells. -/
theorem flat_len {α : Type} (f : α → List Value) (m : Nat) (hf : ∀ a, (f a).length = m) (L : List α) : (L.flatMap f).length = L.length * m := by
  induction L with
  | nil => simp
  | cons a L ih => rw [List.flatMap_cons, List.length_append, ih, hf, List.length_cons, Nat.add_mul]; omega
theorem flat_get {α : Type} (f : α → List Value) (m : Nat) (hf : ∀ a, (f a).length = m) (L : List α) (i j : Nat) (hi : i < L.length) (hj : j < m) : (L.flatMap f)[i * m + j]? = (f L[i])[j]? := by
  induction L generalizing i with
  | nil => simp at hi
  | cons a L ih =>
    rw [List.flatMap_cons]
    cases i with
    | zero => rw [List.getElem?_append_left (by rw [hf]; omega)]; simp
    | succ i =>
      rw [List.getElem?_append_right (by rw [hf, Nat.add_mul]; omega), hf, show (i + 1) * m + j - m = i * m + j by rw [Nat.add_mul]; omega]
      exact ih i (by simpa using hi)
theorem open_intsK {H : Type} {enc : TypeId × Value → H} {P : Program} {T I : TypeId} {k : IntKind} (hT : P.underlying T = some (.slice I)) (hI : P.underlying I = some (.int k)) (hC : P.cellsOf I = 1) {W : World} {r : Reach} {b0 : Nat} {v : Value} {d : DataW H} {p : List MemPlace}
    (hv : Value.okWide P W r b0 T v) (h : DataW.Trod enc P W 0 (fun _ => true) true T v d p) (hlt : ∀ x ∈ p, x.block < W.heap.size) :
    ∃ (A : Option Addr) (n c : Nat) (R : List Int), v = .slice A n c ∧ At W A n 1 (ic k R) ∧ R.length = n ∧ n ≤ c ∧ c ≤ 9223372036854775807 ∧ ∀ z ∈ R, (Lit.int k z).wf = true := by
  obtain ⟨a0, len, cap, rfl⟩ := okWide_slice hT hv
  obtain ⟨fuel, hf⟩ := h
  rcases open_ints hT hI hC hf with ⟨hcs, hx⟩ | ⟨a, len', cap', zs, hcs, _, hl, hm, hz, hx, hcell, hwz⟩
  · simp [Value.cells] at hcs
    obtain ⟨rfl, rfl, rfl⟩ := hcs
    exact ⟨_, _, _, [], rfl, ⟨rfl, fun h => absurd h (by omega)⟩, rfl, by omega, by omega, fun x hx => by cases hx⟩
  · simp [Value.cells] at hcs
    obtain ⟨rfl, rfl, rfl⟩ := hcs
    simp only [if_true] at hz
    simp only [Prod.mk.injEq] at hx
    obtain ⟨rfl, rfl⟩ := hx
    unfold maxLen at hm
    refine ⟨_, _, _, zs.take len, rfl, ⟨by rw [ic_len, List.length_take]; omega, fun hn => ?_⟩, by rw [List.length_take]; omega, hl, by omega, fun z hz2 => hwz z (List.mem_of_mem_take hz2)⟩
    obtain ⟨b, off, spot⟩ := a
    have hspot : spot = none := by simpa [Addr.add] using World.cell?_spot (hcell 0 (by omega))
    subst hspot
    refine ⟨b, off, rfl, hlt (.cell b off) (MemPlace.mem_row.2 ⟨0, by omega, by simp⟩), fun i u hi => ?_⟩
    have hi2 : i < (zs.take len).length := by have := (List.getElem?_eq_some_iff.1 hi).1; rwa [ic_len] at this
    have hi3 : i < zs.length := by rw [List.length_take] at hi2; omega
    rw [ic_get k _ i hi2] at hi
    injection hi with hi
    subst hi
    have := hcell i hi3
    rw [add_plain] at this
    rw [this]
    rw [List.length_take] at hi2
    simp [List.getD, List.getElem?_take, show i < len by omega, List.getElem?_eq_getElem hi3]
theorem own_mono {w : World} {B B' : Nat} {e : TypeId} {size n : Nat} {v : Value} {xs : List Value} (h : w.ownsRow B e size v n xs) (hB : B' ≤ B) : w.ownsRow B' e size v n xs := by
  refine ⟨h.1, ?_⟩
  rcases h.2 with h2 | ⟨g, cap, cur, hv, hg, r⟩
  · exact .inl h2
  · exact .inr ⟨g, cap, cur, hv, by omega, r⟩

/-- A whole struct into the block that was made last. -/
theorem wpList_store_new {P : Program} {ops : Array Oper} {rest : List Oper} {op : Oper} {a : Act} {Q : Exit → Act → World → Prop} (hgd : op.guard = none) (ty : TypeId) (x y : Operand) (ho : op.op = .store ty x y)
    (w : World) (old cells : Array Value) (hx : a.eval x = .pointer (some ⟨w.heap.size, 0, none⟩)) (hy : a.eval y = .agg cells) (hi : (P.info? ty).map (·.size) = some cells.size) (hold : old.size = cells.size) (h1 : cells.all (·.oneCell') = true)
    (h : wpList P ops Q rest (a.put op.dst undef) (w.alloc (.cells cells ty))) : wpList P ops Q (op :: rest) a (w.alloc (.cells old ty)) :=
  wpList_plain hgd fun _ hK => wp_store_row ty x y ho w.heap.size cells hx hy ty old (heap_alloc_new w _) hi hold h1 (by rw [World.setRow_alloc_new]; exact hK _ _ h)
end

section
section
variable {P : Program} {ops : Array Oper} {Q : Exit → Act → World → Prop} {S : World → Prop}
def puts (dst : Nat → Nat) (l : List Nat) (vs : Nat → Value) (a : Act) : Act := l.foldl (fun a j => a.put (some (dst j)) (vs j)) a
theorem put_twice (a : Act) (d : Nat) (v u : Value) : (a.put (some d) v).put (some d) u = a.put (some d) u := by
  simp [Act.put]
theorem puts_put {dst : Nat → Nat} : ∀ (l : List Nat) (vs : Nat → Value) (a : Act) (d : Nat) (v : Value), d ∉ l.map dst → (puts dst l vs a).put (some d) v = puts dst l vs (a.put (some d) v)
  | [], _, _, _, _, _ => rfl
  | k :: l, vs, a, d, v, h => by
    have h1 : d ≠ dst k := fun e => h (by simp [e])
    have h2 : d ∉ l.map dst := fun e => h (List.mem_cons_of_mem _ e)
    show (puts dst l vs (a.put (some (dst k)) (vs k))).put (some d) v = puts dst l vs ((a.put (some d) v).put (some (dst k)) (vs k))
    rw [puts_put l vs _ d v h2, Act.put_comm a (vs k) v (fun d' e e' => by cases e; cases e'; exact h1 rfl)]
theorem puts_congr {dst : Nat → Nat} : ∀ (l : List Nat) (vs vs' : Nat → Value) (a : Act), (∀ j ∈ l, vs j = vs' j) → puts dst l vs a = puts dst l vs' a
  | [], _, _, _, _ => rfl
  | k :: l, vs, vs', a, h => by
    show puts dst l vs (a.put (some (dst k)) (vs k)) = puts dst l vs' (a.put (some (dst k)) (vs' k))
    rw [h k (List.mem_cons_self ..)]
    exact puts_congr l vs vs' _ fun j hj => h j (List.mem_cons_of_mem _ hj)
theorem puts_upd {dst : Nat → Nat} {i : Nat} {v : Value} : ∀ (l : List Nat) (vs : Nat → Value) (a : Act), (l.map dst).Nodup → i ∈ l →
    (puts dst l vs a).put (some (dst i)) v = puts dst l (fun j => if j = i then v else vs j) a
  | k :: l, vs, a, hn, hi => by
    rw [List.map_cons, List.nodup_cons] at hn
    by_cases hk : k = i
    · subst hk
      have hni : k ∉ l := fun e => hn.1 (List.mem_map.2 ⟨k, e, rfl⟩)
      show (puts dst l vs (a.put (some (dst k)) (vs k))).put (some (dst k)) v = puts dst l _ (a.put (some (dst k)) (if k = k then v else vs k))
      rw [puts_put l vs _ _ v hn.1, put_twice, if_pos rfl]
      exact puts_congr l _ _ _ fun j hj => (if_neg (fun e : j = k => hni (by rw [← e]; exact hj))).symm
    · have hil : i ∈ l := (List.mem_cons.1 hi).resolve_left (Ne.symm hk)
      show (puts dst l vs (a.put (some (dst k)) (vs k))).put (some (dst i)) v = puts dst l _ (a.put (some (dst k)) (if k = i then v else vs k))
      rw [if_neg hk]
      exact puts_upd l vs _ hn.2 hil
theorem put_self (a : Act) (d : Nat) : a.put (some d) (a.tmps.getD d undef) = a := by
  obtain ⟨t, f⟩ := a
  simp only [Act.put, Act.mk.injEq, and_true]
  apply Array.ext
  · simp
  · intro i h1 h2
    rw [Array.getElem_setIfInBounds]
    split
    · rename_i h; subst h; simp [h2]
    · rfl
theorem puts_self {dst : Nat → Nat} (a : Act) : ∀ (l : List Nat), puts dst l (fun j => a.tmps.getD (dst j) undef) a = a
  | [] => rfl
  | k :: l => by
    show puts dst l _ (a.put (some (dst k)) (a.tmps.getD (dst k) undef)) = a
    rw [put_self]
    exact puts_self a l
def depB (ops : Array Oper) (i j : Nat) : Bool := match ops[i]? with | some o => o.after.any fun e => Region.binds .any e && e.on == j | none => false
def backB (ops : Array Oper) (n : Nat) : Bool := (List.range n).all fun i => match ops[i]? with | some o => o.after.all fun e => !Region.binds .any e || decide (e.on < i) | none => false
theorem least_of : ∀ (l : List Nat), l ≠ [] → ∃ i ∈ l, ∀ j ∈ l, i ≤ j
  | [], h => absurd rfl h
  | [a], _ => ⟨a, List.mem_cons_self .., fun j hj => by simp at hj; omega⟩
  | a :: b :: l, _ => by
    obtain ⟨i, hi, hm⟩ := least_of (b :: l) (by simp)
    by_cases h : a ≤ i
    · exact ⟨a, List.mem_cons_self .., fun j hj => (List.mem_cons.1 hj).elim (fun e => by omega) (fun hj => Nat.le_trans h (hm j hj))⟩
    · exact ⟨i, List.mem_cons_of_mem _ hi, fun j hj => (List.mem_cons.1 hj).elim (fun e => by omega) (fun hj => hm j hj)⟩
theorem wpAnyM_chains {n : Nat} {L : Array Bool → Act → World → Prop} {dst : Nat → Nat} {todo0 : List Nat} {a0 : Act} (Spec : Nat → Value → World → Prop) (hnd : (todo0.map dst).Nodup)
    (hs : Region.sinkB .any ops n = true) (hc : Region.chainB .any ops n = true) (hn : n < ops.size) (hb : backB ops n = true)
    (hmono : ∀ i v w w', Spec i v w → Below w.heap.size w w' → Spec i v w') 
    (hstep : ∀ i ∈ todo0, ∃ o, ops[i]? = some o ∧ o.dst = some (dst i) ∧ ∀ (vs : Nat → Value) (w : World) (K : Act → World → Prop), S w → (∀ j ∈ todo0, depB ops i j = true → Spec j (vs j) w) →
      (∀ v w', S w' → Below w.heap.size w w' → Spec i v w' → K ((puts dst todo0 vs a0).put (some (dst i)) v) w') →
      if Region.wanted o (yielded ops (puts dst todo0 vs a0).tmps) = true then Oper.wp P o (puts dst todo0 vs a0) w K Q else K ((puts dst todo0 vs a0).put (some (dst i)) undef) w)
    (hend : ∀ listed vs w, HeadInv .any ops n listed → (∀ j, j < n → listed.getD j false = true) → S w → (∀ j ∈ todo0, Spec j (vs j) w) → L listed (puts dst todo0 vs a0) w) :
    ∀ (f : Nat) (todo : List Nat) (listed : Array Bool) (vs : Nat → Value) (w : World), todo.length = f → (∀ j ∈ todo, j ∈ todo0) → todo.Nodup → (∀ j ∈ todo, j < n) → HeadInv .any ops n listed →
      (∀ j ∈ todo, listed.getD j true = false) → (∀ j, j < n → j ∉ todo → listed.getD j false = true) → S w → (∀ j ∈ todo0, j ∉ todo → Spec j (vs j) w) →
      wpAnyM P .any ops Q S n L f listed (puts dst todo0 vs a0) w := by
  intro f
  induction f with
  | zero =>
    intro todo listed vs w hf hsub _ _ inv _ hdone hS hsp
    obtain rfl : todo = [] := List.length_eq_zero_iff.1 hf
    exact hend listed vs w inv (fun j hj => hdone j hj (by simp)) hS (fun j hj => hsp j hj (by simp))
  | succ f ih =>
    intro todo listed vs w hf hsub hnodup hlt inv hun hdone hS hsp
    have hne : todo ≠ [] := fun e => by subst e; simp at hf
    obtain ⟨i0, hi0, hmin⟩ := least_of todo hne
    have hops : ∀ j, j < n → ∃ o, ops[j]? = some o := fun j hj => ⟨_, Array.getElem?_eq_getElem (by omega)⟩
    have hready : i0 ∈ Region.ready .any ops listed := by
      obtain ⟨o, ho⟩ := hops i0 (hlt i0 hi0)
      refine mem_ready.2 ⟨hun i0 hi0, o, ho, fun e he hbd => ?_⟩
      have h1 := List.all_eq_true.1 hb i0 (List.mem_range.2 (hlt i0 hi0))
      rw [ho] at h1
      have h2 := Array.all_eq_true'.1 h1 e he
      rw [hbd] at h2
      have h3 : e.on < i0 := by simpa using h2
      refine hdone _ (Nat.lt_trans h3 (hlt i0 hi0)) fun hm => ?_
      have := hmin _ hm
      omega
    refine ⟨fun h0 => (by rw [h0] at hready; cases hready), fun i hi => ?_⟩
    have hin : i < n := by
      rcases Nat.lt_or_ge i n with h | h
      · exact h
      · exact absurd hi (tail_waits hs hc hn inv _ i0 rfl (hlt i0 hi0) (hun i0 hi0) i h)
    obtain ⟨hiun, oi, hoi, hall⟩ := mem_ready.1 hi
    have hit : i ∈ todo := by
      refine Classical.byContradiction fun hni => ?_
      have h1 := hdone i hin hni
      rw [getD_both hiun] at h1
      cases h1
    refine ⟨hin, ?_⟩
    obtain ⟨o, ho, hdo, hst⟩ := hstep i (hsub i hit)
    obtain rfl : o = oi := Option.some.inj (ho.symm.trans hoi)
    have hdeps : ∀ j ∈ todo0, depB ops i j = true → Spec j (vs j) w := fun j hj hd => hsp j hj fun hjt => by
      unfold depB at hd
      rw [ho] at hd
      obtain ⟨e, he, h2⟩ := Array.any_eq_true'.1 hd
      simp only [Bool.and_eq_true, beq_iff_eq] at h2
      have h3 := hall e he h2.1
      rw [h2.2, getD_both (hun j hjt)] at h3
      cases h3
    refine wpOp_step ho fun K hK => ?_
    rw [hdo]
    refine hst vs w K hS hdeps fun v w' hS' hbw hsv => hK _ _ ⟨hS', ?_⟩
    rw [puts_upd todo0 vs a0 hnd (hsub i hit)]
    refine ih (todo.erase i) _ _ _ (by rw [List.length_erase_of_mem hit, hf]; rfl) (fun j hj => hsub j (List.mem_of_mem_erase hj)) (hnodup.erase i) (fun j hj => hlt j (List.mem_of_mem_erase hj)) (inv.set hi hin) (fun j hj => ?_) (fun j hj hnj => ?_) hS' (fun j hj hnj => ?_)
    · have hji : i ≠ j := fun e => by subst e; exact (hnodup.not_mem_erase) hj
      rw [getD_set_ne true hji]
      exact hun j (List.mem_of_mem_erase hj)
    · by_cases hji : j = i
      · subst hji
        have : j < listed.size := by rw [inv.size]; omega
        simp [this]
      · exact getD_set_true (hdone j hj fun hjt => hnj ((List.mem_erase_of_ne hji).2 hjt))
    · by_cases hji : j = i
      · subst hji; rw [if_pos rfl]; exact hsv
      · rw [if_neg hji]
        exact hmono _ _ _ _ (hsp j hj fun hjt => hnj ((List.mem_erase_of_ne hji).2 hjt)) hbw
theorem headinv_full {n : Nat} {listed : Array Bool} (hn : n ≤ ops.size) (inv : HeadInv .any ops n listed) (h : ∀ j, j < n → listed.getD j false = true) : listed = Array.replicate n true ++ Array.replicate (ops.size - n) false := by
  apply Array.ext
  · rw [inv.size]; simp; omega
  · intro i h1 h2
    have hi : i < ops.size := by rw [← inv.size]; exact h1
    rcases Nat.lt_or_ge i n with hin | hin
    · have h3 := h i hin
      simp [h1] at h3
      simp [Array.getElem_append, hin, h3]
    · have h3 := inv.tail i hin hi
      simp [h1] at h3
      simp [Array.getElem_append, Nat.not_lt.2 hin, h3]
theorem wpM_chains {n : Nat} {T : List Oper} {a : Act} {listed : Array Bool} {w : World} (dst : Nat → Nat) (todo : List Nat) (Spec : Nat → Value → World → Prop)
    (hB : (decide (todo.map dst).Nodup && decide todo.Nodup && Region.sinkB .any ops n && Region.chainB .any ops n && decide (n < ops.size) && backB ops n && todo.all (fun j => decide (j < n) && !listed.getD j true) && (List.range n).all (fun j => todo.contains j || listed.getD j false) && Region.seqB .any ops T.length n (Array.replicate n true ++ Array.replicate (ops.size - n) false)) = true)
    (hmono : ∀ i v w w', Spec i v w → Below w.heap.size w w' → Spec i v w') (hS : S w)
    (hstep : ∀ i ∈ todo, ∃ o, ops[i]? = some o ∧ o.dst = some (dst i) ∧ ∀ (vs : Nat → Value) (w : World) (K : Act → World → Prop), S w → (∀ j ∈ todo, depB ops i j = true → Spec j (vs j) w) →
      (∀ v w', S w' → Below w.heap.size w w' → Spec i v w' → K ((puts dst todo vs a).put (some (dst i)) v) w') →
      if Region.wanted o (yielded ops (puts dst todo vs a).tmps) = true then Oper.wp P o (puts dst todo vs a) w K Q else K ((puts dst todo vs a).put (some (dst i)) undef) w)
    (hend : ∀ vs w, S w → (∀ j ∈ todo, Spec j (vs j) w) → wpList P ops Q T (puts dst todo vs a) w) :
    wpM P ops Q S n T todo.length listed a w := by
  intro inv
  simp only [Bool.and_eq_true, decide_eq_true_eq, List.all_eq_true, Bool.not_eq_true', Bool.or_eq_true, List.contains_iff_mem, List.mem_range] at hB
  obtain ⟨⟨⟨⟨⟨⟨⟨⟨h1, h2⟩, h3⟩, h4⟩, h5⟩, h6⟩, h7⟩, h8⟩, h9⟩ := hB
  have := wpAnyM_chains (P := P) (Q := Q) (S := S) (L := fun listed' a' w' => Region.seqB .any ops T.length n listed' = true ∧ wpList P ops Q T a' w') Spec h1 h3 h4 h5 h6 hmono hstep
    (fun listed vs w inv' hall hS' hsp => ⟨by rw [headinv_full (by omega) inv' hall]; exact h9, hend vs w hS' hsp⟩)
    todo.length todo listed (fun j => a.tmps.getD (dst j) undef) w rfl (fun j hj => hj) h2 (fun j hj => (h7 j hj).1) inv (fun j hj => (h7 j hj).2) (fun j hj hnj => (h8 j hj).resolve_left hnj) hS (fun j hj hnj => absurd hj hnj)
  rw [puts_self] at this
  exact this
end
end

section
section
variable {P : Program} {ops : Array Oper} {Q : Exit → Act → World → Prop} {S : World → Prop}
def upd {α : Type} (f : Nat → α) (i : Nat) (v : α) : Nat → α := fun j => if j = i then v else f j
theorem upd_same {α : Type} (f : Nat → α) (i : Nat) (v : α) : upd f i v i = v := if_pos rfl
theorem upd_other {α : Type} (f : Nat → α) (i j : Nat) (v : α) (h : j ≠ i) : upd f i v j = f j := if_neg h
theorem wpAnyM_inv {n : Nat} {L : Array Bool → Act → World → Prop} {dst : Nat → Nat} {todo0 : List Nat} {a0 : Act} (Inv : (Nat → Bool) → (Nat → Value) → World → Prop) (hnd : (todo0.map dst).Nodup)
    (hs : Region.sinkB .any ops n = true) (hc : Region.chainB .any ops n = true) (hn : n < ops.size) (hb : backB ops n = true) (hIS : ∀ d vs w, Inv d vs w → S w)
    (hstep : ∀ i ∈ todo0, ∃ o, ops[i]? = some o ∧ o.dst = some (dst i) ∧ ∀ (d : Nat → Bool) (vs : Nat → Value) (w : World) (K : Act → World → Prop), Inv d vs w → d i = false → (∀ j ∈ todo0, depB ops i j = true → d j = true) →
      (∀ v w', Inv (upd d i true) (upd vs i v) w' → K ((puts dst todo0 vs a0).put (some (dst i)) v) w') →
      if Region.wanted o (yielded ops (puts dst todo0 vs a0).tmps) = true then Oper.wp P o (puts dst todo0 vs a0) w K Q else K ((puts dst todo0 vs a0).put (some (dst i)) undef) w)
    (hend : ∀ listed d vs w, HeadInv .any ops n listed → (∀ j, j < n → listed.getD j false = true) → (∀ j ∈ todo0, d j = true) → Inv d vs w → L listed (puts dst todo0 vs a0) w) :
    ∀ (f : Nat) (todo : List Nat) (listed : Array Bool) (d : Nat → Bool) (vs : Nat → Value) (w : World), todo.length = f → (∀ j ∈ todo, j ∈ todo0) → todo.Nodup → (∀ j ∈ todo, j < n) → HeadInv .any ops n listed →
      (∀ j ∈ todo, listed.getD j true = false) → (∀ j, j < n → j ∉ todo → listed.getD j false = true) → (∀ j ∈ todo, d j = false) → (∀ j ∈ todo0, j ∉ todo → d j = true) → Inv d vs w →
      wpAnyM P .any ops Q S n L f listed (puts dst todo0 vs a0) w := by
  intro f
  induction f with
  | zero =>
    intro todo listed d vs w hf hsub _ _ inv _ hdone _ hd1 hI
    obtain rfl : todo = [] := List.length_eq_zero_iff.1 hf
    exact hend listed d vs w inv (fun j hj => hdone j hj (by simp)) (fun j hj => hd1 j hj (by simp)) hI
  | succ f ih =>
    intro todo listed d vs w hf hsub hnodup hlt inv hun hdone hd0 hd1 hI
    have hne : todo ≠ [] := fun e => by subst e; simp at hf
    obtain ⟨i0, hi0, hmin⟩ := least_of todo hne
    have hops : ∀ j, j < n → ∃ o, ops[j]? = some o := fun j hj => ⟨_, Array.getElem?_eq_getElem (by omega)⟩
    have hready : i0 ∈ Region.ready .any ops listed := by
      obtain ⟨o, ho⟩ := hops i0 (hlt i0 hi0)
      refine mem_ready.2 ⟨hun i0 hi0, o, ho, fun e he hbd => ?_⟩
      have h1 := List.all_eq_true.1 hb i0 (List.mem_range.2 (hlt i0 hi0))
      rw [ho] at h1
      have h2 := Array.all_eq_true'.1 h1 e he
      rw [hbd] at h2
      have h3 : e.on < i0 := by simpa using h2
      refine hdone _ (Nat.lt_trans h3 (hlt i0 hi0)) fun hm => ?_
      have := hmin _ hm
      omega
    refine ⟨fun h0 => (by rw [h0] at hready; cases hready), fun i hi => ?_⟩
    have hin : i < n := by
      rcases Nat.lt_or_ge i n with h | h
      · exact h
      · exact absurd hi (tail_waits hs hc hn inv _ i0 rfl (hlt i0 hi0) (hun i0 hi0) i h)
    obtain ⟨hiun, oi, hoi, hall⟩ := mem_ready.1 hi
    have hit : i ∈ todo := by
      refine Classical.byContradiction fun hni => ?_
      have h1 := hdone i hin hni
      rw [getD_both hiun] at h1
      cases h1
    refine ⟨hin, ?_⟩
    obtain ⟨o, ho, hdo, hst⟩ := hstep i (hsub i hit)
    obtain rfl : o = oi := Option.some.inj (ho.symm.trans hoi)
    have hdeps : ∀ j ∈ todo0, depB ops i j = true → d j = true := fun j hj hd => hd1 j hj fun hjt => by
      unfold depB at hd
      rw [ho] at hd
      obtain ⟨e, he, h2⟩ := Array.any_eq_true'.1 hd
      simp only [Bool.and_eq_true, beq_iff_eq] at h2
      have h3 := hall e he h2.1
      rw [h2.2, getD_both (hun j hjt)] at h3
      cases h3
    refine wpOp_step ho fun K hK => ?_
    rw [hdo]
    refine hst d vs w K hI (hd0 i hit) hdeps fun v w' hI' => hK _ _ ⟨hIS _ _ _ hI', ?_⟩
    rw [puts_upd todo0 vs a0 hnd (hsub i hit)]
    refine ih (todo.erase i) _ (upd d i true) _ _ (by rw [List.length_erase_of_mem hit, hf]; rfl) (fun j hj => hsub j (List.mem_of_mem_erase hj)) (hnodup.erase i) (fun j hj => hlt j (List.mem_of_mem_erase hj)) (inv.set hi hin) (fun j hj => ?_) (fun j hj hnj => ?_) (fun j hj => ?_) (fun j hj hnj => ?_) hI'
    · have hji : i ≠ j := fun e => by subst e; exact (hnodup.not_mem_erase) hj
      rw [getD_set_ne true hji]
      exact hun j (List.mem_of_mem_erase hj)
    · by_cases hji : j = i
      · subst hji
        have : j < listed.size := by rw [inv.size]; omega
        simp [this]
      · exact getD_set_true (hdone j hj fun hjt => hnj ((List.mem_erase_of_ne hji).2 hjt))
    · have hji : j ≠ i := fun e => by subst e; exact (hnodup.not_mem_erase) hj
      rw [upd_other _ _ _ _ hji]
      exact hd0 j (List.mem_of_mem_erase hj)
    · by_cases hji : j = i
      · subst hji; exact upd_same _ _ _
      · rw [upd_other _ _ _ _ hji]
        exact hd1 j hj fun hjt => hnj ((List.mem_erase_of_ne hji).2 hjt)
theorem wpM_inv {n : Nat} {T : List Oper} {a : Act} {listed : Array Bool} {w : World} (dst : Nat → Nat) (todo : List Nat) (Inv : (Nat → Bool) → (Nat → Value) → World → Prop)
    (hB : (decide (todo.map dst).Nodup && decide todo.Nodup && Region.sinkB .any ops n && Region.chainB .any ops n && decide (n < ops.size) && backB ops n && todo.all (fun j => decide (j < n) && !listed.getD j true) && (List.range n).all (fun j => todo.contains j || listed.getD j false) && Region.seqB .any ops T.length n (Array.replicate n true ++ Array.replicate (ops.size - n) false)) = true)
    (hIS : ∀ d vs w, Inv d vs w → S w) (h0 : Inv (fun _ => false) (fun j => a.tmps.getD (dst j) undef) w)
    (hstep : ∀ i ∈ todo, ∃ o, ops[i]? = some o ∧ o.dst = some (dst i) ∧ ∀ (d : Nat → Bool) (vs : Nat → Value) (w : World) (K : Act → World → Prop), Inv d vs w → d i = false → (∀ j ∈ todo, depB ops i j = true → d j = true) →
      (∀ v w', Inv (upd d i true) (upd vs i v) w' → K ((puts dst todo vs a).put (some (dst i)) v) w') →
      if Region.wanted o (yielded ops (puts dst todo vs a).tmps) = true then Oper.wp P o (puts dst todo vs a) w K Q else K ((puts dst todo vs a).put (some (dst i)) undef) w)
    (hend : ∀ d vs w, (∀ j ∈ todo, d j = true) → Inv d vs w → wpList P ops Q T (puts dst todo vs a) w) :
    wpM P ops Q S n T todo.length listed a w := by
  intro inv
  simp only [Bool.and_eq_true, decide_eq_true_eq, List.all_eq_true, Bool.not_eq_true', Bool.or_eq_true, List.contains_iff_mem, List.mem_range] at hB
  obtain ⟨⟨⟨⟨⟨⟨⟨⟨h1, h2⟩, h3⟩, h4⟩, h5⟩, h6⟩, h7⟩, h8⟩, h9⟩ := hB
  have h10 : Inv (fun j => !(todo.contains j) && false) (fun j => a.tmps.getD (dst j) undef) w := by
    simpa using h0
  have := wpAnyM_inv (P := P) (Q := Q) (S := S) (L := fun listed' a' w' => Region.seqB .any ops T.length n listed' = true ∧ wpList P ops Q T a' w') (todo0 := todo) (a0 := a) (dst := dst) Inv h1 h3 h4 h5 h6 hIS hstep
    (fun listed d vs w inv' hall hd hI => ⟨by rw [headinv_full (by omega) inv' hall]; exact h9, hend d vs w hd hI⟩)
    todo.length todo listed (fun _ => false) (fun j => a.tmps.getD (dst j) undef) w rfl (fun j hj => hj) h2 (fun j hj => (h7 j hj).1) inv (fun j hj => (h7 j hj).2) (fun j hj hnj => (h8 j hj).resolve_left hnj) (fun _ _ => rfl) (fun j hj hnj => absurd hj hnj) h0
  rw [puts_self] at this
  exact this
end
end

section
theorem blk_same {w : World} {g : Nat} {cs : Array Value} {e : TypeId} (h : w.heap[g]? = some (.cells cs e (0, 0))) : w.setRow g cs = w := by
  have hh : (w.setRow g cs).heap = w.heap := by
    apply Array.ext_getElem?
    intro i
    by_cases hi : i = g
    · subst hi; rw [setRow_heap w i cs cs e _ h, h]
    · exact setRow_other w g i _ hi
  show ({ w with heap := (w.setRow g cs).heap } : World) = w
  rw [hh]
section
variable {P : Program} (w : World)
theorem run_append_fresh (t tx ty e : TypeId) (i : TypeInfo) (z : Value) (size bytes : Nat) (ht : P.underlying t = some (.slice e)) (hi : P.info? e = some i) (hz : i.zero = some z)
    (hsize : i.size = size) (hby : i.bytes = bytes) (hzs : z.cells.size = size) (g : Nat) (hg : w.heap[g]? = some (.cells #[] e (0, 0)))
    (x : Value) (m : Nat) (news : List Value) (hs : Src P size tx x m news w) (h63 : m ≤ maxLen) (hbytes : m * bytes ≤ 140737488355328) :
    ∃ A c w', (Builtin.append_ #[t, tx] ty #[.slice (some ⟨g, 0, none⟩) 0 0, x]).run P w = .ok (.slice A m c) w' ∧ At w' A m size news ∧ m ≤ c ∧ c ≤ maxLen ∧ Below w.heap.size w w' := by
  subst hsize
  subst hby
  have hl := hs.newsLen
  have h1 := hs.one
  by_cases hm : m = 0
  · subst hm
    have hn : news = [] := List.eq_nil_of_length_eq_zero (by simpa using hl)
    subst hn
    have hst := run_storeCells_at P g 0 e [] 0 #[] w hg (by simp) h1
    simp only [Nat.add_zero] at hst
    refine ⟨some ⟨g, 0, none⟩, 0, w, ?_, ⟨by simp, fun h => absurd h (by omega)⟩, Nat.le_refl _, by unfold maxLen; omega, Below.refl _ _⟩
    rcases hs.kind with ⟨e', hk⟩ | hk <;> simp [Builtin.append_, run_underlying ht, run_underlying hk, sizeOf, typeInfo, hi, hs.len, hs.cells, Addr.add_lit, hst, blk_same hg]
  · have hr := run_append_grow_src (P := P) w t tx ty e i z ht hi hz (some ⟨g, 0, none⟩) 0 0 [] (run_firstCells_some w.drew i.size 0 ⟨g, 0, none⟩ 0 0 [] (by simp) (fun j u h => by simp at h)) x m news hs (by omega) (by unfold maxLen at h63; omega) (growslice_fits (by omega) (by simpa using hbytes))
    simp only [Nat.zero_add, List.nil_append] at hr
    have hge := grownCap_ge w m 0 e
    have hcm : grownCap w m 0 e ≤ maxLen := grownCap_le_maxLen w m 0 e h63
    refine ⟨_, _, _, hr, ⟨hl, fun _ => ⟨w.heap.size, 0, rfl, by simp, fun j v hj => ?_⟩⟩, hge, hcm, ⟨rfl, rfl, rfl, by simp, fun k hk => Below.heap_alloc w.drew _ k hk⟩⟩
    have hjl : j < news.length := (List.getElem?_eq_some_iff.1 hj).1
    rw [show w.heap.size = w.drew.heap.size from rfl, World.cell?_alloc_at _ _ _ _ rfl, Nat.zero_add, Array.getElem?_append_left (by simpa using hjl)]
    simpa using hj
theorem wp_append_fresh {o : Oper} {a : Act} {K : Act → World → Prop} {Q : Exit → Act → World → Prop} (s x : Operand) (t tx : TypeId)
    (ho : o.op = .call { callee := .builtin .append, args := #[s, x], argTypes := #[t, tx] })
    (e : TypeId) (i : TypeInfo) (z : Value) (size bytes : Nat) (ht : P.underlying t = some (.slice e)) (hi : P.info? e = some i) (hz : i.zero = some z)
    (hsize : i.size = size) (hby : i.bytes = bytes) (hzs : z.cells.size = size) (g : Nat) (hv : a.eval s = .slice (some ⟨g, 0, none⟩) 0 0) (hg : w.heap[g]? = some (.cells #[] e (0, 0)))
    (y : Value) (m : Nat) (news : List Value) (hy : a.eval x = y) (hs : Src P size tx y m news w) (h63 : m ≤ maxLen) (hbytes : m * bytes ≤ 140737488355328)
    (h : ∀ A c w', At w' A m size news → m ≤ c → c ≤ maxLen → Below w.heap.size w w' → K (a.put o.dst (.slice A m c)) w') : o.wp P a w K Q := by
  obtain ⟨A, c, w', hrun, h2, h3, h4, h5⟩ := run_append_fresh (P := P) w t tx o.type e i z size bytes ht hi hz hsize hby hzs g hg y m news hs h63 hbytes
  unfold Oper.wp execOp
  simp only [ho, resolve, invoke, builtin, Sem.run_bind, Sem.run_pure, Result.andThen_ok, List.map_toArray, List.map_cons, List.map_nil, hv, hy, hrun]
  exact h A c w' h2 h3 h4 h5
theorem wpList_append_fresh {ops : Array Oper} {rest : List Oper} {o : Oper} {a : Act} {Q : Exit → Act → World → Prop} (hgd : o.guard = none) (s x : Operand) (t tx : TypeId)
    (ho : o.op = .call { callee := .builtin .append, args := #[s, x], argTypes := #[t, tx] })
    (e : TypeId) (i : TypeInfo) (z : Value) (size bytes : Nat) (ht : P.underlying t = some (.slice e)) (hi : P.info? e = some i) (hz : i.zero = some z)
    (hsize : i.size = size) (hby : i.bytes = bytes) (hzs : z.cells.size = size) (g : Nat) (hv : a.eval s = .slice (some ⟨g, 0, none⟩) 0 0) (hg : w.heap[g]? = some (.cells #[] e (0, 0)))
    (y : Value) (m : Nat) (news : List Value) (hy : a.eval x = y) (hs : Src P size tx y m news w) (h63 : m ≤ maxLen) (hbytes : m * bytes ≤ 140737488355328)
    (h : ∀ A c w', At w' A m size news → m ≤ c → c ≤ maxLen → Below w.heap.size w w' → wpList P ops Q rest (a.put o.dst (.slice A m c)) w') : wpList P ops Q (o :: rest) a w :=
  wpList_plain hgd fun _ hK => wp_append_fresh w s x t tx ho e i z size bytes ht hi hz hsize hby hzs g hv hg y m news hy hs h63 hbytes fun A c w' h2 h3 h4 h5 => hK _ _ (h A c w' h2 h3 h4 h5)
theorem ite_pos {c A B : Prop} [Decidable c] (hc : c) (h : A) : if c then A else B := by rw [if_pos hc]; exact h
end
end

section
section
variable {P : Program} (w : World)
theorem run_append_new (B : Nat) (t tx ty e : TypeId) (i : TypeInfo) (z : Value) (size bytes : Nat) (ht : P.underlying t = some (.slice e)) (hi : P.info? e = some i) (hz : i.zero = some z)
    (hsize : i.size = size) (hby : i.bytes = bytes) (hzs : z.cells.size = size) (g : Nat) (hB : B ≤ g) (hg : w.heap[g]? = some (.cells #[] e (0, 0)))
    (x : Value) (m : Nat) (news : List Value) (hs : Src P size tx x m news w) (h63 : m ≤ maxLen) (hbytes : m * bytes ≤ 140737488355328) :
    ∃ v' w', (Builtin.append_ #[t, tx] ty #[.slice (some ⟨g, 0, none⟩) 0 0, x]).run P w = .ok v' w' ∧ w'.ownsRow B e size v' m news ∧ Below w.heap.size w w' := by
  subst hsize
  subst hby
  have hl := hs.newsLen
  have h1 := hs.one
  have hgl : g < w.heap.size := (Array.getElem?_eq_some_iff.1 hg).1
  by_cases hm : m = 0
  · subst hm
    have hn : news = [] := List.eq_nil_of_length_eq_zero (by simpa using hl)
    subst hn
    have hst := run_storeCells_at P g 0 e [] 0 #[] w hg (by simp) h1
    simp only [Nat.add_zero] at hst
    refine ⟨.slice (some ⟨g, 0, none⟩) 0 0, w, ?_, ⟨by simp, .inr ⟨g, 0, #[], rfl, hB, hg, Nat.le_refl _, by unfold maxLen; omega, by simp, by simp⟩⟩, Below.refl _ _⟩
    rcases hs.kind with ⟨e', hk⟩ | hk <;> simp [Builtin.append_, run_underlying ht, run_underlying hk, sizeOf, typeInfo, hi, hs.len, hs.cells, Addr.add_lit, hst, blk_same hg]
  · have hr := run_append_grow_src (P := P) w t tx ty e i z ht hi hz (some ⟨g, 0, none⟩) 0 0 [] (run_firstCells_some w.drew i.size 0 ⟨g, 0, none⟩ 0 0 [] (by simp) (fun j u h => by simp at h)) x m news hs (by omega) (by unfold maxLen at h63; omega) (growslice_fits (by omega) (by simpa using hbytes))
    simp only [Nat.zero_add, List.nil_append] at hr
    have hge := grownCap_ge w m 0 e
    have hcm : grownCap w m 0 e ≤ maxLen := grownCap_le_maxLen w m 0 e h63
    refine ⟨_, _, hr, ⟨hl, .inr ⟨w.heap.size, _, _, rfl, by omega, heap_alloc_new w.drew _, hge, hcm, ?_, ?_⟩⟩, ⟨rfl, rfl, rfl, by simp, fun k hk => Below.heap_alloc w.drew _ k hk⟩⟩
    · simp only [Array.size_append, List.size_toArray, size_zeroCells, hzs, hl, ← Nat.add_mul]
      congr 1
      omega
    · simp only [Array.toList_append]
      rw [← hl]
      exact List.take_left
theorem wp_append_new {o : Oper} {a : Act} {K : Act → World → Prop} {Q : Exit → Act → World → Prop} (s x : Operand) (t tx : TypeId)
    (ho : o.op = .call { callee := .builtin .append, args := #[s, x], argTypes := #[t, tx] })
    (B : Nat) (e : TypeId) (i : TypeInfo) (z : Value) (size bytes : Nat) (ht : P.underlying t = some (.slice e)) (hi : P.info? e = some i) (hz : i.zero = some z)
    (hsize : i.size = size) (hby : i.bytes = bytes) (hzs : z.cells.size = size) (g : Nat) (hB : B ≤ g) (hv : a.eval s = .slice (some ⟨g, 0, none⟩) 0 0) (hg : w.heap[g]? = some (.cells #[] e (0, 0)))
    (y : Value) (m : Nat) (news : List Value) (hy : a.eval x = y) (hs : Src P size tx y m news w) (h63 : m ≤ maxLen) (hbytes : m * bytes ≤ 140737488355328)
    (h : ∀ v' w', w'.ownsRow B e size v' m news → Below w.heap.size w w' → K (a.put o.dst v') w') : o.wp P a w K Q := by
  obtain ⟨v', w', hrun, h2, h3⟩ := run_append_new (P := P) w B t tx o.type e i z size bytes ht hi hz hsize hby hzs g hB hg y m news hs h63 hbytes
  unfold Oper.wp execOp
  simp only [ho, resolve, invoke, builtin, Sem.run_bind, Sem.run_pure, Result.andThen_ok, List.map_toArray, List.map_cons, List.map_nil, hv, hy, hrun]
  exact h v' w' h2 h3
theorem step_append_new {ops : Array Oper} {o : Oper} {a : Act} {K : Act → World → Prop} {Q : Exit → Act → World → Prop} {E : Prop} (hgd : o.guard = none) (s x : Operand) (t tx : TypeId)
    (ho : o.op = .call { callee := .builtin .append, args := #[s, x], argTypes := #[t, tx] })
    (B : Nat) (e : TypeId) (i : TypeInfo) (z : Value) (size bytes : Nat) (ht : P.underlying t = some (.slice e)) (hi : P.info? e = some i) (hz : i.zero = some z)
    (hsize : i.size = size) (hby : i.bytes = bytes) (hzs : z.cells.size = size) (g : Nat) (hB : B ≤ g) (hv : a.eval s = .slice (some ⟨g, 0, none⟩) 0 0) (hg : w.heap[g]? = some (.cells #[] e (0, 0)))
    (y : Value) (m : Nat) (news : List Value) (hy : a.eval x = y) (hs : Src P size tx y m news w) (h63 : m ≤ maxLen) (hbytes : m * bytes ≤ 140737488355328)
    (h : ∀ v' w', w'.ownsRow B e size v' m news → Below w.heap.size w w' → K (a.put o.dst v') w') :
    if Region.wanted o (yielded ops a.tmps) = true then Oper.wp P o a w K Q else E := by
  have hw : Region.wanted o (yielded ops a.tmps) = true := by simp [Region.wanted, hgd]
  rw [if_pos hw]
  exact wp_append_new w s x t tx ho B e i z size bytes ht hi hz hsize hby hzs g hB hv hg y m news hy hs h63 hbytes h
end
section
variable {P : Program} {ops : Array Oper} {Q : Exit → Act → World → Prop} {S S' : World → Prop}
theorem wpAnyM_less {md : Region.Mode} {n : Nat} {L : Array Bool → Act → World → Prop} (hSS : ∀ w, S' w → S w) : ∀ (f : Nat) (listed : Array Bool) (a : Act) (w : World), wpAnyM P md ops Q S' n L f listed a w → wpAnyM P md ops Q S n L f listed a w
  | 0, _, _, _, h => h
  | f + 1, _, _, _, h => ⟨h.1, fun i hi => ⟨(h.2 i hi).1, wpOp_mono (fun a' w' h' => ⟨hSS _ h'.1, wpAnyM_less hSS f _ a' w' h'.2⟩) (h.2 i hi).2⟩⟩
theorem wpM_less {n f : Nat} {T : List Oper} {listed : Array Bool} {a : Act} {w : World} (S' : World → Prop) (hSS : ∀ w, S' w → S w) (h : wpM P ops Q S' n T f listed a w) : wpM P ops Q S n T f listed a w :=
  fun inv => wpAnyM_less hSS f listed a w (h inv)
end
end
end Go.Proofs.Ythfolccofjaknaa
