/- Appending to a row of bytes that the call itself made, from whatever source; its text. -/
import Derived.Test.YtbmofagaammgmaaLaw
import Derived.Lib.Hide
import Derived.Maps.AppendAt
import Derived.Deep.AppendSrc
import Derived.Laws.OwnMore
import Derived.OwnWalk
import Derived.Laws.IdiomStrings
import Derived.WalkSpells
namespace Go.Proofs.Ytbmofagaammgmaa
open Go.ChangeShapes Go.WideShapes Go.ChangeAt Go.RowKit

/-- The new row is the old one or new. -/
def Moved (w : World) (v v' : Value) : Prop := v'.ownBlock = v.ownBlock ∨ ∃ k, v'.ownBlock = some k ∧ w.heap.size ≤ k

section
variable {P : Program} (w : World)

theorem run_append_src (base : Nat) (t tx ty e : TypeId) (i : TypeInfo) (z : Value) (size bytes : Nat) (ht : P.underlying t = some (.slice e)) (hi : P.info? e = some i) (hz : i.zero = some z)
    (hsize : i.size = size) (hby : i.bytes = bytes) (hzs : z.cells.size = size)
    (v : Value) (n : Nat) (xs : List Value) (hown : w.ownsRow base e size v n xs)
    (x : Value) (m : Nat) (news : List Value) (hs : Src P size tx x m news w)
    (h63 : n + m ≤ maxLen) (hbytes : (n + m) * bytes ≤ 140737488355328) (hbase : base ≤ w.heap.size) :
    ∃ v' w', (Builtin.append_ #[t, tx] ty #[v, x]).run P w = .ok v' w' ∧ w'.ownsRow base e size v' (n + m) (xs ++ news) ∧ w.grownBy w' v.ownBlock ∧ Moved w v v' := by
  subst hsize
  subst hby
  have hl := hs.newsLen
  have h1 := hs.one
  have hsmall : n + m ≤ 9223372036854775807 := by simp only [maxLen] at h63; omega
  have hlen : (xs ++ news).length = (n + m) * i.size := by rw [List.length_append, hown.1, hl, Nat.add_mul]
  have grown : ∀ (old : Nat), old < n + m → ∀ (row : Option Nat),
      (w.drew.alloc (.cells ((xs ++ news).toArray ++ Builtin.zeroCells z.cells (grownCap w (n + m) old e - (n + m))) e)).ownsRow base e i.size
        (.slice (some ⟨w.heap.size, 0, none⟩) (n + m) (grownCap w (n + m) old e)) (n + m) (xs ++ news) ∧
      w.grownBy (w.drew.alloc (.cells ((xs ++ news).toArray ++ Builtin.zeroCells z.cells (grownCap w (n + m) old e - (n + m))) e)) row := by
    intro old ho row
    have hge := grownCap_ge w (n + m) old e
    have hcm : grownCap w (n + m) old e ≤ maxLen := grownCap_le_maxLen w (n + m) old e h63
    refine ⟨⟨hlen, .inr ⟨w.heap.size, _, _, rfl, hbase, heap_alloc_new w.drew _, hge, hcm, ?_, ?_⟩⟩, ⟨rfl, rfl, rfl, by simp, fun k hk _ => Below.heap_alloc w.drew _ k hk⟩⟩
    · simp only [Array.size_append, List.size_toArray, size_zeroCells, hzs, List.length_append, hown.1, hl, ← Nat.add_mul]
      congr 1
      omega
    · simp only [Array.toList_append]
      rw [← hlen]
      exact List.take_left
  rcases hown.2 with ⟨rfl, rfl⟩ | ⟨g, cap, cur, rfl, hbg, hg, hnc, hcm, hcs, htake⟩
  · have hx : xs = [] := List.eq_nil_of_length_eq_zero (by simpa using hown.1)
    subst hx
    by_cases hm : m = 0
    · subst hm
      have hn : news = [] := List.eq_nil_of_length_eq_zero (by simpa using hl)
      subst hn
      refine ⟨.slice none 0 0, w, ?_, World.ownsRow_nil w base e i.size, World.grownBy.refl w _, Or.inl rfl⟩
      rcases hs.kind with ⟨e', hk⟩ | hk <;> simp [Builtin.append_, run_underlying ht, run_underlying hk, sizeOf, typeInfo, hi, hs.len, hs.cells]
    · have hr := run_append_grow_src (P := P) w t tx ty e i z ht hi hz none 0 0 [] (run_firstCells_none w.drew i.size 0 0 0) x m news hs (by omega) (by omega) (growslice_fits (by omega) hbytes)
      have hgr := grown 0 (by omega) (Value.ownBlock (.slice none 0 0))
      exact ⟨_, _, hr, hgr.1, hgr.2, Or.inr ⟨_, rfl, Nat.le_refl _⟩⟩
  · by_cases hroom : n + m ≤ cap
    · have hfit : n * i.size + news.length ≤ cur.size := by rw [hl, hcs, ← Nat.add_mul]; exact Nat.mul_le_mul_right _ hroom
      have hst := run_storeCells_at P g (n * i.size) e news 0 cur w hg (by simpa using hfit) h1
      simp only [Nat.add_zero] at hst
      have hr : (Builtin.append_ #[t, tx] ty #[.slice (some ⟨g, 0, none⟩) n cap, x]).run P w =
          .ok (.slice (some ⟨g, 0, none⟩) (n + m) cap) (w.setRow g (cur.toList.take (n * i.size) ++ news ++ cur.toList.drop (n * i.size + news.length)).toArray) := by
        rcases hs.kind with ⟨e', hk⟩ | hk <;> simp [Builtin.append_, run_underlying ht, run_underlying hk, sizeOf, typeInfo, hi, hs.len, hroom, hs.cells, Addr.add_lit, hst]
      refine ⟨_, _, hr, ⟨hlen, .inr ⟨g, cap, _, rfl, hbg, setRow_heap w g cur _ e _ hg, hroom, hcm, ?_, ?_⟩⟩, ⟨rfl, rfl, rfl, by simp, fun k _ hk => setRow_other w g k _ (fun e => hk (by simp [Value.ownBlock, e]))⟩, Or.inl rfl⟩
      · simp only [List.size_toArray, List.length_append, List.length_take, List.length_drop, Array.length_toList]
        omega
      · rw [htake, ← hlen]
        exact List.take_left
    · have holds : ∀ j u, xs[j]? = some u → w.drew.cell? ((⟨g, 0, none⟩ : Addr).add j) = some u := hown.cells (g := g) rfl
      have hr := run_append_grow_src (P := P) w t tx ty e i z ht hi hz (some ⟨g, 0, none⟩) n cap xs (run_firstCells_some w.drew i.size n ⟨g, 0, none⟩ n cap xs hown.1 holds) x m news hs (by omega) (by omega) (growslice_fits (by omega) hbytes)
      have hgr := grown cap (by omega) (Value.ownBlock (.slice (some ⟨g, 0, none⟩) n cap))
      exact ⟨_, _, hr, hgr.1, hgr.2, Or.inr ⟨_, rfl, Nat.le_refl _⟩⟩

theorem wp_append_src {o : Oper} {a : Act} {K : Act → World → Prop} {Q : Exit → Act → World → Prop} (s x : Operand) (t tx : TypeId)
    (ho : o.op = .call { callee := .builtin .append, args := #[s, x], argTypes := #[t, tx] })
    (base : Nat) (e : TypeId) (i : TypeInfo) (z : Value) (size bytes : Nat) (ht : P.underlying t = some (.slice e)) (hi : P.info? e = some i) (hz : i.zero = some z)
    (hsize : i.size = size) (hby : i.bytes = bytes) (hzs : z.cells.size = size)
    (v : Value) (n : Nat) (xs : List Value) (hv : a.eval s = v) (hown : w.ownsRow base e size v n xs)
    (y : Value) (m : Nat) (news : List Value) (hy : a.eval x = y) (hs : Src P size tx y m news w)
    (h63 : n + m ≤ maxLen) (hbytes : (n + m) * bytes ≤ 140737488355328) (hbase : base ≤ w.heap.size)
    (h : ∀ v' w', w'.ownsRow base e size v' (n + m) (xs ++ news) → w.grownBy w' v.ownBlock → Moved w v v' → K (a.put o.dst v') w') : o.wp P a w K Q := by
  obtain ⟨v', w', hrun, h2, h3, h4⟩ := run_append_src (P := P) w base t tx o.type e i z size bytes ht hi hz hsize hby hzs v n xs hown y m news hs h63 hbytes hbase
  unfold Oper.wp execOp
  simp only [ho, resolve, invoke, builtin, Sem.run_bind, Sem.run_pure, Result.andThen_ok, List.map_toArray, List.map_cons, List.map_nil, hv, hy, hrun]
  exact h v' w' h2 h3 h4

theorem wpList_append_src {ops : Array Oper} {rest : List Oper} {o : Oper} {a : Act} {Q : Exit → Act → World → Prop} (hgd : o.guard = none) (s x : Operand) (t tx : TypeId)
    (ho : o.op = .call { callee := .builtin .append, args := #[s, x], argTypes := #[t, tx] })
    (base : Nat) (e : TypeId) (i : TypeInfo) (z : Value) (size bytes : Nat) (ht : P.underlying t = some (.slice e)) (hi : P.info? e = some i) (hz : i.zero = some z)
    (hsize : i.size = size) (hby : i.bytes = bytes) (hzs : z.cells.size = size)
    (v : Value) (n : Nat) (xs : List Value) (hv : a.eval s = v) (hown : w.ownsRow base e size v n xs)
    (y : Value) (m : Nat) (news : List Value) (hy : a.eval x = y) (hs : Src P size tx y m news w)
    (h63 : n + m ≤ maxLen) (hbytes : (n + m) * bytes ≤ 140737488355328) (hbase : base ≤ w.heap.size)
    (h : ∀ v' w', w'.ownsRow base e size v' (n + m) (xs ++ news) → w.grownBy w' v.ownBlock → Moved w v v' → wpList P ops Q rest (a.put o.dst v') w') : wpList P ops Q (o :: rest) a w :=
  wpList_plain hgd fun _ hK => wp_append_src w s x t tx ho base e i z size bytes ht hi hz hsize hby hzs v n xs hv hown y m news hy hs h63 hbytes hbase fun v' w' h2 h3 h4 => hK _ _ (h v' w' h2 h3 h4)

theorem step_append_src {ops : Array Oper} {o : Oper} {a : Act} {K : Act → World → Prop} {Q : Exit → Act → World → Prop} {E : Prop} (hgd : o.guard = none) (s x : Operand) (t tx : TypeId)
    (ho : o.op = .call { callee := .builtin .append, args := #[s, x], argTypes := #[t, tx] })
    (base : Nat) (e : TypeId) (i : TypeInfo) (z : Value) (size bytes : Nat) (ht : P.underlying t = some (.slice e)) (hi : P.info? e = some i) (hz : i.zero = some z)
    (hsize : i.size = size) (hby : i.bytes = bytes) (hzs : z.cells.size = size)
    (v : Value) (n : Nat) (xs : List Value) (hv : a.eval s = v) (hown : w.ownsRow base e size v n xs)
    (y : Value) (m : Nat) (news : List Value) (hy : a.eval x = y) (hs : Src P size tx y m news w)
    (h63 : n + m ≤ maxLen) (hbytes : (n + m) * bytes ≤ 140737488355328) (hbase : base ≤ w.heap.size)
    (h : ∀ v' w', w'.ownsRow base e size v' (n + m) (xs ++ news) → w.grownBy w' v.ownBlock → Moved w v v' → K (a.put o.dst v') w') :
    if Region.wanted o (yielded ops a.tmps) = true then Oper.wp P o a w K Q else E := by
  have hw : Region.wanted o (yielded ops a.tmps) = true := by simp [Region.wanted, hgd]
  rw [if_pos hw]
  exact wp_append_src w s x t tx ho base e i z size bytes ht hi hz hsize hby hzs v n xs hv hown y m news hy hs h63 hbytes hbase h
end

/-- Two steps on one row. -/
theorem grown_chain {a b c : World} {v v' : Value} (h : a.grownBy b v.ownBlock) (hm : Moved a v v') (k : b.grownBy c v'.ownBlock) : a.grownBy c v.ownBlock :=
  ⟨k.os.trans h.os, k.tape.trans h.tape, k.output.trans h.output, Nat.le_trans h.size k.size, fun i hi hne => (k.block i (Nat.lt_of_lt_of_le hi h.size) (by
    rcases hm with e | ⟨g, e, hg⟩
    · rw [e]; exact hne
    · rw [e]; intro e2; injection e2 with e2; omega)).trans (h.block i hi hne)⟩
theorem moved_chain {a b : World} {v v' v'' : Value} (hs : a.heap.size ≤ b.heap.size) (h : Moved a v v') (k : Moved b v' v'') : Moved a v v'' := by
  rcases k with e | ⟨g, e, hg⟩
  · rcases h with e2 | ⟨g2, e2, hg2⟩
    · exact .inl (e.trans e2)
    · exact .inr ⟨g2, e.trans e2, hg2⟩
  · exact .inr ⟨g, e, by omega⟩
theorem grown_below {B : Nat} {a w w' : World} {v : Value} {e : TypeId} {size n : Nat} {xs : List Value} (h : Below B a w) (hB : B ≤ w.heap.size) (hown : w.ownsRow B e size v n xs) (hg : w.grownBy w' v.ownBlock) : Below B a w' :=
  h.grown hg hB (fun j hj => (hown.lt j hj).1)

/-- Bytes as cells. -/
def bc (l : List UInt8) : List Value := l.map fun x => Value.int .u8 (x.toNat : Int)
theorem bc_len (l : List UInt8) : (bc l).length = l.length := by simp [bc]
theorem bc_app (l m : List UInt8) : bc (l ++ m) = bc l ++ bc m := by simp [bc]
theorem bc_at (l : List UInt8) (j : Nat) (h : j < l.length) : (bc l)[j]? = some (.int .u8 (l[j].toNat : Int)) := by simp [bc, List.getElem?_eq_getElem h]
theorem bc_one (l : List UInt8) : ∀ u ∈ bc l, u.oneCell' = true := by
  intro u hu; obtain ⟨x, _, rfl⟩ := List.mem_map.1 hu; rfl
theorem bc_inj {l m : List UInt8} (h : bc l = bc m) : l = m := by
  unfold bc at h
  have : ∀ a b : UInt8, Value.int .u8 (a.toNat : Int) = .int .u8 (b.toNat : Int) → a = b := by
    intro a b e; injection e with _ e; exact UInt8.toNat.inj (by omega)
  exact (List.map_inj_right this).1 h
theorem bytes_bc (s : ByteArray) : byteCells s = bc s.data.toList := rfl

/-- From w on, the row v has become v' and holds the bytes l; besides it and new blocks nothing has changed. -/
def Grows (E : TypeId) (B : Nat) (w : World) (v : Value) (l : List UInt8) (v' : Value) (w' : World) : Prop :=
  w'.ownsRow B E 1 v' l.length (bc l) ∧ w.grownBy w' v.ownBlock ∧ Moved w v v' ∧ B ≤ w'.heap.size
section
variable {E : TypeId} {B : Nat} {w W W' : World} {v v' v'' : Value} {l : List UInt8}
theorem Grows.refl (h : w.ownsRow B E 1 v l.length (bc l)) (hB : B ≤ w.heap.size) : Grows E B w v l v w := ⟨h, World.grownBy.refl w _, .inl rfl, hB⟩
theorem Grows.none_ (hB : B ≤ w.heap.size) : Grows E B w (.slice none 0 0) [] (.slice none 0 0) w := .refl (World.ownsRow_nil _ _ _ _) hB
theorem Grows.size (h : Grows E B w v l v' W) : w.heap.size ≤ W.heap.size := h.2.1.size
theorem Grows.more (h : Grows E B w v l v' W) (hs : W.heap.size ≤ W'.heap.size) (ho : W'.ownsRow B E 1 v' l.length (bc l)) (hg : W.grownBy W' v'.ownBlock) : Grows E B w v l v' W' :=
  ⟨ho, grown_chain h.2.1 h.2.2.1 hg, h.2.2.1, Nat.le_trans h.2.2.2 hs⟩
theorem Grows.alloc (h : Grows E B w v l v' W) (o : Obj) : Grows E B w v l v' (W.alloc o) := h.more (by simp) (h.1.alloc o) (World.grownBy_alloc W o _)
theorem Grows.drew (h : Grows E B w v l v' W) : Grows E B w v l v' W.drew := ⟨h.1, ⟨h.2.1.os, h.2.1.tape, h.2.1.output, h.2.1.size, h.2.1.block⟩, h.2.2.1, h.2.2.2⟩
theorem grown_of_below {row : Option Nat} (hb : Below W.heap.size W W') : W.grownBy W' row := ⟨hb.os, hb.tape, hb.output, hb.size, fun k hk _ => hb.block k hk⟩
theorem own_below {e : TypeId} {size n : Nat} {xs : List Value} (h : W.ownsRow B e size v n xs) (hb : Below W.heap.size W W') : W'.ownsRow B e size v n xs :=
  h.kept (grown_of_below (row := none) hb) (by cases v.ownBlock <;> simp)
theorem Grows.below (hb : Below W.heap.size W W') (h : Grows E B w v l v' W) : Grows E B w v l v' W' := h.more hb.size (own_below h.1 hb) (grown_of_below hb)
theorem Grows.step (h : Grows E B w v l v' W) {j : Nat} {N : List Value} (news : List UInt8) (own' : W'.ownsRow B E 1 v'' (l.length + j) (bc l ++ N)) (hN : N = bc news) (hj : j = news.length)
    (hg : W.grownBy W' v'.ownBlock) (hm : Moved W v' v'') : Grows E B w v (l ++ news) v'' W' := by
  subst hN; subst hj
  exact ⟨by rw [bc_app, List.length_append]; exact own', grown_chain h.2.1 h.2.2.1 hg, moved_chain h.2.1.size h.2.2.1 hm, Nat.le_trans h.2.2.2 hg.size⟩
theorem Grows.is_below (h : Grows E B w v l v' W) (hv : v = .slice none 0 0) : Below w.heap.size w W := by
  subst hv
  exact ⟨h.2.1.os, h.2.1.tape, h.2.1.output, h.2.1.size, fun k hk => h.2.1.block k hk (by simp [Value.ownBlock])⟩
theorem Grows.below_of (h : Grows E B w v l v' W) {n : Nat} {xs : List Value} (ho : w.ownsRow B E 1 v n xs) (hB : B ≤ w.heap.size) : Below B w W :=
  (Below.refl B w).grown h.2.1 hB (fun j hj => (ho.lt j hj).1)
end

/-- What an append hands back. -/
def Apd (E : TypeId) (B : Nat) (w : World) (v : Value) (l : List UInt8) (e : Ending) (w' : World) : Prop := ∃ v', e = .returned v' ∧ Grows E B w v l v' w'

/-- A block that is known whole. -/
def Blk (w : World) (g : Nat) (t : TypeId) (cs : Array Value) : Prop := w.heap[g]? = some (.cells cs t (0, 0))
section
variable {w w' : World} {g : Nat} {t : TypeId} {cs : Array Value}
theorem Blk.lt (h : Blk w g t cs) : g < w.heap.size := by
  rcases Nat.lt_or_ge g w.heap.size with hlt | hge
  · exact hlt
  · unfold Blk at h; rw [Array.getElem?_eq_none hge] at h; cases h
theorem Blk.cell (h : Blk w g t cs) (i : Nat) : w.cell? ⟨g, i, none⟩ = cs[i]? := cell_of_row w g i cs t (0, 0) h
theorem Blk.new (w : World) (t : TypeId) (cs : Array Value) : Blk (w.alloc (.cells cs t)) w.heap.size t cs := heap_alloc_new w _
theorem Blk.new_ {cs' : Array Value} (hg : g = w.heap.size) (hc : cs' = cs) : Blk (w.alloc (.cells cs t)) g t cs' := by subst hg; subst hc; exact Blk.new _ _ _
theorem Blk.alloc (h : Blk w g t cs) (o : Obj) : Blk (w.alloc o) g t cs := (Below.heap_alloc w o g h.lt).trans h
theorem Blk.drew (h : Blk w g t cs) : Blk w.drew g t cs := h
theorem Blk.below (hb : Below w.heap.size w w') (h : Blk w g t cs) : Blk w' g t cs := (hb.block g h.lt).trans h
theorem own_blk_ne {base : Nat} {e : TypeId} {size n : Nat} {v : Value} {xs : List Value} (h : w.ownsRow base e size v n xs) (hg : Blk w g t cs) (hne : t ≠ e) : v.ownBlock ≠ some g := by
  rcases h.2 with ⟨rfl, _⟩ | ⟨g', cap, cur, rfl, _, hh, _⟩
  · simp [Value.ownBlock]
  · intro he
    have : g' = g := by simpa [Value.ownBlock] using he
    subst this
    unfold Blk at hg
    rw [hh] at hg
    injection hg with hg
    injection hg with _ h2
    exact hne h2.symm
theorem Blk.grown {base : Nat} {e : TypeId} {size n : Nat} {v : Value} {xs : List Value} (h : Blk w g t cs) (ho : w.ownsRow base e size v n xs) (hne : t ≠ e) (hg : w.grownBy w' v.ownBlock) : Blk w' g t cs :=
  (hg.block g h.lt (fun e2 => own_blk_ne ho h hne e2.symm)).trans h
end

theorem src_blk {P : Program} {W : World} {g e t size : Nat} {xs : List Value} {n c : Nat} (ht : P.underlying t = some (.slice e)) (hl : xs.length = n * size) (h1 : ∀ u ∈ xs, u.oneCell' = true) (h : Blk W g e xs.toArray) :
    Src P size t (.slice (some ⟨g, 0, none⟩) n c) n xs W := by
  refine Src.ofSlice _ ht _ _ _ _ hl (fun j u hu => ?_) h1
  rw [add_plain, Nat.zero_add, h.cell j]
  simpa using hu
theorem src_str {P : Program} {W : World} {t : TypeId} (ht : P.underlying t = some .string) (l : List UInt8) (n : Nat) (hn : n = l.length) : Src P 1 t (.string ⟨l.toArray⟩) n (bc l) W := by
  have := Src.ofString (P := P) W (tx := t) ht ⟨l.toArray⟩
  rw [bytes_bc] at this
  have e : ByteArray.size ⟨l.toArray⟩ = n := by rw [hn]; simp [ByteArray.size]
  rw [e] at this
  exact this

theorem step_app {P : Program} {W : World} {ops : Array Oper} {o : Oper} {a : Act} {K : Act → World → Prop} {Q : Exit → Act → World → Prop} {F : Prop} (hgd : o.guard = none) (s x : Operand) (t tx : TypeId)
    (ho : o.op = .call { callee := .builtin .append, args := #[s, x], argTypes := #[t, tx] })
    (B : Nat) (w0 : World) (v0 : Value) (e : TypeId) (i : TypeInfo) (ht : P.underlying t = some (.slice e)) (hi : P.info? e = some i) (hz : i.zero = some (.int .u8 0)) (hsize : i.size = 1) (hby : i.bytes = 1)
    (v : Value) (l : List UInt8) (hv : a.eval s = v) (G : Grows e B w0 v0 l v W)
    (y : Value) (m : Nat) (news : List UInt8) (hy : a.eval x = y) (hs : Src P 1 tx y m (bc news) W) (hb : l.length + m ≤ 140737488355328)
    (h : ∀ v' w', Grows e B w0 v0 (l ++ news) v' w' → W.heap.size ≤ w'.heap.size → (∀ g t cs, t ≠ e → Blk W g t cs → Blk w' g t cs) → K (a.put o.dst v') w') :
    if Region.wanted o (yielded ops a.tmps) = true then Oper.wp P o a W K Q else F :=
  step_append_src W hgd s x t tx ho B e i _ 1 1 ht hi hz hsize hby rfl v l.length (bc l) hv G.1 y m (bc news) hy hs (by unfold maxLen; omega) (by omega) G.2.2.2
    fun v' w' own' hg hm => h v' w' (G.step news own' rfl (by have := hs.newsLen; rw [bc_len] at this; omega) hg hm) hg.size (fun _ _ _ hne hk => hk.grown G.1 hne hg)

theorem wpList_app {P : Program} {W : World} {ops : Array Oper} {rest : List Oper} {o : Oper} {a : Act} {Q : Exit → Act → World → Prop} (hgd : o.guard = none) (s x : Operand) (t tx : TypeId)
    (ho : o.op = .call { callee := .builtin .append, args := #[s, x], argTypes := #[t, tx] })
    (B : Nat) (w0 : World) (v0 : Value) (e : TypeId) (i : TypeInfo) (ht : P.underlying t = some (.slice e)) (hi : P.info? e = some i) (hz : i.zero = some (.int .u8 0)) (hsize : i.size = 1) (hby : i.bytes = 1)
    (v : Value) (l : List UInt8) (hv : a.eval s = v) (G : Grows e B w0 v0 l v W)
    (y : Value) (m : Nat) (news : List UInt8) (hy : a.eval x = y) (hs : Src P 1 tx y m (bc news) W) (hb : l.length + m ≤ 140737488355328)
    (h : ∀ v' w', Grows e B w0 v0 (l ++ news) v' w' → W.heap.size ≤ w'.heap.size → (∀ g t cs, t ≠ e → Blk W g t cs → Blk w' g t cs) → wpList P ops Q rest (a.put o.dst v') w') : wpList P ops Q (o :: rest) a W :=
  wpList_append_src W hgd s x t tx ho B e i _ 1 1 ht hi hz hsize hby rfl v l.length (bc l) hv G.1 y m (bc news) hy hs (by unfold maxLen; omega) (by omega) G.2.2.2
    fun v' w' own' hg hm => h v' w' (G.step news own' rfl (by have := hs.newsLen; rw [bc_len] at this; omega) hg hm) hg.size (fun _ _ _ hne hk => hk.grown G.1 hne hg)

/-- 'string(b)' of a row of the call's own. -/
theorem run_string_own {P : Program} (w : World) (src dst e : TypeId) (B : Nat) (v : Value) (l : List UInt8) (hs : P.underlying src = some (.slice e)) (he : P.underlying e = some (.int .u8)) (hd : P.underlying dst = some .string)
    (h : w.ownsRow B e 1 v l.length (bc l)) : (convert src dst v).run P w = .ok (.string ⟨l.toArray⟩) w := by
  rcases h.2 with ⟨rfl, hl⟩ | ⟨g, cap, cur, rfl, hg, hh, hnc, hcap, hsz, htake⟩
  · obtain rfl : l = [] := List.eq_nil_of_length_eq_zero hl
    rw [run_convert_bytes_string w src dst e none 0 0 hs he hd]
    rfl
  · refine run_convert_bytes_back w src dst e ⟨g, 0, none⟩ cap l hs he hd fun j hj => ?_
    rw [add_plain, Nat.zero_add, World.ownsRow.cellAt h j (by omega), bc_at l j hj]
end Go.Proofs.Ytbmofagaammgmaa
