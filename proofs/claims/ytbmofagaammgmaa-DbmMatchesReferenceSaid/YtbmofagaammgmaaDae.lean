/- Add, where it adds. -/
import Derived.Test.YtbmofagaammgmaaDad
namespace Go.Proofs.Ytbmofagaammgmaa
open Go.ChangeShapes Go.WideShapes Go.ChangeAt Go.RowKit Go.ChangeMaps

theorem grown_set (w : World) (g i : Nat) (u : Value) : w.grownBy (w.setCell ⟨g, i, none⟩ u) (some g) := ⟨rfl, rfl, rfl, by simp [World.setCell], fun k _ hk => Below.heap_setCell w _ u k (fun e => hk (by rw [e]))⟩
/-- What stands while a bound is added: the matrix's block, its map, its pairs, the pair's own block and the old bound's. -/
structure AS (w W : World) (B g n k1 k2 bm : Nat) (v : Value) (M z a : Nat) (P : List (Int × Int)) (F : Int × Int → Option Value) (i j c0 p0 : Int) : Prop where
  blk : Blk W g 71 #[.int .i64 (n : Int), .map (some bm), v, .int .i64 (a : Int)]
  map : MG PK W bm M z F
  row : W.ownsRow B 72 2 v P.length (P.flatMap pcells)
  b1 : Blk W k1 72 #[.int .i64 i, .int .i64 j]
  b2 : Blk W k2 74 #[.int .i64 c0, .int .i64 p0]
  kt : KT w W
  bl : ∀ w0, Below B w0 w → Below B w0 W
  sz : B ≤ W.heap.size
theorem AS.below {w W W' : World} {B g n k1 k2 bm : Nat} {v : Value} {M z a : Nat} {P : List (Int × Int)} {F : Int × Int → Option Value} {i j c0 p0 : Int} (h : AS w W B g n k1 k2 bm v M z a P F i j c0 p0) (hb : Below W.heap.size W W') : AS w W' B g n k1 k2 bm v M z a P F i j c0 p0 :=
  ⟨h.blk.below hb, h.map.below hb, own_below h.row hb, h.b1.below hb, h.b2.below hb, h.kt.trans (KT.of_below hb), fun w0 q => (h.bl w0 q).trans (hb.mono h.sz), Nat.le_trans h.sz hb.size⟩
theorem map_ne {w : World} {k : TypeId} {κ : Type} {V : KV k κ} {b n s : Nat} {f : κ → Option Value} (h : MG V w b n s f) {g : Nat} {t : TypeId} {cs : Array Value} (hg : Blk w g t cs) : b ≠ g := fun e => h.ne hg e.symm
theorem AS.added {w W : World} {B g n k1 k2 bm : Nat} {v : Value} {M z a : Nat} {P : List (Int × Int)} {F : Int × Int → Option Value} {i j c0 p0 : Int} (h : AS w W B g n k1 k2 bm v M z a P F i j c0 p0) (hg : B ≤ g) (u : Int) :
    Blk (W.setCell ⟨g, 3, none⟩ (.int .i64 u)) g 71 #[.int .i64 (n : Int), .map (some bm), v, .int .i64 u] ∧ MG PK (W.setCell ⟨g, 3, none⟩ (.int .i64 u)) bm M z F ∧ (W.setCell ⟨g, 3, none⟩ (.int .i64 u)).ownsRow B 72 2 v P.length (P.flatMap pcells) ∧ KT w (W.setCell ⟨g, 3, none⟩ (.int .i64 u)) ∧ ∀ w0, Below B w0 w → Below B w0 (W.setCell ⟨g, 3, none⟩ (.int .i64 u)) := by
  have gs := grown_set W g 3 (.int .i64 u)
  refine ⟨Joins.block_setCell h.blk _, h.map.set (map_ne h.map h.blk) _, h.row.kept gs (.inr (own_blk_ne h.row h.blk (by decide))), h.kt.trans (KT.of_grown gs (fun b hb cs t z e => by injection hb with hb; subst hb; have := (h.blk).symm.trans e; injection this with this; injection this with _ this; exact .inl this.symm)), fun w0 q => (h.bl w0 q).grown gs h.sz (fun k hk => by injection hk with hk; omega)⟩
theorem AS.mapped {w W W' : World} {B g n k1 k2 bm : Nat} {v : Value} {M z a M' z' : Nat} {P : List (Int × Int)} {F F' : Int × Int → Option Value} {i j c0 p0 : Int} (h : AS w W B g n k1 k2 bm v M z a P F i j c0 p0) (hm : MG PK W' bm M' z' F') (hg : W.grownBy W' (some bm)) (hB : B ≤ bm) : AS w W' B g n k1 k2 bm v M' z' a P F' i j c0 p0 := by
  have hk : ∀ {k : Nat} {t : TypeId} {cs : Array Value}, Blk W k t cs → Blk W' k t cs := fun {k t cs} hb => (hg.block k hb.lt (fun e => by injection e with e; exact map_ne h.map hb e.symm)).trans hb
  refine ⟨hk h.blk, hm, h.row.kept hg (.inr ?_), hk h.b1, hk h.b2, h.kt.trans (KT.of_grown hg (fun b hb cs t z e => by injection hb with hb; subst hb; exact absurd rfl (h.map.ne e))), fun w0 q => (h.bl w0 q).grown hg h.sz (fun k hk => by injection hk with hk; omega), Nat.le_trans h.sz hg.size⟩
  intro e
  rcases h.row.2 with ⟨e2, -⟩ | ⟨k, cap, cur, e2, -, hh, -⟩
  · rw [e2] at e; cases e
  · rw [e2] at e
    have e : some k = some bm := e
    injection e with e
    exact h.map.ne hh e
theorem AS.appended {w W W' : World} {B g n k1 k2 bm : Nat} {v v' : Value} {M z a : Nat} {P : List (Int × Int)} {F : Int × Int → Option Value} {i j c0 p0 : Int} (h : AS w W B g n k1 k2 bm v M z a P F i j c0 p0) (hrow : ∀ k, v.ownBlock = some k → k ≠ k1)
    (own' : W'.ownsRow B 72 2 v' (P.length + 1) (P.flatMap pcells ++ [.int .i64 i, .int .i64 j])) (hg : W.grownBy W' v.ownBlock) (hgB : B ≤ g) : Blk W' g 71 #[.int .i64 (n : Int), .map (some bm), v, .int .i64 (a : Int)] ∧ Blk W' k1 72 #[.int .i64 i, .int .i64 j] ∧
    AS w (W'.setCell ⟨g, 2, none⟩ v') B g n k1 k2 bm v' M z a (P ++ [(i, j)]) F i j c0 p0 := by
  have hb1 := h.blk.grown h.row (by decide) hg
  have hk1 : Blk W' k1 72 #[.int .i64 i, .int .i64 j] := (hg.block k1 h.b1.lt (fun e => hrow k1 e.symm rfl)).trans h.b1
  have hk2 := h.b2.grown h.row (by decide) hg
  have gs := grown_set W' g 2 v'
  have hmn : some bm ≠ v.ownBlock := fun e => by
    rcases h.row.2 with ⟨e2, -⟩ | ⟨k, cap, cur, e2, -, hh, -⟩
    · rw [e2] at e; cases e
    · rw [e2] at e
      have e : some bm = some k := e
      injection e with e
      exact h.map.ne hh e.symm
  have hm := h.map.kept hg hmn
  have hne1 : k1 ≠ g := fun e => by
    have := h.b1
    rw [e] at this
    have := this.symm.trans h.blk
    injection this with this
    injection this with _ this
    cases this
  have hne2 : k2 ≠ g := fun e => by
    have := h.b2
    rw [e] at this
    have := this.symm.trans h.blk
    injection this with this
    injection this with _ this
    cases this
  refine ⟨hb1, hk1, ⟨Joins.block_setCell hb1 _, hm.set (map_ne hm hb1) _, ?_, (gs.block k1 hk1.lt (fun e => by injection e with e; exact hne1 e)).trans hk1, (gs.block k2 hk2.lt (fun e => by injection e with e; exact hne2 e)).trans hk2, ?_, fun w0 q => ((h.bl w0 q).grown hg h.sz (fun k hk => (h.row.lt k hk).1)).grown gs (Nat.le_trans h.sz hg.size) (fun k hk => by injection hk with hk; omega), Nat.le_trans h.sz (Nat.le_trans hg.size gs.size)⟩⟩
  · have := own'.kept gs (.inr (own_blk_ne own' hb1 (by decide)))
    rw [List.length_append, List.flatMap_append]
    exact this
  · refine (h.kt.trans (KT.of_grown hg (fun b hb cs t z e => ?_))).trans (KT.of_grown gs (fun b hb cs t z e => by injection hb with hb; subst hb; have := hb1.symm.trans e; injection this with this; injection this with _ this; exact .inl this.symm))
    rcases h.row.2 with ⟨e2, -⟩ | ⟨k, cap, cur, e2, -, hh, -⟩
    · rw [e2] at hb; cases hb
    · rw [e2] at hb
      have hb : some k = some b := hb
      injection hb with hb
      subst hb
      have := hh.symm.trans e
      injection this with this
      injection this with _ this
      exact .inr this.symm
end Go.Proofs.Ytbmofagaammgmaa
