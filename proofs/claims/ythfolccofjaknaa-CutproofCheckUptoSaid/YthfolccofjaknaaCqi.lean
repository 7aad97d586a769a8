/- The state of a drawn region `q, r, ok := DivFloor(..)`. -/
import Derived.Test.YthfolccofjaknaaCsa
import Derived.Test.YthfolccofjaknaaChj
import Derived.Test.YthfolccofjaknaaMB
import Derived.Test.YthfolccofjaknaaBqr
namespace Go.Proofs.Ythfolccofjaknaa
open Go.ChangeShapes Go.WideShapes Go.ChangeAt Go.RowKit Go.ChangeMaps

/-- A part of the answer: an integer of its own where the division was done, else the zero value. -/
def FR (okb : Bool) (B : Nat) (x : Int) (v : Value) (w : World) : Prop := (∃ s A n c, v = .agg #[.bool s, .slice A n c]) ∧ (okb = true → ∃ N, NB w B v x N) ∧ (okb = false → v = .agg #[.bool false, .slice none 0 0])
theorem FR.below {okb : Bool} {B : Nat} {x : Int} {v : Value} {w w' : World} (h : FR okb B x v w) (hb : Below w.heap.size w w') : FR okb B x v w' := ⟨h.1, fun e => (h.2.1 e).imp fun _ hn => hn.below hb, h.2.2⟩
theorem FR.row {okb : Bool} {B g : Nat} {x : Int} {v : Value} {w : World} {cs : Array Value} (h : FR okb B x v w) (hk : Blk w g 37 cs) (ds : Array Value) : FR okb B x v (w.setRow g ds) := ⟨h.1, fun e => (h.2.1 e).imp fun _ hn => hn.row hk ds, h.2.2⟩
theorem OB.row {w : World} {base g N : Nat} {v : Value} {z : Int} {cs : Array Value} (h : OB w base v z N) (hk : Blk w g 37 cs) (ds : Array Value) : OB (w.setRow g ds) base v z N := by
  obtain ⟨neg, A, n, c, D, e, ho, hs, hn, hz⟩ := h
  exact ⟨neg, A, n, c, D, e, ho.row hk ds, hs, hn, hz⟩
def TU (X : World) (q r : Int) (okb : Bool) (v : Value) (w : World) : Prop := ∃ vq vr, v = .tuple #[vq, vr, .bool okb] ∧ FR okb X.heap.size q vq w ∧ FR okb X.heap.size r vr w
theorem TU.below {X : World} {q r : Int} {okb : Bool} {v : Value} {w w' : World} (h : TU X q r okb v w) (hb : Below w.heap.size w w') : TU X q r okb v w' :=
  let ⟨a, b, e, f, g⟩ := h; ⟨a, b, e, f.below hb, g.below hb⟩
theorem TU.row {X : World} {q r : Int} {okb : Bool} {v : Value} {w : World} {g : Nat} {cs : Array Value} (h : TU X q r okb v w) (hk : Blk w g 37 cs) (ds : Array Value) : TU X q r okb v (w.setRow g ds) :=
  let ⟨a, b, e, f, k⟩ := h; ⟨a, b, e, f.row hk ds, k.row hk ds⟩
def PA (X : World) (b : Bool) (v u : Value) (w : World) : Prop := ∃ g s A n c, v = .pointer (some ⟨g, 0, none⟩) ∧ X.heap.size ≤ g ∧ Blk w g 37 #[.bool s, .slice A n c] ∧ (b = true → u = .agg #[.bool s, .slice A n c])
theorem PA.below {X : World} {b : Bool} {v u : Value} {w w' : World} (h : PA X b v u w) (hb : Below w.heap.size w w') : PA X b v u w' :=
  let ⟨g, s, A, n, c, e, hg, hk, hu⟩ := h; ⟨g, s, A, n, c, e, hg, hk.below hb, hu⟩
theorem PA.other {X : World} {b : Bool} {v u : Value} {w : World} {g : Nat} (h : PA X b v u w) (hne : v ≠ .pointer (some ⟨g, 0, none⟩)) (ds : Array Value) : PA X b v u (w.setRow g ds) :=
  let ⟨k, s, A, n, c, e, hg, hk, hu⟩ := h; ⟨k, s, A, n, c, e, hg, (setRow_other w g k _ (fun x => hne (by rw [e, x]))).trans hk, hu⟩
theorem PA.lt {X : World} {b : Bool} {v u : Value} {w : World} (h : PA X b v u w) : v ≠ .pointer (some ⟨w.heap.size, 0, none⟩) := by
  obtain ⟨k, s, A, n, c, e, hg, hk, hu⟩ := h
  intro x
  rw [e] at x
  have := hk.lt
  injection x with x
  injection x with x
  injection x with x _ _
  omega
structure TI (X : World) (z0 z1 q r : Int) (okb : Bool) (d : Nat → Bool) (vs : Nat → Value) (w : World) : Prop where
  below : Below X.heap.size X w
  c1 : d 1 = true → OB w X.heap.size (vs 1) z0 8
  c3 : d 3 = true → OB w X.heap.size (vs 3) z1 8
  t4 : d 7 = true → TU X q r okb (vs 7) w
  t5 : d 8 = true → TU X q r okb (vs 8) w
  e6 : d 9 = true → FR okb X.heap.size q (vs 9) w
  e7 : d 10 = true → FR okb X.heap.size r (vs 10) w
  e8 : d 11 = true → vs 11 = .bool okb
  a9 : d 12 = true → PA X (d 14) (vs 12) (vs 9) w
  a10 : d 13 = true → PA X (d 15) (vs 13) (vs 10) w
  ap : d 12 = true → d 13 = true → vs 12 ≠ vs 13
  s11 : d 14 = true → d 9 = true ∧ d 12 = true
  s12 : d 15 = true → d 10 = true ∧ d 13 = true
theorem TI.start {X w : World} {z0 z1 q r : Int} {okb : Bool} {vs : Nat → Value} (hb : Below X.heap.size X w) : TI X z0 z1 q r okb (fun _ => false) vs w :=
  ⟨hb, fun e => Bool.noConfusion e, fun e => Bool.noConfusion e, fun e => Bool.noConfusion e, fun e => Bool.noConfusion e, fun e => Bool.noConfusion e, fun e => Bool.noConfusion e, fun e => Bool.noConfusion e, fun e => Bool.noConfusion e, fun e => Bool.noConfusion e, fun e => Bool.noConfusion e, fun e => Bool.noConfusion e, fun e => Bool.noConfusion e⟩
theorem TI.grow {X w : World} {z0 z1 q r : Int} {okb : Bool} {d : Nat → Bool} {vs : Nat → Value} {w' : World} (h : TI X z0 z1 q r okb d vs w) (hb : Below w.heap.size w w') : TI X z0 z1 q r okb d vs w' :=
  ⟨h.below.trans (hb.mono h.below.size), fun e => (h.c1 e).below hb, fun e => (h.c3 e).below hb, fun e => (h.t4 e).below hb, fun e => (h.t5 e).below hb, fun e => (h.e6 e).below hb, fun e => (h.e7 e).below hb, h.e8, fun e => (h.a9 e).below hb, fun e => (h.a10 e).below hb, h.ap, h.s11, h.s12⟩
theorem updT (d : Nat → Bool) (i : Nat) : upd d i true i = true := upd_same _ _ _
theorem TI.put1 {X w : World} {z0 z1 q r : Int} {okb : Bool} {d : Nat → Bool} {vs : Nat → Value} {v : Value} (h : TI X z0 z1 q r okb d vs w) (h0 : d 1 = false) (hv : OB w X.heap.size v z0 8) : TI X z0 z1 q r okb (upd d 1 true) (upd vs 1 v) w := by
  refine ⟨h.below, ?_, ?_, ?_, ?_, ?_, ?_, ?_, ?_, ?_, ?_, ?_, ?_⟩
  · exact fun _ => hv
  · exact h.c3
  · exact h.t4
  · exact h.t5
  · exact h.e6
  · exact h.e7
  · exact h.e8
  · exact h.a9
  · exact h.a10
  · exact h.ap
  · exact h.s11
  · exact h.s12
theorem TI.put3 {X w : World} {z0 z1 q r : Int} {okb : Bool} {d : Nat → Bool} {vs : Nat → Value} {v : Value} (h : TI X z0 z1 q r okb d vs w) (h0 : d 3 = false) (hv : OB w X.heap.size v z1 8) : TI X z0 z1 q r okb (upd d 3 true) (upd vs 3 v) w := by
  refine ⟨h.below, ?_, ?_, ?_, ?_, ?_, ?_, ?_, ?_, ?_, ?_, ?_, ?_⟩
  · exact h.c1
  · exact fun _ => hv
  · exact h.t4
  · exact h.t5
  · exact h.e6
  · exact h.e7
  · exact h.e8
  · exact h.a9
  · exact h.a10
  · exact h.ap
  · exact h.s11
  · exact h.s12
theorem TI.put4 {X w : World} {z0 z1 q r : Int} {okb : Bool} {d : Nat → Bool} {vs : Nat → Value} {v : Value} (h : TI X z0 z1 q r okb d vs w) (h0 : d 7 = false) (hv : TU X q r okb v w) : TI X z0 z1 q r okb (upd d 7 true) (upd vs 7 v) w := by
  refine ⟨h.below, ?_, ?_, ?_, ?_, ?_, ?_, ?_, ?_, ?_, ?_, ?_, ?_⟩
  · exact h.c1
  · exact h.c3
  · exact fun _ => hv
  · exact h.t5
  · exact h.e6
  · exact h.e7
  · exact h.e8
  · exact h.a9
  · exact h.a10
  · exact h.ap
  · exact h.s11
  · exact h.s12
theorem TI.put5 {X w : World} {z0 z1 q r : Int} {okb : Bool} {d : Nat → Bool} {vs : Nat → Value} {v : Value} (h : TI X z0 z1 q r okb d vs w) (h0 : d 8 = false) (hv : TU X q r okb v w) : TI X z0 z1 q r okb (upd d 8 true) (upd vs 8 v) w := by
  refine ⟨h.below, ?_, ?_, ?_, ?_, ?_, ?_, ?_, ?_, ?_, ?_, ?_, ?_⟩
  · exact h.c1
  · exact h.c3
  · exact h.t4
  · exact fun _ => hv
  · exact h.e6
  · exact h.e7
  · exact h.e8
  · exact h.a9
  · exact h.a10
  · exact h.ap
  · exact h.s11
  · exact h.s12
theorem TI.put6 {X w : World} {z0 z1 q r : Int} {okb : Bool} {d : Nat → Bool} {vs : Nat → Value} {v : Value} (h : TI X z0 z1 q r okb d vs w) (h0 : d 9 = false) (hv : FR okb X.heap.size q v w) : TI X z0 z1 q r okb (upd d 9 true) (upd vs 9 v) w := by
  refine ⟨h.below, ?_, ?_, ?_, ?_, ?_, ?_, ?_, ?_, ?_, ?_, ?_, ?_⟩
  · exact h.c1
  · exact h.c3
  · exact h.t4
  · exact h.t5
  · exact fun _ => hv
  · exact h.e7
  · exact h.e8
  · intro e; obtain ⟨g, s, A, n, c, e1, hg, hk, hu⟩ := h.a9 e; exact ⟨g, s, A, n, c, e1, hg, hk, fun e2 => by have := (h.s11 e2).1; rw [h0] at this; cases this⟩
  · exact h.a10
  · exact h.ap
  · exact fun e => ⟨rfl, (h.s11 e).2⟩
  · exact h.s12
theorem TI.put7 {X w : World} {z0 z1 q r : Int} {okb : Bool} {d : Nat → Bool} {vs : Nat → Value} {v : Value} (h : TI X z0 z1 q r okb d vs w) (h0 : d 10 = false) (hv : FR okb X.heap.size r v w) : TI X z0 z1 q r okb (upd d 10 true) (upd vs 10 v) w := by
  refine ⟨h.below, ?_, ?_, ?_, ?_, ?_, ?_, ?_, ?_, ?_, ?_, ?_, ?_⟩
  · exact h.c1
  · exact h.c3
  · exact h.t4
  · exact h.t5
  · exact h.e6
  · exact fun _ => hv
  · exact h.e8
  · exact h.a9
  · intro e; obtain ⟨g, s, A, n, c, e1, hg, hk, hu⟩ := h.a10 e; exact ⟨g, s, A, n, c, e1, hg, hk, fun e2 => by have := (h.s12 e2).1; rw [h0] at this; cases this⟩
  · exact h.ap
  · exact h.s11
  · exact fun e => ⟨rfl, (h.s12 e).2⟩
theorem TI.put8 {X w : World} {z0 z1 q r : Int} {okb : Bool} {d : Nat → Bool} {vs : Nat → Value} {v : Value} (h : TI X z0 z1 q r okb d vs w) (h0 : d 11 = false) (hv : v = .bool okb) : TI X z0 z1 q r okb (upd d 11 true) (upd vs 11 v) w := by
  refine ⟨h.below, ?_, ?_, ?_, ?_, ?_, ?_, ?_, ?_, ?_, ?_, ?_, ?_⟩
  · exact h.c1
  · exact h.c3
  · exact h.t4
  · exact h.t5
  · exact h.e6
  · exact h.e7
  · exact fun _ => hv
  · exact h.a9
  · exact h.a10
  · exact h.ap
  · exact h.s11
  · exact h.s12
theorem TI.put9 {X w : World} {z0 z1 q r : Int} {okb : Bool} {d : Nat → Bool} {vs : Nat → Value} {v : Value} (h : TI X z0 z1 q r okb d vs w) (h0 : d 12 = false) (hv : PA X false v (vs 9) w) (hn : d 13 = true → v ≠ vs 13) : TI X z0 z1 q r okb (upd d 12 true) (upd vs 12 v) w := by
  refine ⟨h.below, ?_, ?_, ?_, ?_, ?_, ?_, ?_, ?_, ?_, ?_, ?_, ?_⟩
  · exact h.c1
  · exact h.c3
  · exact h.t4
  · exact h.t5
  · exact h.e6
  · exact h.e7
  · exact h.e8
  · intro _; obtain ⟨g, s, A, n, c, e1, hg, hk, hu⟩ := hv; exact ⟨g, s, A, n, c, e1, hg, hk, fun e2 => by have := (h.s11 e2).2; rw [h0] at this; cases this⟩
  · exact h.a10
  · exact fun _ e => hn e
  · exact fun e => ⟨(h.s11 e).1, rfl⟩
  · exact h.s12
theorem TI.put10 {X w : World} {z0 z1 q r : Int} {okb : Bool} {d : Nat → Bool} {vs : Nat → Value} {v : Value} (h : TI X z0 z1 q r okb d vs w) (h0 : d 13 = false) (hv : PA X false v (vs 10) w) (hn : d 12 = true → vs 12 ≠ v) : TI X z0 z1 q r okb (upd d 13 true) (upd vs 13 v) w := by
  refine ⟨h.below, ?_, ?_, ?_, ?_, ?_, ?_, ?_, ?_, ?_, ?_, ?_, ?_⟩
  · exact h.c1
  · exact h.c3
  · exact h.t4
  · exact h.t5
  · exact h.e6
  · exact h.e7
  · exact h.e8
  · exact h.a9
  · intro _; obtain ⟨g, s, A, n, c, e1, hg, hk, hu⟩ := hv; exact ⟨g, s, A, n, c, e1, hg, hk, fun e2 => by have := (h.s12 e2).2; rw [h0] at this; cases this⟩
  · exact fun e _ => hn e
  · exact h.s11
  · exact fun e => ⟨(h.s12 e).1, rfl⟩
theorem TI.sto11 {X w : World} {z0 z1 q r : Int} {okb : Bool} {d : Nat → Bool} {vs : Nat → Value} {v : Value} {g : Nat} {s s' : Bool} {A A' : Option Addr} {n c n' c' : Nat} (h : TI X z0 z1 q r okb d vs w) (h9 : d 12 = true) (h6 : d 9 = true) (hg : vs 12 = .pointer (some ⟨g, 0, none⟩)) (hge : X.heap.size ≤ g) (hk : Blk w g 37 #[.bool s, .slice A n c]) (hv : vs 9 = .agg #[.bool s', .slice A' n' c']) : TI X z0 z1 q r okb (upd d 14 true) (upd vs 14 v) (w.setRow g #[.bool s', .slice A' n' c']) := by
  have hb : Below X.heap.size X (w.setRow g #[.bool s', .slice A' n' c']) := h.below.grown (grown_row _ _ _) h.below.size (fun j hj => by injection hj with hj; omega)
  refine ⟨hb, ?_, ?_, ?_, ?_, ?_, ?_, ?_, ?_, ?_, ?_, ?_, ?_⟩
  · exact fun e => (h.c1 e).row hk _
  · exact fun e => (h.c3 e).row hk _
  · exact fun e => (h.t4 e).row hk _
  · exact fun e => (h.t5 e).row hk _
  · exact fun e => (h.e6 e).row hk _
  · exact fun e => (h.e7 e).row hk _
  · exact h.e8
  · exact fun _ => ⟨g, s', A', n', c', hg, hge, hk.setRow, fun _ => hv⟩
  · exact fun e => (h.a10 e).other (fun x => h.ap h9 e (hg.trans x.symm)) _
  · exact h.ap
  · exact fun _ => ⟨h6, h9⟩
  · exact h.s12
theorem TI.sto12 {X w : World} {z0 z1 q r : Int} {okb : Bool} {d : Nat → Bool} {vs : Nat → Value} {v : Value} {g : Nat} {s s' : Bool} {A A' : Option Addr} {n c n' c' : Nat} (h : TI X z0 z1 q r okb d vs w) (h9 : d 13 = true) (h6 : d 10 = true) (hg : vs 13 = .pointer (some ⟨g, 0, none⟩)) (hge : X.heap.size ≤ g) (hk : Blk w g 37 #[.bool s, .slice A n c]) (hv : vs 10 = .agg #[.bool s', .slice A' n' c']) : TI X z0 z1 q r okb (upd d 15 true) (upd vs 15 v) (w.setRow g #[.bool s', .slice A' n' c']) := by
  have hb : Below X.heap.size X (w.setRow g #[.bool s', .slice A' n' c']) := h.below.grown (grown_row _ _ _) h.below.size (fun j hj => by injection hj with hj; omega)
  refine ⟨hb, ?_, ?_, ?_, ?_, ?_, ?_, ?_, ?_, ?_, ?_, ?_, ?_⟩
  · exact fun e => (h.c1 e).row hk _
  · exact fun e => (h.c3 e).row hk _
  · exact fun e => (h.t4 e).row hk _
  · exact fun e => (h.t5 e).row hk _
  · exact fun e => (h.e6 e).row hk _
  · exact fun e => (h.e7 e).row hk _
  · exact h.e8
  · exact fun e => (h.a9 e).other (fun x => h.ap e h9 (x.trans hg.symm)) _
  · exact fun _ => ⟨g, s', A', n', c', hg, hge, hk.setRow, fun _ => hv⟩
  · exact h.ap
  · exact h.s11
  · exact fun _ => ⟨h6, h9⟩
end Go.Proofs.Ythfolccofjaknaa
