/- Integers, inequalities, uses and steps in memory. -/
import Derived.Test.YthfolccofjaknaaBrs
import Derived.Test.YthfolccofjaknaaBrv
import Derived.Test.YthfolccofjaknaaCmo
import Derived.Test.YthfolccofjaknaaMA
namespace Go.Proofs.Ythfolccofjaknaa
open Go.ChangeShapes Go.WideShapes Go.ChangeAt Go.RowKit Go.ChangeMaps

structure Bg where
  neg : Bool
  A : Option Addr
  n : Nat
  c : Nat
  z : Int
def Bg.val (b : Bg) : Value := .agg #[.bool b.neg, .slice b.A b.n b.c]
def Bg.cells (b : Bg) : List Value := [.bool b.neg, .slice b.A b.n b.c]
def Bg.ok (w : World) (N : Nat) (b : Bg) : Prop := BG w b.val b.z N
def Bg.zero : Bg := ⟨false, none, 0, 0, 0⟩
theorem Bg.ok.below {w w' : World} {N : Nat} {b : Bg} (h : b.ok w N) (hb : Below w.heap.size w w') : b.ok w' N := BG.below h hb
theorem BG.mono {w : World} {v : Value} {z : Int} {N N' : Nat} (h : BG w v z N) (hN : N ≤ N') : BG w v z N' := by
  obtain ⟨neg, A, n, c, D, e, h1, h2, h3, h4⟩ := h
  exact ⟨neg, A, n, c, D, e, h1, h2, Nat.le_trans h3 hN, h4⟩
theorem NB.toBg {w : World} {base N : Nat} {v : Value} {z : Int} (h : NB w base v z N) : ∃ b : Bg, v = b.val ∧ b.z = z ∧ b.ok w N := by
  have hg := h.bg
  obtain ⟨neg, A, n, c, D, e, h1, h2, h3, h4⟩ := hg
  exact ⟨⟨neg, A, n, c, z⟩, e, rfl, neg, A, n, c, D, rfl, h1, h2, h3, h4⟩
/-- A normal integer has no more digits than its size asks. -/
theorem NB.tight {w : World} {base N : Nat} {v : Value} {z : Int} (h : NB w base v z N) {K : Nat} (hz : z.natAbs < 4294967296 ^ K) : NB w base v z K := by
  obtain ⟨A, n, c, D, e, ho, hs, hn, hv, hN⟩ := h
  refine ⟨A, n, c, D, e, ho, hs, hn, hv, ?_⟩
  by_cases h0 : 0 < n
  · have h1 := nmz_low (B := 4294967296) (by decide) D hn (by rw [ho.1]; exact h0)
    rw [hv, ho.1] at h1
    have h2 : 4294967296 ^ (n - 1) < 4294967296 ^ K := Nat.lt_of_le_of_lt h1 hz
    have := (Nat.pow_lt_pow_iff_right (a := 4294967296) (by decide)).1 h2
    omega
  · omega
def Bigs (w : World) (A : Option Addr) (n : Nat) (L : List Bg) (N : Nat) : Prop := At w A n 2 (L.flatMap Bg.cells) ∧ n ≤ 9223372036854775807 ∧ ∀ b ∈ L, b.ok w N
theorem Bigs.len {w : World} {A : Option Addr} {n : Nat} {L : List Bg} {N : Nat} (h : Bigs w A n L N) : L.length = n := by
  have := h.1.1
  rw [flat_len Bg.cells 2 (fun _ => rfl)] at this
  omega
theorem Bigs.below {w w' : World} {A : Option Addr} {n : Nat} {L : List Bg} {N : Nat} (h : Bigs w A n L N) (hb : Below w.heap.size w w') : Bigs w' A n L N := ⟨At.below h.1 hb, h.2.1, fun b hB => (h.2.2 b hB).below hb⟩
theorem Bigs.at {w : World} {A : Option Addr} {n : Nat} {L : List Bg} {N : Nat} (h : Bigs w A n L N) (hn : 0 < n) : ∃ b off, A = some ⟨b, off, none⟩ ∧ b < w.heap.size ∧ ∀ (W : World), Below w.heap.size w W → ∀ i (hi : i < L.length),
    W.cell? ⟨b, off + i * 2, none⟩ = some (.bool L[i].neg) ∧ W.cell? ⟨b, off + i * 2 + 1, none⟩ = some (.slice L[i].A L[i].n L[i].c) := by
  obtain ⟨b, off, e, hb, hc⟩ := h.1.2 hn
  refine ⟨b, off, e, hb, fun W hW i hi => ?_⟩
  have g : ∀ j u, j < 2 → (Bg.cells L[i])[j]? = some u → W.cell? ⟨b, off + i * 2 + j, none⟩ = some u := fun j u hj hu => by
    rw [Nat.add_assoc]
    exact keepcell hW (hc _ _ ((flat_get Bg.cells 2 (fun _ => rfl) L i j hi hj).trans hu))
  exact ⟨g 0 _ (by decide) rfl, g 1 _ (by decide) rfl⟩
structure Iq where
  A : Option Addr
  n : Nat
  c : Nat
  L : List Bg
  b : Bg
def Iq.cells (q : Iq) : List Value := [.slice q.A q.n q.c, .bool q.b.neg, .slice q.b.A q.b.n q.b.c]
def Iq.val (q : Iq) : Value := .agg #[.slice q.A q.n q.c, .bool q.b.neg, .slice q.b.A q.b.n q.b.c]
def Iq.ok (w : World) (N : Nat) (q : Iq) : Prop := Bigs w q.A q.n q.L N ∧ q.b.ok w N
def Iq.m (q : Iq) : QI := (q.L.map Bg.z, q.b.z)
theorem Iq.ok.below {w w' : World} {N : Nat} {q : Iq} (h : q.ok w N) (hb : Below w.heap.size w w') : q.ok w' N := ⟨h.1.below hb, h.2.below hb⟩
def Ineqs (w : World) (A : Option Addr) (n : Nat) (Q : List Iq) (N : Nat) : Prop := At w A n 3 (Q.flatMap Iq.cells) ∧ n ≤ 9223372036854775807 ∧ ∀ q ∈ Q, q.ok w N
theorem Ineqs.len {w : World} {A : Option Addr} {n : Nat} {Q : List Iq} {N : Nat} (h : Ineqs w A n Q N) : Q.length = n := by
  have := h.1.1
  rw [flat_len Iq.cells 3 (fun _ => rfl)] at this
  omega
theorem Ineqs.below {w w' : World} {A : Option Addr} {n : Nat} {Q : List Iq} {N : Nat} (h : Ineqs w A n Q N) (hb : Below w.heap.size w w') : Ineqs w' A n Q N := ⟨At.below h.1 hb, h.2.1, fun b hB => (h.2.2 b hB).below hb⟩
theorem at3 {α : Type} {w : World} {A : Option Addr} {n : Nat} {f : α → List Value} (hf : ∀ a, (f a).length = 3) {Q : List α} (h : At w A n 3 (Q.flatMap f)) (hn : 0 < n) : ∃ b off, A = some ⟨b, off, none⟩ ∧ b < w.heap.size ∧ ∀ (W : World), Below w.heap.size w W → ∀ i (hi : i < Q.length) (x y z : Value), f Q[i] = [x, y, z] →
    W.cell? ⟨b, off + i * 3, none⟩ = some x ∧ W.cell? ⟨b, off + i * 3 + 1, none⟩ = some y ∧ W.cell? ⟨b, off + i * 3 + 2, none⟩ = some z := by
  obtain ⟨b, off, e, hb, hc⟩ := h.2 hn
  refine ⟨b, off, e, hb, fun W hW i hi x y z hq => ?_⟩
  have g : ∀ j u, j < 3 → (f Q[i])[j]? = some u → W.cell? ⟨b, off + i * 3 + j, none⟩ = some u := fun j u hj hu => by
    rw [Nat.add_assoc]
    exact keepcell hW (hc _ _ ((flat_get f 3 hf Q i j hi hj).trans hu))
  rw [hq] at g
  exact ⟨g 0 _ (by decide) rfl, g 1 _ (by decide) rfl, g 2 _ (by decide) rfl⟩
structure Us where
  i : Int
  b : Bg
def Us.cells (u : Us) : List Value := [.int .i64 u.i, .bool u.b.neg, .slice u.b.A u.b.n u.b.c]
def Us.val (u : Us) : Value := .agg #[.int .i64 u.i, .bool u.b.neg, .slice u.b.A u.b.n u.b.c]
def Us.m (u : Us) : Int × Int := (u.i, u.b.z)
def Uses (w : World) (A : Option Addr) (n : Nat) (U : List Us) (N : Nat) : Prop := At w A n 3 (U.flatMap Us.cells) ∧ n ≤ 9223372036854775807 ∧ ∀ u ∈ U, u.b.ok w N
theorem Uses.len {w : World} {A : Option Addr} {n : Nat} {U : List Us} {N : Nat} (h : Uses w A n U N) : U.length = n := by
  have := h.1.1
  rw [flat_len Us.cells 3 (fun _ => rfl)] at this
  omega
theorem Uses.below {w w' : World} {A : Option Addr} {n : Nat} {U : List Us} {N : Nat} (h : Uses w A n U N) (hb : Below w.heap.size w w') : Uses w' A n U N := ⟨At.below h.1 hb, h.2.1, fun b hB => (h.2.2 b hB).below hb⟩
structure Sp where
  A : Option Addr
  n : Nat
  c : Nat
  U : List Us
  d : Bg
def Sp.cells (s : Sp) : List Value := [.slice s.A s.n s.c, .bool s.d.neg, .slice s.d.A s.d.n s.d.c]
def Sp.val (s : Sp) : Value := .agg #[.slice s.A s.n s.c, .bool s.d.neg, .slice s.d.A s.d.n s.d.c]
def Sp.ok (w : World) (N : Nat) (s : Sp) : Prop := Uses w s.A s.n s.U N ∧ s.d.ok w N
def Sp.m (s : Sp) : List (Int × Int) × Int := (s.U.map Us.m, s.d.z)
theorem Sp.ok.below {w w' : World} {N : Nat} {s : Sp} (h : s.ok w N) (hb : Below w.heap.size w w') : s.ok w' N := ⟨h.1.below hb, h.2.below hb⟩
/-- A proof as it lies in memory. -/
inductive Pf
  | mk (sA : Option Addr) (sn sc : Nat) (S : List Sp) (fA : Option Addr) (fn fc : Nat) (F : List Bg) (b : Bg) (kA : Option Addr) (kn kc : Nat) (K : List Pf)
def Pf.cells : Pf → List Value
  | .mk sA sn sc _ fA fn fc _ b kA kn kc _ => [.slice sA sn sc, .slice fA fn fc, .bool b.neg, .slice b.A b.n b.c, .slice kA kn kc]
def Pf.val (p : Pf) : Value := .agg p.cells.toArray
theorem Pf.cells_len (p : Pf) : p.cells.length = 5 := by cases p; rfl
inductive Pf.ok (w : World) (N : Nat) : Pf → Prop
  | mk {sA sn sc S fA fn fc F b kA kn kc K} (h1 : At w sA sn 3 (S.flatMap Sp.cells)) (h2 : ∀ s ∈ S, s.ok w N) (h3 : Bigs w fA fn F N) (h4 : b.ok w N) (h5 : At w kA kn 5 (K.flatMap Pf.cells)) (h7 : sn ≤ 9223372036854775807 ∧ kn ≤ 9223372036854775807 ∧ fn ≤ 1000000 ∧ ∀ s ∈ S, s.n < 4294967296) (h6 : ∀ k ∈ K, Pf.ok w N k) : Pf.ok w N (.mk sA sn sc S fA fn fc F b kA kn kc K)
theorem Pf.ok.keep {w w' : World} {N : Nat} (hb : Below w.heap.size w w') {p : Pf} (h : p.ok w N) : p.ok w' N := by
  induction h with
  | mk h1 h2 h3 h4 h5 h7 h6 ih => exact .mk (At.below h1 hb) (fun s hs => (h2 s hs).below hb) (h3.below hb) (h4.below hb) (At.below h5 hb) h7 ih
def Pf.m : Pf → PT
  | .mk _ _ _ S _ _ _ F b _ _ _ K => .mk (S.map Sp.m) (F.map Bg.z) b.z (K.attach.map fun k => Pf.m k.1)
decreasing_by
  have := List.sizeOf_lt_of_mem k.2
  simp only [Pf.mk.sizeOf_spec]
  omega
theorem Pf.m_eq (sA : Option Addr) (sn sc : Nat) (S : List Sp) (fA : Option Addr) (fn fc : Nat) (F : List Bg) (b : Bg) (kA : Option Addr) (kn kc : Nat) (K : List Pf) : (Pf.mk sA sn sc S fA fn fc F b kA kn kc K).m = .mk (S.map Sp.m) (F.map Bg.z) b.z (K.map Pf.m) := by
  rw [Pf.m]
  congr 1
  rw [List.map_attach_eq_pmap]
  simp
theorem at5 {α : Type} {w : World} {A : Option Addr} {n : Nat} {f : α → List Value} (hf : ∀ a, (f a).length = 5) {Q : List α} (h : At w A n 5 (Q.flatMap f)) (hn : 0 < n) : ∃ b off, A = some ⟨b, off, none⟩ ∧ b < w.heap.size ∧ ∀ (W : World), Below w.heap.size w W → ∀ i (hi : i < Q.length) (x0 x1 x2 x3 x4 : Value), f Q[i] = [x0, x1, x2, x3, x4] →
    W.cell? ⟨b, off + i * 5, none⟩ = some x0 ∧ W.cell? ⟨b, off + i * 5 + 1, none⟩ = some x1 ∧ W.cell? ⟨b, off + i * 5 + 2, none⟩ = some x2 ∧ W.cell? ⟨b, off + i * 5 + 3, none⟩ = some x3 ∧ W.cell? ⟨b, off + i * 5 + 4, none⟩ = some x4 := by
  obtain ⟨b, off, e, hb, hc⟩ := h.2 hn
  refine ⟨b, off, e, hb, fun W hW i hi x0 x1 x2 x3 x4 hq => ?_⟩
  have g : ∀ j u, j < 5 → (f Q[i])[j]? = some u → W.cell? ⟨b, off + i * 5 + j, none⟩ = some u := fun j u hj hu => by
    rw [Nat.add_assoc]
    exact keepcell hW (hc _ _ ((flat_get f 5 hf Q i j hi hj).trans hu))
  rw [hq] at g
  exact ⟨g 0 _ (by decide) rfl, g 1 _ (by decide) rfl, g 2 _ (by decide) rfl, g 3 _ (by decide) rfl, g 4 _ (by decide) rfl⟩
theorem kids_len {w : World} {A : Option Addr} {n : Nat} {K : List Pf} (h : At w A n 5 (K.flatMap Pf.cells)) : K.length = n := by
  have := h.1
  rw [flat_len Pf.cells 5 Pf.cells_len] at this
  omega
end Go.Proofs.Ythfolccofjaknaa
