/- A constraint, constraints and small numbers opened. -/
import Derived.Test.YthfolccofjaknaaCop
import Derived.Test.YthfolccofjaknaaCcn
namespace Go.Proofs.Ythfolccofjaknaa
open Go.ChangeShapes Go.WideShapes Go.ChangeAt Go.RowKit Go.ChangeMaps

def xc (a : Int) : List Value := [.int .i16 a]
def i16b (z : Int) : Prop := -32768 ≤ z ∧ z ≤ 32767
theorem i16_bdx {n : Int} (h : (Lit.int .i16 n).wf = true) : -32768 ≤ n ∧ n ≤ 32767 := by
  have h1 : IntKind.i16.min = -32768 := rfl
  have h2 : IntKind.i16.max = 32767 := rfl
  simp only [Lit.wf, Bool.and_eq_true, decide_eq_true_eq, h1, h2] at h
  exact h
theorem Try.cells71 : Try.prog.cellsOf 71 = 2 := by kernel_rfl
theorem Try.cells73 : Try.prog.cellsOf 73 = 1 := by kernel_rfl
theorem Try.cells26 : Try.prog.cellsOf 26 = 2 := by kernel_rfl
theorem Try.cells28 : Try.prog.cellsOf 28 = 3 := by kernel_rfl
theorem Try.cells24 : Try.prog.cellsOf 24 = 1 := by kernel_rfl
open Go.Deep Go.WideElems in
theorem coef_trod {H : Type} {enc : TypeId × Value → H} {W : World} (fuel : Nat) (cs : List Value) (y : DataW H × List MemPlace) (h : DataW.trod enc Try.prog W 0 (fun _ => true) true fuel 71 cs = some y) (hlt : ∀ x ∈ y.2, x.block < W.heap.size) (hw : ∀ z ∈ DataW.weights Try.prog 71 y.1, z ≤ reachBytes) : ∃ p : Int × Int, cs = cfc p ∧ i64b p.1 ∧ i64b p.2 := by
  obtain ⟨n, hn, hlen, hg⟩ := struct_parts Try.underlying71 h hlt hw
  rw [Try.cells71] at hlen
  obtain ⟨y0, t0, _, _⟩ := hg 0 3 0 1 rfl Try.cells3
  obtain ⟨y1, t1, _, _⟩ := hg 1 2 1 1 rfl Try.cells2
  match cs, hlen with
  | [u0, u1], _ =>
    simp only [List.drop, List.take] at t0 t1
    obtain ⟨a, rfl, a0, a1⟩ := int_part Try.underlying3 t0
    obtain ⟨b, rfl, b0, b1⟩ := int_part Try.underlying2 t1
    exact ⟨(a, b), rfl, ⟨a0, a1⟩, ⟨b0, b1⟩⟩
open Go.Deep Go.WideElems in
set_option maxRecDepth 100000 in
theorem con_trod {H : Type} {enc : TypeId × Value → H} {W : World} (fuel : Nat) (cs : List Value) (y : DataW H × List MemPlace) (h : DataW.trod enc Try.prog W 0 (fun _ => true) true fuel 28 cs = some y) (hlt : ∀ x ∈ y.2, x.block < W.heap.size) (hw : ∀ z ∈ DataW.weights Try.prog 28 y.1, z ≤ reachBytes) : ∃ x : Ct, cs = x.cells ∧ x.ok W := by
  obtain ⟨n, hn, hlen, hg⟩ := struct_parts Try.underlying28 h hlt hw
  rw [Try.cells28] at hlen
  obtain ⟨y0, t0, l0, w0⟩ := hg 0 26 0 2 rfl Try.cells26
  obtain ⟨y1, t1, _, _⟩ := hg 1 4 2 1 rfl Try.cells4
  match cs, hlen with
  | [u0, u1, u2], _ =>
    simp only [List.drop, List.take] at t0 t1
    obtain ⟨n', hn', _, hg'⟩ := struct_parts Try.underlying26 t0 l0 w0
    obtain ⟨z0, s0, _, _⟩ := hg' 0 2 0 1 rfl Try.cells2
    obtain ⟨z1, s1, k1, x1⟩ := hg' 1 24 1 1 rfl Try.cells24
    simp only [List.drop, List.take] at s0 s1
    obtain ⟨k, rfl, hk0, hk1⟩ := int_part Try.underlying2 s0
    obtain ⟨A, m, c, R, rfl, h1, h2, h3, h4⟩ := rows_trod cfc (fun p => i64b p.1 ∧ i64b p.2) (by decide) (fun _ => rfl) Try.underlying24 Try.cells71 (0, 0) (fun n _ => coef_trod n) s1 k1 x1
    obtain ⟨e, he, _⟩ := DataW.trod_bool Try.underlying4 t1
    obtain rfl : u2 = .bool e := by simpa using he
    exact ⟨⟨k, A, m, c, R, e⟩, rfl, h1, Nat.le_trans h2 h3, ⟨hk0, hk1⟩, h4⟩
open Go.Deep Go.WideElems in
set_option maxRecDepth 100000 in
theorem open_con {H : Type} {enc : TypeId × Value → H} {W : World} {r : Reach} {b0 : Nat} {v : Value} {d : DataW H} {p : List MemPlace} {ts : List TypeId} {ds : List (DataW H)} {j : Nat}
    (hv : Value.okWide Try.prog W r b0 28 v) (h : DataW.Trod enc Try.prog W 0 (fun _ => true) true 28 v d p) (hlt : ∀ x ∈ p, x.block < W.heap.size)
    (hsz : (DataW.weightsEach Try.prog ts ds).all (· ≤ reachBytes) = true) (hts : ts[j]? = some 28) (hds : ds[j]? = some d) :
    ∃ x : Ct, v = x.val ∧ x.ok W := by
  have hw : ∀ z ∈ DataW.weights Try.prog 28 d, z ≤ reachBytes := fun z hz => by simpa using List.all_eq_true.1 hsz _ (DataW.weights_mem_each hts hds z hz)
  obtain ⟨cs, rfl, _⟩ := okWide_struct Try.underlying28 hv
  obtain ⟨fuel, hf⟩ := h
  obtain ⟨x, hx, hat⟩ := con_trod _ _ _ hf hlt hw
  refine ⟨x, ?_, hat⟩
  rcases cs with ⟨l⟩
  have : l = x.cells := hx
  subst this
  rfl
open Go.Deep Go.WideElems in
theorem i16s_trod {H : Type} {enc : TypeId × Value → H} {W : World} {fuel : Nat} {v : Value} {y : DataW H × List MemPlace} (h : DataW.trod enc Try.prog W 0 (fun _ => true) true fuel 68 [v] = some y) (hlt : ∀ x ∈ y.2, x.block < W.heap.size) (hw : ∀ z ∈ DataW.weights Try.prog 68 y.1, z ≤ reachBytes) : ∃ (A : Option Addr) (n c : Nat) (X : List Int), v = .slice A n c ∧ At W A n 1 (X.flatMap xc) ∧ n ≤ NM ∧ ∀ a ∈ X, i16b a := by
  obtain ⟨A, n, c, R, e, h1, h2, h3, h4⟩ := rows_trod xc i16b (by decide) (fun _ => rfl) Try.underlying68 Try.cells73 0 (fun n _ cs y h _ _ => by
    have hl : cs.length = 1 := by
      cases n with
      | zero => simp [DataW.trod] at h
      | succ n =>
        unfold DataW.trod at h
        rw [Try.underlying73] at h
        rcases cs with _ | ⟨u, _ | ⟨u', cs⟩⟩
        · simp at h
        · rfl
        · simp at h
    match cs, hl with
    | [u], _ =>
      obtain ⟨a, ha, _, wf⟩ := DataW.trod_int Try.underlying73 h
      obtain rfl : u = .int .i16 a := by simpa using ha
      exact ⟨a, rfl, i16_bdx wf⟩) h hlt hw
  exact ⟨A, n, c, R, e, h1, Nat.le_trans h2 h3, h4⟩
open Go.Deep Go.WideElems in
set_option maxRecDepth 100000 in
theorem open_i16s {H : Type} {enc : TypeId × Value → H} {W : World} {r : Reach} {b0 : Nat} {v : Value} {d : DataW H} {p : List MemPlace} {ts : List TypeId} {ds : List (DataW H)} {j : Nat}
    (hv : Value.okWide Try.prog W r b0 68 v) (h : DataW.Trod enc Try.prog W 0 (fun _ => true) true 68 v d p) (hlt : ∀ x ∈ p, x.block < W.heap.size)
    (hsz : (DataW.weightsEach Try.prog ts ds).all (· ≤ reachBytes) = true) (hts : ts[j]? = some 68) (hds : ds[j]? = some d) :
    ∃ (A : Option Addr) (n c : Nat) (X : List Int), v = .slice A n c ∧ At W A n 1 (X.flatMap xc) ∧ n ≤ NM ∧ ∀ a ∈ X, i16b a := by
  have hw : ∀ z ∈ DataW.weights Try.prog 68 d, z ≤ reachBytes := fun z hz => by simpa using List.all_eq_true.1 hsz _ (DataW.weights_mem_each hts hds z hz)
  obtain ⟨a0, len, cap, rfl⟩ := okWide_slice Try.underlying68 hv
  obtain ⟨fuel, hf⟩ := h
  exact i16s_trod (v := .slice a0 len cap) hf hlt hw
open Go.Deep Go.WideElems in
theorem cons_trod {H : Type} {enc : TypeId × Value → H} {W : World} {fuel : Nat} {v : Value} {y : DataW H × List MemPlace} (h : DataW.trod enc Try.prog W 0 (fun _ => true) true fuel 22 [v] = some y) (hlt : ∀ x ∈ y.2, x.block < W.heap.size) (hw : ∀ z ∈ DataW.weights Try.prog 22 y.1, z ≤ reachBytes) : ∃ (A : Option Addr) (n c : Nat) (Q : List Ct), v = .slice A n c ∧ At W A n 3 (Q.flatMap Ct.cells) ∧ n ≤ NM ∧ ∀ x ∈ Q, x.ok W := by
  obtain ⟨A, n, c, R, e, h1, h2, h3, h4⟩ := rows_trod Ct.cells (fun x => x.ok W) (by decide) (fun _ => rfl) Try.underlying22 Try.cells28 ⟨0, none, 0, 0, [], false⟩ (fun n _ => con_trod n) h hlt hw
  exact ⟨A, n, c, R, e, h1, Nat.le_trans h2 h3, h4⟩
open Go.Deep Go.WideElems in
set_option maxRecDepth 100000 in
theorem open_cons {H : Type} {enc : TypeId × Value → H} {W : World} {r : Reach} {b0 : Nat} {v : Value} {d : DataW H} {p : List MemPlace} {ts : List TypeId} {ds : List (DataW H)} {j : Nat}
    (hv : Value.okWide Try.prog W r b0 22 v) (h : DataW.Trod enc Try.prog W 0 (fun _ => true) true 22 v d p) (hlt : ∀ x ∈ p, x.block < W.heap.size)
    (hsz : (DataW.weightsEach Try.prog ts ds).all (· ≤ reachBytes) = true) (hts : ts[j]? = some 22) (hds : ds[j]? = some d) :
    ∃ (A : Option Addr) (n c : Nat) (Q : List Ct), v = .slice A n c ∧ At W A n 3 (Q.flatMap Ct.cells) ∧ n ≤ NM ∧ ∀ x ∈ Q, x.ok W := by
  have hw : ∀ z ∈ DataW.weights Try.prog 22 d, z ≤ reachBytes := fun z hz => by simpa using List.all_eq_true.1 hsz _ (DataW.weights_mem_each hts hds z hz)
  obtain ⟨a0, len, cap, rfl⟩ := okWide_slice Try.underlying22 hv
  obtain ⟨fuel, hf⟩ := h
  exact cons_trod (v := .slice a0 len cap) hf hlt hw
end Go.Proofs.Ythfolccofjaknaa
