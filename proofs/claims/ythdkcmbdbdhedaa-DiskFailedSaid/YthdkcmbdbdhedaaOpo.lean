/- An operation that is handed in. -/
import Derived.Test.YthdkcmbdbdhedaaOpr
namespace Go.Proofs.Ythdkcmbdbdhedaa
open Go.ChangeShapes Go.WideShapes Go.ChangeAt Go.RowKit Go.ChangeMaps

open Go.Deep Go.WideElems
set_option maxRecDepth 100000 in
theorem open_Op {H : Type} {enc : TypeId × Value → H} {W : World} {r : Reach} {b0 : Nat} {v : Value} {d : DataW H} {p : List MemPlace}
    (hv : Value.okWide Try.prog W r b0 48 v) (h : DataW.Trod enc Try.prog W 0 (fun _ => true) true 48 v d p) (hlt : ∀ x ∈ p, x.block < W.heap.size) :
    ∃ x : OpM, v = .agg #[.int .i64 x.k, .int .i64 x.s, .int .i64 x.n, .slice x.A x.m x.c] ∧ BytesAt W x.A x.m x.d ∧ x.ok := by
  obtain ⟨cs, rfl, hsz⟩ := okWide_struct Try.underlying48 hv
  rw [Try.cells48] at hsz
  obtain ⟨fuel, hf⟩ := h
  obtain ⟨ys, n', hn', hy, hlen, hyl, hg⟩ := DataW.trod_struct Try.underlying48 hf
  simp only [Prod.mk.injEq] at hy
  obtain ⟨-, hp⟩ := hy
  rcases cs with ⟨l⟩
  have hl4 : l.length = 4 := by simpa using hsz
  have key : ∀ (j : Nat) (f : Field) (u : Value), (match Try.prog.underlying 48 with | some (.struct fs) => fs[j]? | _ => none) = some f → l[j]? = some u → ∃ y, DataW.trod enc Try.prog W 0 (fun _ => true) true n' f.type [u] = some y ∧ ∀ x ∈ y.2, x.block < W.heap.size := by
    intro j f u hj hu
    rw [Try.underlying48] at hj
    obtain ⟨ho, hk⟩ := hone_of (P := Try.prog) (by kernel_rfl) j f hj
    have h1 := hg j f hj
    rw [ho, hk] at h1
    have hjl : j < l.length := (List.getElem?_eq_some_iff.1 hu).1
    have hys : ys[j]? = some (ys[j]'(by rw [hyl]; have := (Array.getElem?_eq_some_iff.1 hj).1; simpa using this)) := List.getElem?_eq_getElem _
    have hone' : ((Value.cells (.agg ⟨l⟩)).toList.drop j).take 1 = [u] := by
      show (l.drop j).take 1 = [u]
      rw [List.drop_eq_getElem_cons hjl]
      have := (List.getElem?_eq_some_iff.1 hu).2
      simp [this]
    rw [hone'] at h1
    refine ⟨_, h1.trans hys, fun x hx => hlt x ?_⟩
    rw [hp]
    exact List.mem_flatMap.2 ⟨_, List.getElem_mem _, hx⟩
  match l, hl4 with
  | [u0, u1, u2, u3], _ =>
    obtain ⟨y0, t0, -⟩ := key 0 _ u0 (by rw [Try.underlying48]; rfl) rfl
    obtain ⟨y1, t1, -⟩ := key 1 _ u1 (by rw [Try.underlying48]; rfl) rfl
    obtain ⟨y2, t2, -⟩ := key 2 _ u2 (by rw [Try.underlying48]; rfl) rfl
    obtain ⟨y3, t3, hl3⟩ := key 3 _ u3 (by rw [Try.underlying48]; rfl) rfl
    obtain ⟨x0, g0, _, w0⟩ := DataW.trod_int Try.underlying3 t0
    obtain rfl : u0 = .int .i64 x0 := by simpa using g0
    obtain ⟨x1, g1, _, w1⟩ := DataW.trod_int Try.underlying3 t1
    obtain rfl : u1 = .int .i64 x1 := by simpa using g1
    obtain ⟨x2, g2, _, w2⟩ := DataW.trod_int Try.underlying3 t2
    obtain rfl : u2 = .int .i64 x2 := by simpa using g2
    obtain ⟨A, n, c, l, rfl, hB, h1, h2⟩ := bytes_trod t3 hl3
    exact ⟨⟨x0, x1, x2, A, n, c, l⟩, rfl, hB, (i64_bd w1).2, h1, h2, (i64_bd w1).1⟩
end Go.Proofs.Ythdkcmbdbdhedaa
