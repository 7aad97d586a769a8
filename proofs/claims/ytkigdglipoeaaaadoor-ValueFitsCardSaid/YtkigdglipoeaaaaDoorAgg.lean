/- A struct of one-cell fields opened. -/
import Derived.Test.YtkigdglipoeaaaaDoorOpn
namespace Go.Proofs.YtkigdglipoeaaaaDoor
open Go.ChangeShapes Go.WideShapes Go.ChangeAt Go.RowKit Go.ChangeMaps

open Go.Deep Go.WideElems
theorem open_aggN {H : Type} {enc : TypeId × Value → H} {P : Program} {w : World} {base : Nat} {spare : Nat → Bool} {held : Bool} {r : Reach} {b0 : Nat} {t : TypeId} {fs : Array Field} {v : Value} {d : DataW H} {p : List MemPlace} (hs : P.underlying t = some (.struct fs)) (hone : oneCellFields P fs = true) (hC : P.cellsOf t = fs.size)
    (hv : Value.okWide P w r b0 t v) (h : DataW.Trod enc P w base spare held t v d p) :
    ∃ vs : Array Value, v = .agg vs ∧ vs.size = fs.size ∧ ∀ (i : Nat) (f : Field), fs[i]? = some f → ∃ vi y m, vs[i]? = some vi ∧ DataW.trod enc P w base spare held m f.type [vi] = some y := by
  obtain ⟨cs, rfl, hsz⟩ := okWide_struct hs hv
  obtain ⟨fuel, hf⟩ := h
  obtain ⟨xs, n, _, _, hl, hlen, hg⟩ := DataW.trod_struct hs hf
  refine ⟨cs, rfl, hsz.trans hC, fun i f hi => ?_⟩
  obtain ⟨o, k⟩ := hone_of hone i f hi
  have hlt : i < fs.size := (Array.getElem?_eq_some_iff.1 hi).1
  have hlc : i < cs.size := by rw [hsz, hC]; exact hlt
  have e := hg i f hi
  have hx : i < xs.length := by rw [hlen]; simpa using hlt
  rw [o, k] at e
  refine ⟨cs[i], xs[i], n, by simp [hlc], ?_⟩
  rw [List.getElem?_eq_getElem hx] at e
  rw [← e]
  congr 1
  rw [show Value.cells (.agg cs) = cs from rfl]
  rw [List.drop_eq_getElem_cons (by simpa using hlc)]
  simp

theorem Tryd.cells37 : Tryd.prog.cellsOf 37 = 5 := by kernel_rfl
set_option maxRecDepth 100000 in
theorem open_var {H : Type} {enc : TypeId × Value → H} {w : World} {base : Nat} {spare : Nat → Bool} {held : Bool} {r : Reach} {b0 : Nat} {v : Value} {d : DataW H} {p : List MemPlace} (hv : Value.okWide Tryd.prog w r b0 37 v) (h : DataW.Trod enc Tryd.prog w base spare held 37 v d p) :
    ∃ (t lo hi mx : Int) (nl : Bool), v = .agg #[.int .i64 t, .int .i64 lo, .int .i64 hi, .int .i64 mx, .bool nl] := by
  obtain ⟨vs, rfl, hn, hf⟩ := open_aggN Tryd.underlying37 (by kernel_rfl) Tryd.cells37 hv h
  obtain ⟨v0, y0, m0, e0, h0⟩ := hf 0 _ rfl
  obtain ⟨v1, y1, m1, e1, h1⟩ := hf 1 _ rfl
  obtain ⟨v2, y2, m2, e2, h2⟩ := hf 2 _ rfl
  obtain ⟨v3, y3, m3, e3, h3⟩ := hf 3 _ rfl
  obtain ⟨v4, y4, m4, e4, h4⟩ := hf 4 _ rfl
  obtain ⟨a0, q0, _, _⟩ := DataW.trod_int Tryd.underlying3 h0
  obtain ⟨a1, q1, _, _⟩ := DataW.trod_int Tryd.underlying2 h1
  obtain ⟨a2, q2, _, _⟩ := DataW.trod_int Tryd.underlying2 h2
  obtain ⟨a3, q3, _, _⟩ := DataW.trod_int Tryd.underlying3 h3
  obtain ⟨a4, q4, _⟩ := DataW.trod_bool Tryd.underlying4 h4
  obtain rfl : v0 = .int .i64 a0 := by simpa using q0
  obtain rfl : v1 = .int .i64 a1 := by simpa using q1
  obtain rfl : v2 = .int .i64 a2 := by simpa using q2
  obtain rfl : v3 = .int .i64 a3 := by simpa using q3
  obtain rfl : v4 = .bool a4 := by simpa using q4
  refine ⟨a0, a1, a2, a3, a4, ?_⟩
  have hn : vs.size = 5 := hn
  rcases vs with ⟨l⟩
  match l, hn with
  | [u0, u1, u2, u3, u4], _ =>
    simp at e0 e1 e2 e3 e4
    rw [e0, e1, e2, e3, e4]
end Go.Proofs.YtkigdglipoeaaaaDoor
