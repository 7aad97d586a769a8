/- Opening a version. -/
import Derived.Test.YthhpilkhcomhbaaDoorSfr
import Derived.Deep.Matrix
namespace Go.Proofs.YthhpilkhcomhbaaDoor
open Go.ChangeShapes Go.WideShapes Go.ChangeAt Go.RowKit Go.ChangeMaps

theorem u8_bdx {n : Int} (h : (Lit.int .u8 n).wf = true) : 0 ≤ n ∧ n ≤ 255 := by
  have h1 : IntKind.u8.min = 0 := rfl
  have h2 : IntKind.u8.max = 255 := rfl
  simp only [Lit.wf, Bool.and_eq_true, decide_eq_true_eq, h1, h2] at h
  exact h
theorem u32_bdx {n : Int} (h : (Lit.int .u32 n).wf = true) : 0 ≤ n ∧ n ≤ 4294967295 := by
  have h1 : IntKind.u32.min = 0 := rfl
  have h2 : IntKind.u32.max = 4294967295 := rfl
  simp only [Lit.wf, Bool.and_eq_true, decide_eq_true_eq, h1, h2] at h
  exact h
open Go.Deep Go.WideElems in
theorem bytes_trod {H : Type} {enc : TypeId × Value → H} {W : World} {v : Value} {fuel : Nat} {y : DataW H × List MemPlace} (h : DataW.trod enc Tryd.prog W 0 (fun _ => true) true fuel 36 [v] = some y) (hlt : ∀ x ∈ y.2, x.block < W.heap.size) :
    ∃ (A : Option Addr) (n c : Nat) (l : List UInt8), v = .slice A n c ∧ BytesAt W A n l ∧ n ≤ c ∧ c ≤ 9223372036854775807 := by
  rcases open_ints Tryd.underlying36 Tryd.underlying5 Tryd.cells5 h with ⟨hcs, hx⟩ | ⟨a, len, cap, zs, hcs, _, hl, hm, hz, hx, hcell, hwz⟩
  · obtain rfl : v = .slice none 0 0 := by simpa using hcs
    exact ⟨_, _, _, [], rfl, ⟨rfl, fun h => absurd h (by omega)⟩, by omega, by omega⟩
  · obtain rfl : v = .slice (some a) len cap := by simpa using hcs
    simp only [if_true] at hz
    subst hx
    unfold maxLen at hm
    refine ⟨_, _, _, (zs.take len).map u8, rfl, ⟨by rw [List.length_map, List.length_take]; omega, fun hn => ?_⟩, hl, by omega⟩
    obtain ⟨b, off, spot⟩ := a
    have hspot : spot = none := by simpa [Addr.add] using World.cell?_spot (hcell 0 (by omega))
    subst hspot
    refine ⟨b, off, rfl, hlt (.cell b off) (MemPlace.mem_row.2 ⟨0, by omega, by simp⟩), fun i hi => ?_⟩
    have hi2 : i < zs.length := by rw [List.length_map, List.length_take] at hi; omega
    have := hcell i hi2
    rw [add_plain] at this
    rw [this]
    obtain ⟨g0, g1⟩ := u8_bd (hwz zs[i] (List.getElem_mem _))
    simp only [List.getElem_map, List.getElem_take, u8_toNat _ g0 (by omega)]
    simp [List.getD, List.getElem?_eq_getElem hi2]
theorem open_arr3 {H : Type} {enc : TypeId × Value → H} {w : World} {base : Nat} {spare : Nat → Bool} {held : Bool} {r : Reach} {b0 : Nat} {v : Value} {d : DataW H} {p : List MemPlace} (hv : Value.okWide Tryd.prog w r b0 56 v) (h : DataW.Trod enc Tryd.prog w base spare held 56 v d p) :
    ∃ x0 x1 x2 : Int, v = .agg #[.int .u8 x0, .int .u8 x1, .int .u8 x2] ∧ (0 ≤ x0 ∧ x0 ≤ 255) ∧ (0 ≤ x1 ∧ x1 ≤ 255) ∧ (0 ≤ x2 ∧ x2 ≤ 255) := by
  have hC : Tryd.prog.cellsOf 56 = 3 := by kernel_rfl
  simp only [Value.okWide, Tryd.underlying56] at hv
  obtain ⟨cs, rfl, hsz, _⟩ := hv
  rw [hC] at hsz
  obtain ⟨fuel, hf⟩ := h
  obtain ⟨xs, m, _, _, hl, hlen, hg⟩ := DataW.trod_array Tryd.underlying56 hf
  have key : ∀ i, i < 3 → ∃ x : Int, cs[i]? = some (.int .u8 x) ∧ 0 ≤ x ∧ x ≤ 255 := by
    intro i hi
    have h1 := hg i hi
    rw [Tryd.cells5, Nat.mul_one] at h1
    have hx : xs[i]? = some (xs[i]'(by omega)) := List.getElem?_eq_getElem (by omega)
    have hcl : i < cs.toList.length := by simpa using (show i < cs.size by omega)
    have hone : ((Value.agg cs).cells.toList.drop i).take 1 = [cs.toList[i]] := by
      show (cs.toList.drop i).take 1 = _
      rw [List.drop_eq_getElem_cons hcl]; rfl
    rw [hone, hx] at h1
    obtain ⟨a, e, _, wf⟩ := DataW.trod_int Tryd.underlying5 h1
    obtain ⟨b1, b2⟩ := u8_bdx wf
    refine ⟨a, ?_, b1, b2⟩
    have e2 : cs.toList[i] = .int .u8 a := by simpa using e
    rw [← e2]
    simp
  obtain ⟨x0, e0, b0⟩ := key 0 (by omega)
  obtain ⟨x1, e1, b1⟩ := key 1 (by omega)
  obtain ⟨x2, e2, b2⟩ := key 2 (by omega)
  refine ⟨x0, x1, x2, ?_, b0, b1, b2⟩
  clear hg hlen hl hf key
  rcases cs with ⟨l⟩
  have hsz : l.length = 3 := hsz
  match l, hsz with
  | [u0, u1, u2], _ =>
    simp at e0 e1 e2
    rw [e0, e1, e2]
theorem Tryd.cells49 : Tryd.prog.cellsOf 49 = 3 := by kernel_rfl
open Go.Deep Go.WideElems in
set_option maxRecDepth 100000 in
theorem open_Ver {H : Type} {enc : TypeId × Value → H} {W : World} {r : Reach} {b0 : Nat} {v : Value} {d : DataW H} {p : List MemPlace}
    (hv : Value.okWide Tryd.prog W r b0 49 v) (h : DataW.Trod enc Tryd.prog W 0 (fun _ => true) true 49 v d p) (hlt : ∀ x ∈ p, x.block < W.heap.size) :
    ∃ (x0 : Int) (x1 : Int) (A2 : Option Addr) (n2 c2 : Nat) (l2 : List UInt8), v = .agg #[.int .u8 x0, .int .u32 x1, .slice A2 n2 c2] ∧ (0 ≤ x0 ∧ x0 ≤ 255) ∧ (0 ≤ x1 ∧ x1 ≤ 4294967295) ∧ (BytesAt W A2 n2 l2 ∧ n2 ≤ c2 ∧ c2 ≤ 9223372036854775807) := by
  obtain ⟨cs, rfl, hsz⟩ := okWide_struct Tryd.underlying49 hv
  rw [Tryd.cells49] at hsz
  obtain ⟨fuel, hf⟩ := h
  obtain ⟨ys, n', hn', hy, hlen, hyl, hg⟩ := DataW.trod_struct Tryd.underlying49 hf
  simp only [Prod.mk.injEq] at hy
  obtain ⟨-, hp⟩ := hy
  rcases cs with ⟨l⟩
  have hl4 : l.length = 3 := by simpa using hsz
  have key : ∀ (j : Nat) (f : Field) (u : Value), (match Tryd.prog.underlying 49 with | some (.struct fs) => fs[j]? | _ => none) = some f → l[j]? = some u → ∃ y, DataW.trod enc Tryd.prog W 0 (fun _ => true) true n' f.type [u] = some y ∧ ∀ x ∈ y.2, x.block < W.heap.size := by
    intro j f u hj hu
    rw [Tryd.underlying49] at hj
    obtain ⟨ho, hk⟩ := hone_of (P := Tryd.prog) (by kernel_rfl) j f hj
    have h1 := hg j f hj
    rw [ho, hk] at h1
    have hjl : j < l.length := (List.getElem?_eq_some_iff.1 hu).1
    have hys : ys[j]? = some (ys[j]'(by rw [hyl]; have := (Array.getElem?_eq_some_iff.1 hj).1; simpa using this)) := List.getElem?_eq_getElem _
    have hone' : ((Value.cells (.agg ⟨l⟩)).toList.drop j).take 1 = [u] := by
      show (l.drop j).take 1 = [u]
      rw [List.drop_eq_getElem_cons hjl]
      have := (List.getElem?_eq_some_iff.1 hu).2
      simp [this]
    rw [hone'] at h1
    refine ⟨_, h1.trans hys, fun x hx => hlt x ?_⟩
    rw [hp]
    exact List.mem_flatMap.2 ⟨_, List.getElem_mem _, hx⟩
  match l, hl4 with
  | [u0, u1, u2], _ =>
    obtain ⟨y0, t0, hl0⟩ := key 0 _ u0 (by rw [Tryd.underlying49]; rfl) rfl
    obtain ⟨y1, t1, hl1⟩ := key 1 _ u1 (by rw [Tryd.underlying49]; rfl) rfl
    obtain ⟨y2, t2, hl2⟩ := key 2 _ u2 (by rw [Tryd.underlying49]; rfl) rfl
    obtain ⟨x0, g0, _, w0⟩ := DataW.trod_int Tryd.underlying5 t0
    obtain rfl : u0 = .int .u8 x0 := by simpa using g0
    obtain ⟨x1, g1, _, w1⟩ := DataW.trod_int Tryd.underlying35 t1
    obtain rfl : u1 = .int .u32 x1 := by simpa using g1
    obtain ⟨A2, n2, c2, l2, rfl, b2, k2, m2⟩ := bytes_trod t2 hl2
    exact ⟨x0, x1, A2, n2, c2, l2, rfl, u8_bdx w0, u32_bdx w1, ⟨b2, k2, m2⟩⟩
end Go.Proofs.YthhpilkhcomhbaaDoor
