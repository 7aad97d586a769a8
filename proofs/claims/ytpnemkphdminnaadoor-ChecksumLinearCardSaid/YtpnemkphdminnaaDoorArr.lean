/- An array of eight bytes, opened. -/
import Derived.Test.YtpnemkphdminnaaDoorByt
import Derived.OpenShut
namespace Go.Proofs.YtpnemkphdminnaaDoor
open Go.ChangeShapes Go.WideShapes Go.ChangeAt Go.RowKit Go.ChangeMaps

theorem u16_bd {n : Int} (h : (Lit.int .u16 n).wf = true) : 0 ≤ n ∧ n ≤ 65535 := by
  have h1 : IntKind.u16.min = 0 := rfl
  have h2 : IntKind.u16.max = 65535 := rfl
  simp only [Lit.wf, Bool.and_eq_true, decide_eq_true_eq, h1, h2] at h
  exact h
theorem open_arr8 {H : Type} {enc : TypeId × Value → H} {w : World} {base : Nat} {spare : Nat → Bool} {held : Bool} {r : Reach} {b0 : Nat} {v : Value} {d : DataW H} {p : List MemPlace} (hv : Value.okWide Tryd.prog w r b0 36 v) (h : DataW.Trod enc Tryd.prog w base spare held 36 v d p) :
    ∃ x0 x1 x2 x3 x4 x5 x6 x7 : UInt8, v = .agg #[.int .u8 (x0.toNat : Int), .int .u8 (x1.toNat : Int), .int .u8 (x2.toNat : Int), .int .u8 (x3.toNat : Int), .int .u8 (x4.toNat : Int), .int .u8 (x5.toNat : Int), .int .u8 (x6.toNat : Int), .int .u8 (x7.toNat : Int)] := by
  have hC : Tryd.prog.cellsOf 36 = 8 := by kernel_rfl
  simp only [Value.okWide, Tryd.underlying36] at hv
  obtain ⟨cs, rfl, hsz, _⟩ := hv
  rw [hC] at hsz
  obtain ⟨fuel, hf⟩ := h
  obtain ⟨xs, m, _, _, hl, hlen, hg⟩ := DataW.trod_array Tryd.underlying36 hf
  have key : ∀ i, i < 8 → ∃ x : UInt8, cs[i]? = some (.int .u8 (x.toNat : Int)) := by
    intro i hi
    have h1 := hg i hi
    rw [Tryd.cells5, Nat.mul_one] at h1
    have hx : xs[i]? = some (xs[i]'(by omega)) := List.getElem?_eq_getElem (by omega)
    have hcl : i < cs.toList.length := by simpa using (show i < cs.size by omega)
    have hone : ((Value.agg cs).cells.toList.drop i).take 1 = [cs.toList[i]] := by
      show (cs.toList.drop i).take 1 = _
      rw [List.drop_eq_getElem_cons hcl]; rfl
    rw [hone, hx] at h1
    obtain ⟨a, e, _, wf⟩ := DataW.trod_int Tryd.underlying5 h1
    obtain ⟨b1, b2⟩ := u8_bd wf
    refine ⟨u8 a, ?_⟩
    rw [u8_toNat a b1 (by omega)]
    have e2 : cs.toList[i] = .int .u8 a := by simpa using e
    rw [← e2]
    simp
  obtain ⟨x0, e0⟩ := key 0 (by omega)
  obtain ⟨x1, e1⟩ := key 1 (by omega)
  obtain ⟨x2, e2⟩ := key 2 (by omega)
  obtain ⟨x3, e3⟩ := key 3 (by omega)
  obtain ⟨x4, e4⟩ := key 4 (by omega)
  obtain ⟨x5, e5⟩ := key 5 (by omega)
  obtain ⟨x6, e6⟩ := key 6 (by omega)
  obtain ⟨x7, e7⟩ := key 7 (by omega)
  refine ⟨x0, x1, x2, x3, x4, x5, x6, x7, ?_⟩
  clear hg hlen hl hf key
  rcases cs with ⟨l⟩
  have hsz : l.length = 8 := hsz
  match l, hsz with
  | [u0, u1, u2, u3, u4, u5, u6, u7], _ =>
    simp at e0 e1 e2 e3 e4 e5 e6 e7
    rw [e0, e1, e2, e3, e4, e5, e6, e7]
end Go.Proofs.YtpnemkphdminnaaDoor
