/- A pair of bytes opened; sixty statements. -/
import Derived.Test.YtgcjbpiofcggcaaOpn
import Derived.Test.YtgcjbpiofcggcaaAwk
import Derived.Laws.MakeOwn
namespace Go.Proofs.Ytgcjbpiofcggcaa
open Go.ChangeShapes Go.WideShapes Go.ChangeAt Go.RowKit Go.ChangeMaps

theorem open_arr2 {H : Type} {enc : TypeId × Value → H} {w : World} {base : Nat} {spare : Nat → Bool} {held : Bool} {r : Reach} {b0 : Nat} {v : Value} {d : DataW H} {p : List MemPlace} (hv : Value.okWide Try.prog w r b0 64 v) (h : DataW.Trod enc Try.prog w base spare held 64 v d p) :
    ∃ x0 x1 : Nat, x0 < 256 ∧ x1 < 256 ∧ v = .agg #[.int .u8 (x0 : Int), .int .u8 (x1 : Int)] := by
  have hC : Try.prog.cellsOf 64 = 2 := by kernel_rfl
  simp only [Value.okWide, Try.underlying64] at hv
  obtain ⟨cs, rfl, hsz, _⟩ := hv
  rw [hC] at hsz
  obtain ⟨fuel, hf⟩ := h
  obtain ⟨xs, m, _, _, hl, hlen, hg⟩ := DataW.trod_array Try.underlying64 hf
  have key : ∀ i, i < 2 → ∃ x : Nat, x < 256 ∧ cs[i]? = some (.int .u8 (x : Int)) := by
    intro i hi
    have h1 := hg i hi
    rw [Try.cells5o, Nat.mul_one] at h1
    have hx : xs[i]? = some (xs[i]'(by omega)) := List.getElem?_eq_getElem (by omega)
    have hcl : i < cs.toList.length := by simpa using (show i < cs.size by omega)
    have hone : ((Value.agg cs).cells.toList.drop i).take 1 = [cs.toList[i]] := by
      show (cs.toList.drop i).take 1 = _
      rw [List.drop_eq_getElem_cons hcl]; rfl
    rw [hone, hx] at h1
    obtain ⟨a, e, _, wf⟩ := DataW.trod_int Try.underlying5 h1
    obtain ⟨b1, b2⟩ := u8_bd wf
    refine ⟨a.toNat, by omega, ?_⟩
    have e2 : cs.toList[i] = .int .u8 a := by simpa using e
    rw [show ((a.toNat : Nat) : Int) = a by omega, ← e2]
    simp
  obtain ⟨x0, l0, e0⟩ := key 0 (by omega)
  obtain ⟨x1, l1, e1⟩ := key 1 (by omega)
  refine ⟨x0, x1, l0, l1, ?_⟩
  congr 1
  apply Array.ext_getElem?
  intro i
  match i with
  | 0 => rw [e0]; rfl
  | 1 => rw [e1]; rfl
  | i + 2 => rw [Array.getElem?_eq_none (by omega), Array.getElem?_eq_none (by simp)]
def z60 : List Int := List.replicate 60 0
theorem z60_split : splitM z60 = (List.range 60).map fun i => (i, i) := by decide
theorem z60_len : (splitM z60).length = 60 := by rw [z60_split]; rfl
theorem fin60 (c x : Nat) (h : c < 60) : fin z60 c x = (c + 1, 0) := by unfold fin; rw [if_pos (by rw [z60_len]; exact h)]
theorem New_at (x : Int) (num : Nat) (hx : x = (num : Int)) (A : Option Addr) (n c : Nat) (K : List Int) (w : World) (hr : At w A n 22 (stC K n)) (hL : K.length = n) (hn : n ≤ 300000000000) (hc : n ≤ c) (hA : A = none → n = 0 ∧ c = 0) (hnum : num < 8) :
    Calls Try.prog 14 #[.int .i64 x, .slice A n c] w fun e w' => ∃ p, e = .returned (.pointer (some ⟨p, 0, none⟩)) ∧ Ses w' w.heap.size (p + 1) p num K 0 0 ∧ Below w.heap.size w w' := by
  subst hx; exact New_any num A n c K w hr hL hn hc hA hnum
end Go.Proofs.Ytgcjbpiofcggcaa
