/- Bytes: slices that read as lists of bytes. -/
import Derived.Test.YthhpilkhcomhbaaDoorBas
import Derived.Test.YthhpilkhcomhbaaDoorApp
import Derived.SizedLaws
namespace Go.Proofs.YthhpilkhcomhbaaDoor
open Go.ChangeShapes Go.WideShapes Go.ChangeAt Go.RowKit Go.ChangeMaps

def u8 (n : Int) : UInt8 := UInt8.ofNat n.toNat
theorem u8_toNat (n : Int) (h0 : 0 ≤ n) (h1 : n < 256) : ((u8 n).toNat : Int) = n := by
  unfold u8; rw [UInt8.toNat_ofNat']; omega
def BytesAt (w : World) (A : Option Addr) (n : Nat) (l : List UInt8) : Prop := l.length = n ∧ (0 < n → ∃ b off, A = some ⟨b, off, none⟩ ∧ b < w.heap.size ∧ ∀ i (h : i < l.length), w.cell? ⟨b, off + i, none⟩ = some (.int .u8 (l[i].toNat : Int)))
theorem own_bytes {w : World} {B : Nat} {v : Value} {l : List UInt8} (h : w.ownsRow B 5 1 v l.length (bc l)) : ∃ A c, v = .slice A l.length c ∧ BytesAt w A l.length l := by
  have h0 := h
  rcases h.2 with ⟨rfl, hl⟩ | ⟨g, cap, cur, rfl, hg, hh, hnc, hcap, hsz, htake⟩
  · exact ⟨none, 0, by rw [hl], rfl, fun hn => by omega⟩
  · refine ⟨_, _, rfl, rfl, fun hn => ⟨g, 0, rfl, (h0.lt g rfl).2, fun i hi => ?_⟩⟩
    rw [Nat.zero_add, World.ownsRow.cellAt h0 i (by omega), bc_at l i hi]
theorem BytesAt.below {w w' : World} {A : Option Addr} {n : Nat} {l : List UInt8} (h : BytesAt w A n l) (hb : Below w.heap.size w w') : BytesAt w' A n l :=
  ⟨h.1, fun hn => by
    obtain ⟨b, off, e, hl, hc⟩ := h.2 hn
    exact ⟨b, off, e, Nat.lt_of_lt_of_le hl hb.size, fun i hi => keepcell hb (hc i hi)⟩⟩

theorem string_at {W : World} {A : Option Addr} {n c : Nat} {l : List UInt8} (h : BytesAt W A n l) : (convert 36 9 (.slice A n c)).run Tryd.prog W = .ok (.string ⟨l.toArray⟩) W := by
  rcases Nat.eq_zero_or_pos n with h0 | h0
  · subst h0
    obtain rfl : l = [] := List.eq_nil_of_length_eq_zero h.1
    rcases A with _ | a
    · rw [run_convert_bytes_string W 36 9 5 none 0 c Tryd.underlying36 Tryd.underlying5 Tryd.underlying9]; rfl
    · exact run_convert_bytes_back W 36 9 5 a c [] Tryd.underlying36 Tryd.underlying5 Tryd.underlying9 (fun j hj => absurd hj (by simp))
  · obtain ⟨b, off, rfl, _, hc⟩ := h.2 h0
    have hl := h.1
    subst hl
    exact run_convert_bytes_back W 36 9 5 ⟨b, off, none⟩ c l Tryd.underlying36 Tryd.underlying5 Tryd.underlying9 (fun j hj => by rw [add_plain]; exact hc j hj)
theorem Tryd.cells5 : Tryd.prog.cellsOf 5 = 1 := by kernel_rfl
theorem u8_bd {n : Int} (h : (Lit.int .u8 n).wf = true) : 0 ≤ n ∧ n ≤ 255 := by
  have h1 : IntKind.u8.min = 0 := rfl
  have h2 : IntKind.u8.max = 255 := rfl
  simp only [Lit.wf, Bool.and_eq_true, decide_eq_true_eq, h1, h2] at h
  exact h
theorem open_bytesA {H : Type} {enc : TypeId × Value → H} {W : World} {r : Reach} {b0 : Nat} {v : Value} {d : DataW H} {p : List MemPlace}
    (hv : Value.okWide Tryd.prog W r b0 36 v) (h : DataW.Trod enc Tryd.prog W 0 (fun _ => true) true 36 v d p) (hlt : ∀ x ∈ p, x.block < W.heap.size) :
    ∃ (A : Option Addr) (n c : Nat) (l : List UInt8), v = .slice A n c ∧ BytesAt W A n l ∧ n ≤ c ∧ c ≤ 9223372036854775807 := by
  obtain ⟨a0, len, cap, rfl⟩ := okWide_slice Tryd.underlying36 hv
  obtain ⟨fuel, hf⟩ := h
  rcases open_ints Tryd.underlying36 Tryd.underlying5 Tryd.cells5 hf with ⟨hcs, hx⟩ | ⟨a, len', cap', zs, hcs, _, hl, hm, hz, hx, hcell, hwz⟩
  · simp [Value.cells] at hcs
    obtain ⟨rfl, rfl, rfl⟩ := hcs
    exact ⟨_, _, _, [], rfl, ⟨rfl, fun h => absurd h (by omega)⟩, by omega, by omega⟩
  · simp [Value.cells] at hcs
    obtain ⟨rfl, rfl, rfl⟩ := hcs
    simp only [if_true] at hz
    simp only [Prod.mk.injEq] at hx
    obtain ⟨rfl, rfl⟩ := hx
    unfold maxLen at hm
    refine ⟨_, _, _, (zs.take len).map u8, rfl, ⟨by rw [List.length_map, List.length_take]; omega, fun hn => ?_⟩, hl, by omega⟩
    obtain ⟨b, off, spot⟩ := a
    have hspot : spot = none := by simpa [Addr.add] using World.cell?_spot (hcell 0 (by omega))
    subst hspot
    refine ⟨b, off, rfl, hlt (.cell b off) (MemPlace.mem_row.2 ⟨0, by omega, by simp⟩), fun i hi => ?_⟩
    have hi2 : i < zs.length := by rw [List.length_map, List.length_take] at hi; omega
    have := hcell i hi2
    rw [add_plain] at this
    rw [this]
    obtain ⟨g0, g1⟩ := u8_bd (hwz zs[i] (List.getElem_mem _))
    simp only [List.getElem_map, List.getElem_take, u8_toNat _ g0 (by omega)]
    simp [List.getD, List.getElem?_eq_getElem hi2]

theorem src_at {W : World} {Ad : Option Addr} {n c : Nat} {l : List UInt8} (h : BytesAt W Ad n l) : Src Tryd.prog 1 36 (.slice Ad n c) n (bc l) W := by
  rcases Ad with _ | a
  · rcases Nat.eq_zero_or_pos n with h0 | h0
    · subst h0
      obtain rfl : l = [] := List.eq_nil_of_length_eq_zero h.1
      exact Src.ofNil _ Tryd.underlying36 _
    · obtain ⟨b, off, e, _⟩ := h.2 h0
      cases e
  · refine Src.ofSlice _ Tryd.underlying36 _ _ _ _ (by rw [bc_len, h.1, Nat.mul_one]) (fun j u hu => ?_) (bc_one l)
    have hj : j < l.length := by
      have := (List.getElem?_eq_some_iff.1 hu).1
      rwa [bc_len] at this
    obtain ⟨b, off, e, _, hc⟩ := h.2 (by have := h.1; omega)
    injection e with e
    subst e
    rw [bc_at l j hj] at hu
    injection hu with hu
    rw [add_plain, hc j hj, hu]
end Go.Proofs.YthhpilkhcomhbaaDoor
