/- A box opened; boxes put backwards. -/
import Derived.Test.YtgenpldldgplhaaBo2
import Derived.Test.YtgenpldldgplhaaBky
namespace Go.Proofs.Ytgenpldldgplhaa
open Go.ChangeShapes Go.WideShapes Go.ChangeAt Go.RowKit Go.ChangeMaps

theorem agg_two {cs : Array Value} (h : cs.size = 2) : ∃ u0 u1, cs = #[u0, u1] := by
  obtain ⟨l⟩ := cs
  match l, h with
  | [u0, u1], _ => exact ⟨u0, u1, rfl⟩
open Go.Deep Go.WideElems in
set_option maxRecDepth 100000 in
theorem open_Box {H : Type} {enc : TypeId × Value → H} {W : World} {r : Reach} {b0 : Nat} {v : Value} {d : DataW H} {p : List MemPlace}
    (hv : Value.okWide Try.prog W r b0 32 v) (h : DataW.Trod enc Try.prog W 0 (fun _ => true) true 32 v d p) (hlt : ∀ x ∈ p, x.block < W.heap.size) :
    ∃ (t : Int) (A : Option Addr) (n cap : Nat) (R : List Sd), v = .agg #[.int .i64 t, .slice A n cap] ∧ Sds W A n R ∧ (n ≤ cap ∧ cap ≤ 9223372036854775807) ∧ w64 t := by
  obtain ⟨cs, rfl, hsz⟩ := okWide_struct Try.underlying32 hv
  rw [Try.cells32] at hsz
  obtain ⟨u0, u1, rfl⟩ := agg_two hsz
  obtain ⟨fuel, hf⟩ := h
  obtain ⟨c, A, n, cap, L, rfl, rfl, hI, hn, hc, hw⟩ := box_trod (u0 := u0) (u1 := u1) hf hlt
  exact ⟨c, A, n, cap, L, rfl, hI, ⟨hn, hc⟩, hw⟩
theorem put_front {L : List It} {x : It} (h : Asc (x :: L)) : putL L x = x :: L := by
  unfold Asc at h
  rw [List.pairwise_cons] at h
  unfold putL
  have e : delL L x.id = L := List.filter_eq_self.2 (fun z hz => by have := h.1 z hz; simp; omega)
  rw [e]
  cases L with
  | nil => rfl
  | cons y L =>
    show (if x.id < y.id then x :: y :: L else y :: insL x L) = _
    rw [if_pos (h.1 y List.mem_cons_self)]
theorem asc_key {L : List It} : Asc L ↔ (L.map It.key).Pairwise (fun a b => a.1 < b.1) := by
  unfold Asc
  rw [List.pairwise_map]
  exact Iff.rfl
theorem KS.asc {L1 L2 : List It} (h : KS L1 L2) (ha : Asc L1) : Asc L2 := asc_key.2 (h ▸ asc_key.1 ha)
end Go.Proofs.Ytgenpldldgplhaa
