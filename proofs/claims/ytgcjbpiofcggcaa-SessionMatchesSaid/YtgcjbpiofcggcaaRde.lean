/- The reference of a session: Do, in one form. -/
import Derived.Test.YtgcjbpiofcggcaaRda
import Derived.Test.YtgcjbpiofcggcaaRdc
import Derived.Test.YtgcjbpiofcggcaaRdd
import Derived.Test.YtgcjbpiofcggcaaAgr
namespace Go.Proofs.Ytgcjbpiofcggcaa
open Go.ChangeShapes Go.WideShapes Go.ChangeAt Go.RowKit Go.ChangeMaps

theorem rdo0 (A : Option Addr) (n c : Nat) (K : List Int) (w : World) (hr : At w A n 1 (ic .i64 K)) (hn : n ≤ 300000000000) (num cur ex : Nat) (hc : cur ≤ 300000000000) (he : ex ≤ 300000000000) (cur2 ex2 : Nat) (h : cur2 = cur ∧ ex2 = adv K cur ex) :
    Calls Try.prog 19 #[.agg #[.int .i64 (num : Int), .slice A n c, .int .i64 (cur : Int), .int .i64 (ex : Int)], .int .i64 0] w fun e w' => e = .returned (.agg #[.int .i64 (num : Int), .slice A n c, .int .i64 (cur2 : Int), .int .i64 (ex2 : Int)]) ∧ Below w.heap.size w w' := by
  obtain ⟨rfl, rfl⟩ := h
  unfold adv
  rcases hx : (nx K cur2 ex).2 with _ | _
  · exact RDo_0n A n c K w hr hn num cur2 ex hc he hx
  · exact RDo_0y A n c K w hr hn num cur2 ex hc he hx
theorem rdo1 (A : Option Addr) (n c : Nat) (K : List Int) (w : World) (hr : At w A n 1 (ic .i64 K)) (hn : n ≤ 300000000000) (num cur ex : Nat) (hc : cur ≤ 300000000000) (he : ex ≤ 300000000000) (cur2 ex2 : Nat) (h : cur2 = cur ∧ ex2 = 0 ∧ (cur < (splitM K).length ∨ ex = 0)) :
    Calls Try.prog 19 #[.agg #[.int .i64 (num : Int), .slice A n c, .int .i64 (cur : Int), .int .i64 (ex : Int)], .int .i64 1] w fun e w' => e = .returned (.agg #[.int .i64 (num : Int), .slice A n c, .int .i64 (cur2 : Int), .int .i64 (ex2 : Int)]) ∧ Below w.heap.size w w' := by
  obtain ⟨rfl, rfl, h⟩ := h
  by_cases hx : cur2 < (splitM K).length
  · exact RDo_1y A n c K w hr hn num cur2 ex hc he hx
  · obtain rfl : ex = 0 := by omega
    exact RDo_1n A n c K w hr hn num cur2 0 hc he hx
theorem rdo2 (A : Option Addr) (n c : Nat) (K : List Int) (w : World) (hr : At w A n 1 (ic .i64 K)) (hn : n ≤ 300000000000) (num cur ex : Nat) (hc : cur ≤ 300000000000) (he : ex ≤ 300000000000) (cur2 ex2 : Nat) (h : fin K cur ex = (cur2, ex2)) :
    Calls Try.prog 19 #[.agg #[.int .i64 (num : Int), .slice A n c, .int .i64 (cur : Int), .int .i64 (ex : Int)], .int .i64 2] w fun e w' => e = .returned (.agg #[.int .i64 (num : Int), .slice A n c, .int .i64 (cur2 : Int), .int .i64 (ex2 : Int)]) ∧ Below w.heap.size w w' := by
  unfold fin at h
  by_cases hx : cur < (splitM K).length
  · rw [if_pos hx] at h
    injection h with h1 h2
    subst h1 h2
    exact RDo_2y A n c K w hr hn num cur ex hc he hx
  · rw [if_neg hx] at h
    injection h with h1 h2
    subst h1 h2
    exact RDo_2n A n c K w hr hn num cur ex hc he hx
theorem inv_adv {K : List Int} {cur ex : Nat} (h : cur < (splitM K).length ∨ ex = 0) : cur < (splitM K).length ∨ adv K cur ex = 0 := by
  by_cases h2 : cur < (splitM K).length
  · exact .inl h2
  · right
    unfold adv
    rw [nx_out h2]
    simpa [h2] using h
theorem inv_fin {K : List Int} {cur ex : Nat} (h : cur < (splitM K).length ∨ ex = 0) : (fin K cur ex).1 < (splitM K).length ∨ (fin K cur ex).2 = 0 := by
  unfold fin
  split
  · exact .inr rfl
  · exact h
theorem grown_cell {w w' : World} {p b i : Nat} {v : Value} (h : w.grownBy w' (some p)) (hb : b ≠ p) (hc : w.cell? ⟨b, i, none⟩ = some v) : w'.cell? ⟨b, i, none⟩ = some v := by
  have hl : b < w.heap.size := block_lt_of_cell hc
  have e := h.block b hl (fun e => hb (by cases e; rfl))
  rw [← hc]
  unfold World.cell?
  simp only [e]
theorem Blk.keepg {w w' : World} {g p : Nat} {t : TypeId} {cs : Array Value} (h : Blk w g t cs) (hg : w.grownBy w' (some p)) (hne : g ≠ p) : Blk w' g t cs := (hg.block g h.lt (fun e => hne (by cases e; rfl))).trans h
end Go.Proofs.Ytgcjbpiofcggcaa
