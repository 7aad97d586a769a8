/- The next statement, its fields. -/
import Derived.Test.YtgcjbpiofcggcaaStm
import Derived.Test.YtgcjbpiofcggcaaAwk
namespace Go.Proofs.Ytgcjbpiofcggcaa
open Go.ChangeShapes Go.WideShapes Go.ChangeAt Go.RowKit Go.ChangeMaps

theorem stm_yes (w : World) (B M p num : Nat) (K : List Int) (cur ex : Nat) (h : Ses w B M p num K cur ex) (i : Nat) (hN : nx K cur ex = (i, true)) :
    Calls Try.prog 21 #[.pointer (some ⟨p, 0, none⟩)] w fun e w' => ∃ cs : Array Value, e = .returned (.tuple #[.agg cs, .bool true]) ∧ cs.size = 22 ∧ cs.all (·.oneCell') = true ∧ cs[20]? = some (.int .i64 (i : Int)) ∧ cs[0]? = some (.int .i64 (K.getD i 0)) ∧ Below w.heap.size w w' :=
  (Statement_any w B M p num K cur ex h).mono fun e w' ⟨he, hb⟩ => by
    rw [hN] at he
    rcases he with ⟨_, he⟩ | ⟨he, _⟩
    · exact ⟨_, he, rfl, stv_all _ _, rfl, rfl, hb⟩
    · cases he
theorem stm_no (w : World) (B M p num : Nat) (K : List Int) (cur ex : Nat) (h : Ses w B M p num K cur ex) (hN : (nx K cur ex).2 = false) :
    Calls Try.prog 21 #[.pointer (some ⟨p, 0, none⟩)] w fun e w' => ∃ cs : Array Value, e = .returned (.tuple #[.agg cs, .bool false]) ∧ cs.size = 22 ∧ cs.all (·.oneCell') = true ∧ cs[20]? = some (.int .i64 0) ∧ cs[0]? = some (.int .i64 0) ∧ Below w.heap.size w w' :=
  (Statement_any w B M p num K cur ex h).mono fun e w' ⟨he, hb⟩ => by
    rcases he with ⟨he, _⟩ | ⟨_, he⟩
    · rw [hN] at he; cases he
    · exact ⟨_, he, rfl, stv_all _ 0, rfl, rfl, hb⟩
theorem adv_yes {K : List Int} {cur ex i : Nat} (h : nx K cur ex = (i, true)) : adv K cur ex = ex + 1 := by unfold adv; rw [h]; rfl
theorem fin_in {K : List Int} {cur ex : Nat} (h : cur < (splitM K).length) : fin K cur ex = (cur + 1, 0) := by unfold fin; rw [if_pos h]
theorem fin_out {K : List Int} {cur ex : Nat} (h : ¬ cur < (splitM K).length) : fin K cur ex = (cur, ex) := by unfold fin; rw [if_neg h]
theorem nx_in {K : List Int} {cur ex : Nat} (h : cur < (splitM K).length) (h2 : fs K cur + ex ≤ endM K (fs K cur)) : nx K cur ex = (fs K cur + ex, true) := by unfold nx; rw [if_pos h, if_pos h2]
theorem nx_end {K : List Int} {cur ex : Nat} (h : cur < (splitM K).length) (h2 : ¬ fs K cur + ex ≤ endM K (fs K cur)) : nx K cur ex = (endM K (fs K cur), false) := by unfold nx; rw [if_pos h, if_neg h2]
theorem nx_out {K : List Int} {cur ex : Nat} (h : ¬ cur < (splitM K).length) : nx K cur ex = (0, false) := by unfold nx; rw [if_neg h]
theorem upd_below2 {B : Nat} {w0 W W' : World} {p : Nat} (hb : Below B w0 W) (hp : B ≤ p) (h : W.grownBy W' (some p)) (hB : B ≤ W.heap.size) : Below B w0 W' := hb.grown h hB (fun k hk => by injection hk with hk; omega)
theorem new_rem (x : Int) (hx : 0 ≤ x ∧ x < 256) : ∃ num : Nat, num < 8 ∧ x % 8 = (num : Int) := ⟨(x % 8).toNat, by omega, by omega⟩
end Go.Proofs.Ytgcjbpiofcggcaa
