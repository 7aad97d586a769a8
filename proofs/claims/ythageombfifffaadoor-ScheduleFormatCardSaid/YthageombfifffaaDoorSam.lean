/- A list is the same as itself; small numbers. -/
import Derived.Test.YthageombfifffaaDoorVls
namespace Go.Proofs.YthageombfifffaaDoor
open Go.ChangeShapes Go.WideShapes Go.ChangeAt Go.RowKit Go.ChangeMaps

set_option maxRecDepth 100000 in
theorem Same_any (A : Option Addr) (n c : Nat) (D : Option Addr) (d : Nat) (R : List Act) (w : World) (hr : Acts w A n R) (hs : Acts w D n R) (hn : n ≤ 9223372036854775807) :
    Calls Tryd.prog 13 #[.slice A n c, .slice D n d] w fun e w' => e = .returned (.bool true) ∧ Below w.heap.size w w' := by
  have HL := Lib.hid hr.1
  rcases Nat.eq_zero_or_pos n with h0 | h0
  · subst h0
    clear hr hs
    go_enter Tryd.func13, Tryd.ntmps13
    go_wp2
    refine wp_loop_rounds 1 ?_
    rw [rounds_succ]
    go_wp2
    go_ret
    exact ⟨rfl, Below.refl _ _⟩
  · obtain ⟨b, off, rfl, hb, hc⟩ := hr.2 h0
    obtain ⟨g, of2, rfl, hg, hc2⟩ := hs.2 h0
    clear hr hs
    go_enter Tryd.func13, Tryd.ntmps13
    go_wp2
    go_loopw [5] (fun i wr => ∃ k : Nat, k ≤ n ∧ i = .int .i64 k ∧ Below w.heap.size w wr) (fun i _ => n - (intOf i).toNat)
    case atStart => exact ⟨0, Nat.zero_le _, rfl, Below.refl _ _⟩
    case round =>
      obtain ⟨k, hk, rfl, hB⟩ := hrel
      by_cases hlt : k < n
      · have hkR : k < R.length := by rw [HL.out]; exact hlt
        obtain ⟨c0, c1, c2, c3⟩ := hc k hkR
        obtain ⟨d0, d1, d2, d3⟩ := hc2 k hkR
        have c0 := fun d os => cell_regrown ((hB.cell (p := ⟨b, off + k * 4, none⟩) hb).trans c0) d os
        have c1 := fun d os => cell_regrown ((hB.cell (p := ⟨b, off + k * 4 + 1, none⟩) hb).trans c1) d os
        have c2 := fun d os => cell_regrown ((hB.cell (p := ⟨b, off + k * 4 + 2, none⟩) hb).trans c2) d os
        have c3 := fun d os => cell_regrown ((hB.cell (p := ⟨b, off + k * 4 + 3, none⟩) hb).trans c3) d os
        have d0 := fun d os => cell_regrown ((hB.cell (p := ⟨g, of2 + k * 4, none⟩) hg).trans d0) d os
        have d1 := fun d os => cell_regrown ((hB.cell (p := ⟨g, of2 + k * 4 + 1, none⟩) hg).trans d1) d os
        have d2 := fun d os => cell_regrown ((hB.cell (p := ⟨g, of2 + k * 4 + 2, none⟩) hg).trans d2) d os
        have d3 := fun d os => cell_regrown ((hB.cell (p := ⟨g, of2 + k * 4 + 3, none⟩) hg).trans d3) d os
        have HB := Lib.hid hB
        clear hB
        generalize R[k] = x at *
        rcases x with ⟨xk, xs, xw, xb⟩
        simp only at c0 c1 c2 c3 d0 d1 d2 d3
        go_wp2
        refine wp_region_quiet_below (by kernel_rfl) (by kernel_rfl) ?_
        repeat (go_big_quiet_step (fail))
        refine wpQuiet_nil ?_
        intro _ hw'
        obtain ⟨⟨dq, osq⟩, hw''⟩ := hw'
        subst hw''
        have HB2 := Lib.hid (more_below HB.out (below_regrown wr dq osq))
        go_wp2
        go_roundw
        case rel => exact ⟨k + 1, by omega, by go_num, HB2.out⟩
        case measure => simp [intOf]; omega
      · obtain rfl : k = n := by omega
        have HB := Lib.hid hB
        clear hB
        go_wp2
        go_ret
        exact ⟨rfl, HB.out⟩
def fewB (s n : Int) : Bool := decide (n ≤ 300) || decide (s < 1)
theorem few_any (s n : Int) (w : World) : Calls Tryd.prog 11 #[.int .i64 s, .int .i64 n] w fun e w' => e = .returned (.bool (fewB s n)) ∧ w = w' := by
  unfold fewB
  rcases h1 : decide (n ≤ 300) with _ | _
  · rcases h2 : decide (s < 1) with _ | _
    all_goals
      go_enter Tryd.func11, Tryd.ntmps11
      go_wp2
      go_ret
      exact ⟨by simp [h1, h2], rfl⟩
  · go_enter Tryd.func11, Tryd.ntmps11
    go_wp2
    go_ret
    exact ⟨by simp [h1], rfl⟩
end Go.Proofs.YthageombfifffaaDoor
