/- The function awake of the laws of this layer returns true. -/
import Derived.Test.YtgicdfhhaefibaaAwk
namespace Go.Proofs.Ytgicdfhhaefibaa
open Go.Sort Go.ChangeShapes Go.WideShapes Go.ChangeAt Go.RowKit

theorem keepcell {W w1 : World} {b o : Nat} {v : Value} (hb : Below W.heap.size W w1) (h : W.cell? ⟨b, o, none⟩ = some v) : w1.cell? ⟨b, o, none⟩ = some v :=
  (hb.cell (p := ⟨b, o, none⟩) (block_lt_of_cell h)).trans h
theorem pastcell {w : World} {b o : Nat} {v : Value} {x : Obj} (h : w.cell? ⟨b, o, none⟩ = some v) : (w.alloc x).cell? ⟨b, o, none⟩ = some v := by
  rw [World.cell?_alloc_past _ _ _ (block_lt_of_cell h)]; exact h
theorem newcell0 {w : World} {x y : Value} {T : TypeId} : (w.alloc (.cells #[x, y] T)).cell? ⟨w.heap.size, 0, none⟩ = some x := by
  rw [World.cell?_alloc_at _ _ _ _ rfl]; rfl
theorem newcell1 {w : World} {x y : Value} {T : TypeId} : (w.alloc (.cells #[x, y] T)).cell? ⟨w.heap.size, 1, none⟩ = some y := by
  rw [World.cell?_alloc_at _ _ _ _ rfl]; rfl
theorem step_below {w w1 w2 : World} {x : Obj} (h : Below w.heap.size w w1) (h2 : Below (w1.alloc x).heap.size (w1.alloc x) w2) : Below w.heap.size w w2 :=
  (h.alloc h.size x).trans (h2.mono (by have := h.size; simp; omega))

theorem new23 (w : World) : Calls Try.prog 13 #[.int .i64 2, .int .i64 3] w fun e w' => e = .returned (.tuple #[.agg #[.int .i64 2, .int .i64 3], .int .i64 0]) ∧ Below w.heap.size w w' := New_ok 2 3 w (by omega) (by omega)
theorem new25 (w : World) : Calls Try.prog 13 #[.int .i64 (-2), .int .i64 5] w fun e w' => e = .returned (.tuple #[.agg #[.int .i64 3, .int .i64 5], .int .i64 0]) ∧ Below w.heap.size w w' := New_ok (-2) 5 w (by omega) (by omega)
theorem next9 (w : World) : Calls Try.prog 23 #[.agg #[.int .i64 8, .int .i64 15], .int .i64 9] w fun e w' => e = .returned (.tuple #[.int .i64 23, .bool true]) ∧ Below w.heap.size w w' := Next_ok 8 15 9 w (by omega) (by omega) (by decide) (by decide)
theorem count3 (w : World) : Calls Try.prog 25 #[.agg #[.int .i64 8, .int .i64 15], .int .i64 (-7), .int .i64 23] w fun e w' => e = .returned (.int .i64 3) ∧ Below w.heap.size w w' := Count_any 8 15 (-7) 23 w (by omega) (by omega) (by omega) (by omega)

set_option maxHeartbeats 4000000 in
set_option maxRecDepth 100000 in
theorem awake_any (w : World) : Calls Try.prog 12 #[] w fun e w' => e = .returned (.bool true) ∧ Below w.heap.size w w' := by
  go_enter Try.func12, Try.ntmps12
  go_wp2_with fail
  refine (new23 _).mono ?_
  rintro e wa ⟨rfl, h1⟩
  go_wp2_with fail
  refine (new25 _).mono ?_
  rintro e wb ⟨rfl, h2⟩
  have a0 := keepcell h2 newcell0
  have a1 := keepcell h2 newcell1
  have hB := step_below h1 h2
  clear h1 h2
  replace a0 := pastcell (x := .cells #[.int .i64 3, .int .i64 5] 24) a0
  replace a1 := pastcell (x := .cells #[.int .i64 3, .int .i64 5] 24) a1
  go_wp2_with fail
  refine (Meet_ex _).mono ?_
  rintro e wc ⟨rfl, h3⟩
  have b0 := keepcell h3 newcell0
  have b1 := keepcell h3 newcell1
  have hC := step_below hB h3
  clear h3 hB a0 a1
  go_wp2_with fail
  refine (Solve_yes _).mono ?_
  rintro e wd ⟨rfl, h4⟩
  have d0 := keepcell h4 (pastcell b0)
  have c0 := keepcell h4 newcell0
  have c1 := keepcell h4 newcell1
  have hD := step_below hC h4
  clear h4 hC b0 b1
  go_wp2_with fail
  refine (Solve_no _).mono ?_
  rintro e we ⟨rfl, h5⟩
  replace d0 := keepcell h5 (pastcell d0)
  replace c0 := keepcell h5 (pastcell c0)
  replace c1 := keepcell h5 (pastcell c1)
  have s0 := keepcell h5 newcell0
  have s1 := keepcell h5 newcell1
  have hE := step_below hD h5
  clear h5 hD
  replace d0 := pastcell (x := .cells #[.int .i64 0, .int .i64 0] 24) d0
  replace c0 := pastcell (x := .cells #[.int .i64 0, .int .i64 0] 24) c0
  replace c1 := pastcell (x := .cells #[.int .i64 0, .int .i64 0] 24) c1
  replace s0 := pastcell (x := .cells #[.int .i64 0, .int .i64 0] 24) s0
  replace s1 := pastcell (x := .cells #[.int .i64 0, .int .i64 0] 24) s1
  go_wp2_with fail
  refine (next9 _).mono ?_
  rintro e wf ⟨rfl, h6⟩
  replace d0 := keepcell h6 d0
  replace c0 := keepcell h6 c0
  replace c1 := keepcell h6 c1
  replace s0 := keepcell h6 s0
  replace s1 := keepcell h6 s1
  have hF := step_below hE h6
  clear h6 hE
  go_wp2_with fail
  refine (count3 _).mono ?_
  rintro e wg ⟨rfl, h7⟩
  replace d0 := keepcell h7 d0
  replace c0 := keepcell h7 c0
  replace c1 := keepcell h7 c1
  replace s0 := keepcell h7 s0
  replace s1 := keepcell h7 s1
  have hG := hF.trans (h7.mono hF.size)
  clear h7 hF
  go_wp2
  go_ret
  exact ⟨rfl, hG⟩
end Go.Proofs.Ytgicdfhhaefibaa
