/- Solve returns the class of the solutions of a linear congruence, or reports that there are none. -/
import Derived.Test.YtgicdfhhaefibaaSlv
namespace Go.Proofs.Ytgicdfhhaefibaa
open Go.Sort Go.ChangeShapes Go.WideShapes Go.ChangeAt Go.RowKit

def SolvePost (α β n : Int) (w : World) (e : Ending) (w' : World) : Prop :=
  ∃ x i : Int, e = .returned (.tuple #[.agg #[.int .i64 x, .int .i64 n], .bool true, .int .i64 0]) ∧ x = β % n * i % n ∧ α * i % n = 1 % n ∧ Below w.heap.size w w'

theorem Solve_bad (a b m : Int) (w : World) (h : m < 1 ∨ 4611686018427387904 < m) : Calls Try.prog 27 #[.int .i64 a, .int .i64 b, .int .i64 m] w fun e w' => e = .returned (.tuple #[.agg #[.int .i64 0, .int .i64 0], .bool false, .int .i64 1]) ∧ Below w.heap.size w w' := by
  rcases (show m < 1 ∨ (1 ≤ m ∧ 4611686018427387904 < m) by omega) with h1 | ⟨h1, h2⟩
  all_goals
    clear h
    go_enter Try.func27, Try.ntmps27
    go_wp2
    exact bodyPost_ret (v := .tuple #[.agg #[.int .i64 0, .int .i64 0], .bool false, .int .i64 1]) (by simp [results, Try.results27, go_sem]) rfl ⟨rfl, (by repeat (first | exact Below.refl _ _ | refine below_drewN ?_ _ | refine Below.drew ?_ | refine Below.alloc ?_ (by simp) _ | refine Below.setCell ?_ (by simp) _))⟩

theorem Solve_none (a b m a1 b1 g : Int) (w : World) (m1 : 1 ≤ m) (m2 : m ≤ 4611686018427387904) (ha : a % m = a1) (hb : b % m = b1) (hg : ((Int.gcd a1 m : Nat) : Int) = g) (g1 : 1 ≤ g) (a0 : 0 ≤ a1) (al : a1 < m) (b0 : 0 ≤ b1) (hd : (b1 % g != 0) = true) :
    Calls Try.prog 27 #[.int .i64 a, .int .i64 b, .int .i64 m] w fun e w' => e = .returned (.tuple #[.agg #[.int .i64 0, .int .i64 0], .bool false, .int .i64 0]) ∧ Below w.heap.size w w' := by
  have M1 := Lib.hid (fun w => mod_is a m a1 w m1 (by omega) ha)
  have M2 := Lib.hid (fun w => mod_is b m b1 w m1 (by omega) hb)
  have G := Lib.hid (fun w => hg ▸ gcd_any a1 m w a0 (by omega) (by omega) (by omega))
  clear ha hb hg
  go_enter Try.func27, Try.ntmps27
  go_wp2_with (first | (go_at_call 35; first | ((with_reducible refine (M1.out _).mono ?_); rintro e w' ⟨rfl, rfl⟩) | ((with_reducible refine (M2.out _).mono ?_); rintro e w' ⟨rfl, rfl⟩)) | (go_at_call 38; refine (G.out _).mono ?_; rintro e w' ⟨rfl, kk, rfl⟩))
  exact bodyPost_ret (v := .tuple #[.agg #[.int .i64 0, .int .i64 0], .bool false, .int .i64 0]) (by simp [results, Try.results27, go_sem]) rfl ⟨rfl, (by repeat (first | exact Below.refl _ _ | refine below_drewN ?_ _ | refine Below.drew ?_ | refine Below.alloc ?_ (by simp) _ | refine Below.setCell ?_ (by simp) _))⟩

set_option maxHeartbeats 4000000 in
theorem Solve_some (a b m a1 b1 g n α β : Int) (w : World) (m1 : 1 ≤ m) (m2 : m ≤ 4611686018427387904) (ha : a % m = a1) (hb : b % m = b1) (hg : ((Int.gcd a1 m : Nat) : Int) = g) (g1 : 1 ≤ g) (a0 : 0 ≤ a1) (al : a1 < m) (b0 : 0 ≤ b1) (bl : b1 < m) (hd : (b1 % g != 0) = false)
    (hn : m / g = n) (hα : a1 / g = α) (hβ : b1 / g = β) (n1 : 1 ≤ n) (n2 : n ≤ m) (hco : Int.gcd α n = 1) :
    Calls Try.prog 27 #[.int .i64 a, .int .i64 b, .int .i64 m] w (SolvePost α β n w) := by
  have M1 := Lib.hid (fun w => mod_is a m a1 w m1 (by omega) ha)
  have M2 := Lib.hid (fun w => mod_is b m b1 w m1 (by omega) hb)
  obtain ⟨β', hβ'⟩ : ∃ z, β % n = z := ⟨_, rfl⟩
  have c1 : 0 ≤ β' := by rw [← hβ']; exact Int.emod_nonneg _ (by omega)
  have c2 : β' < n := by rw [← hβ']; exact Int.emod_lt_of_pos _ (by omega)
  have M3 := Lib.hid (fun w => mod_is β n β' w n1 (by omega) hβ')
  have G := Lib.hid (fun w => hg ▸ gcd_any a1 m w a0 (by omega) (by omega) (by omega))
  have I := Lib.hid (fun w => inverse_any α n w n1 (by omega) hco)
  have x1 : IntKind.i64.wrap (b1.tdiv g) = β := (IntWalk.i64_quo _ _ ⟨b0, by omega, g1⟩).trans hβ
  have x2 : IntKind.i64.wrap (a1.tdiv g) = α := (IntWalk.i64_quo _ _ ⟨a0, by omega, g1⟩).trans hα
  have HB := Lib.hid hβ'
  have MM := Lib.hid (fun (i : Int) (i0 : 0 ≤ i) (i1 : i < n) w => mulMod_int β' i n w c1 (by omega) i0 (by omega) n1 (by omega))
  clear ha hb hg hco hα hβ hβ'
  go_enter Try.func27, Try.ntmps27
  go_wp2_with (first | (go_at_call 35; first | ((with_reducible refine (M1.out _).mono ?_); rintro e w' ⟨rfl, rfl⟩) | ((with_reducible refine (M2.out _).mono ?_); rintro e w' ⟨rfl, rfl⟩)) | (go_at_call 38; refine (G.out _).mono ?_; rintro e w' ⟨rfl, kk, rfl⟩))
  go_region_with ((first | (go_at_call 35; refine (M3.out _).mono ?_; rintro e w' ⟨rfl, rfl⟩) | (go_at_call 41; refine (I.out _).mono ?_; rintro e w' ⟨i, rfl, i0, i1, hi, rfl⟩; have HI := Lib.hid hi; clear hi) | (go_at_call 40; refine (MM.out _ i0 i1 _).mono ?_; rintro e w' ⟨rfl, kk, rfl⟩)))
  all_goals go_wp2
  all_goals exact bodyPost_ret (v := .tuple #[.agg #[.int .i64 (β' * i % n), .int .i64 n], .bool true, .int .i64 0]) (by simp [results, Try.results27, go_sem]) rfl ⟨_, _, rfl, by rw [HB.out], HI.out, (by repeat (first | exact Below.refl _ _ | refine below_drewN ?_ _ | refine Below.drew ?_ | refine Below.alloc ?_ (by simp) _ | refine Below.setCell ?_ (by simp) _))⟩
end Go.Proofs.Ytgicdfhhaefibaa
