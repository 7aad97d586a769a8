/- The examples that every law of this layer calls first: their answers are the document's. -/
import Derived.Test.YtgicdfhhaefibaaExt
import Derived.Test.YtgicdfhhaefibaaShelf
import Derived.Deep.RegionWith
namespace Go.Proofs.Ytgicdfhhaefibaa
open Go.Sort Go.ChangeShapes Go.WideShapes Go.ChangeAt Go.RowKit

theorem Div64_low (lo y : Int) (w : World) (h0 : 0 ≤ lo) (h1 : lo ≤ 18446744073709551615) (hy : 1 ≤ y) (hy2 : y ≤ 18446744073709551615) :
    Calls Try.prog 46 #[.int .u64 0, .int .u64 lo, .int .u64 y] w fun e w' => e = .returned (.tuple #[.int .u64 (lo / y), .int .u64 (lo % y)]) ∧ ∃ n, w' = w.drewN n := by
  have hb : (y == 0) = false := by simp; omega
  go_enter Try.func46, Try.ntmps46
  go_wp2
  go_quiet (fail)
  go_wp2
  go_ret2
  exact ⟨rfl, _, rfl⟩

theorem Rem64_low (lo y : Int) (w : World) (h0 : 0 ≤ lo) (h1 : lo ≤ 18446744073709551615) (hy : 1 ≤ y) (hy2 : y ≤ 18446744073709551615) :
    Calls Try.prog 44 #[.int .u64 0, .int .u64 lo, .int .u64 y] w fun e w' => e = .returned (.int .u64 (lo % y)) ∧ ∃ n, w' = w.drewN n := by
  go_enter Try.func44, Try.ntmps44
  go_wp2_with (go_at_call 46; refine (Div64_low _ _ _ h0 h1 hy hy2).mono ?_; rintro e w' ⟨rfl, n, rfl⟩)
  go_ret
  exact ⟨rfl, _, rfl⟩

theorem mulMod_small (a b m : Nat) (w : World) (ha : a < 4294967296) (hb : b < 4294967296) (hm : 1 ≤ m) (hm2 : m ≤ 9223372036854775807) :
    Calls Try.prog 40 #[.int .i64 a, .int .i64 b, .int .i64 m] w fun e w' => e = .returned (.int .i64 ((a * b % m : Nat) : Int)) ∧ ∃ n, w' = w.drewN n := by
  have hp : a * b < 18446744073709551616 := by
    have := Nat.mul_le_mul (show a ≤ 4294967295 by omega) (show b ≤ 4294967295 by omega)
    omega
  have e1 : a * b / 18446744073709551616 = 0 := Nat.div_eq_of_lt hp
  have e2 : a * b % 18446744073709551616 = a * b := Nat.mod_eq_of_lt hp
  have hl : a * b % m < m := Nat.mod_lt _ (by omega)
  have H := Lib.hid (show ∀ w, Calls Try.prog 39 #[.int .u64 a, .int .u64 b] w fun e w' => e = .returned (.tuple #[.int .u64 0, .int .u64 ((a * b : Nat) : Int)]) ∧ w' = w from fun w => by
    have := Try.bits_Mul64 a b (by omega) (by omega) w
    rw [e1, e2] at this
    exact this)
  have H2 := Lib.hid (show ∀ w, Calls Try.prog 44 #[.int .u64 0, .int .u64 ((a * b : Nat) : Int), .int .u64 m] w fun e w' => e = .returned (.int .u64 ((a * b % m : Nat) : Int)) ∧ ∃ n, w' = w.drewN n from fun w => by
    have := Rem64_low ((a * b : Nat) : Int) m w (by omega) (by omega) (by omega) (by omega)
    rw [show ((a * b : Nat) : Int) % (m : Int) = ((a * b % m : Nat) : Int) from rfl] at this
    exact this)
  generalize a * b % m = v at *
  generalize a * b = p at *
  clear e1 e2
  go_enter Try.func40, Try.ntmps40
  go_wp2_with (first | (go_at_call 39; refine (H.out _).mono ?_; rintro e w' ⟨rfl, hw⟩; rw [hw]) | (go_at_call 44; refine (H2.out _).mono ?_; rintro e w' ⟨rfl, n, rfl⟩))
  go_ret
  exact ⟨rfl, _, rfl⟩

theorem inv35 (w : World) : Calls Try.prog 41 #[.int .i64 3, .int .i64 5] w fun e w' => e = .returned (.int .i64 2) ∧ w = w' :=
  (inverse_any 3 5 w (by omega) (by omega) rfl).mono fun e w' ⟨x, he, h0, h1, h2, hw⟩ => by
    obtain rfl : x = 2 := by omega
    exact ⟨he, hw⟩
theorem mm1 (w : World) : Calls Try.prog 40 #[.int .i64 1, .int .i64 2, .int .i64 5] w fun e w' => e = .returned (.int .i64 2) ∧ ∃ n, w' = w.drewN n := mulMod_small 1 2 5 w (by omega) (by omega) (by omega) (by omega)
theorem mm2 (w : World) : Calls Try.prog 40 #[.int .i64 2, .int .i64 2, .int .i64 5] w fun e w' => e = .returned (.int .i64 4) ∧ ∃ n, w' = w.drewN n := mulMod_small 2 2 5 w (by omega) (by omega) (by omega) (by omega)
theorem mod_c (n m v : Int) (w : World) (h : n % m = v) (hm : 1 ≤ m) (hm2 : m ≤ 9223372036854775807) : Calls Try.prog 35 #[.int .i64 n, .int .i64 m] w fun e w' => e = .returned (.int .i64 v) ∧ w = w' := mod_is n m v w hm hm2 h
theorem m610 (w : World) : Calls Try.prog 35 #[.int .i64 6, .int .i64 10] w fun e w' => e = .returned (.int .i64 6) ∧ w = w' := mod_c 6 10 6 w rfl (by omega) (by omega)
theorem m310 (w : World) : Calls Try.prog 35 #[.int .i64 3, .int .i64 10] w fun e w' => e = .returned (.int .i64 3) ∧ w = w' := mod_c 3 10 3 w rfl (by omega) (by omega)
theorem m410 (w : World) : Calls Try.prog 35 #[.int .i64 4, .int .i64 10] w fun e w' => e = .returned (.int .i64 4) ∧ w = w' := mod_c 4 10 4 w rfl (by omega) (by omega)
theorem m25 (w : World) : Calls Try.prog 35 #[.int .i64 2, .int .i64 5] w fun e w' => e = .returned (.int .i64 2) ∧ w = w' := mod_c 2 5 2 w rfl (by omega) (by omega)
theorem m15 (w : World) : Calls Try.prog 35 #[.int .i64 1, .int .i64 5] w fun e w' => e = .returned (.int .i64 1) ∧ w = w' := mod_c 1 5 1 w rfl (by omega) (by omega)
theorem mul35 (w : World) : Calls Try.prog 39 #[.int .u64 3, .int .u64 5] w fun e w' => e = .returned (.tuple #[.int .u64 0, .int .u64 15]) ∧ w = w' := (Try.bits_Mul64 3 5 (by omega) (by omega) w).mono fun _ _ ⟨a, b⟩ => ⟨a, b.symm⟩
theorem gcd35 (w : World) : Calls Try.prog 38 #[.int .i64 3, .int .i64 5] w fun e w' => e = .returned (.int .i64 1) ∧ ∃ n, w' = w.drewN n := gcd_any 3 5 w (by omega) (by omega) (by omega) (by omega)
theorem gcd610 (w : World) : Calls Try.prog 38 #[.int .i64 6, .int .i64 10] w fun e w' => e = .returned (.int .i64 2) ∧ ∃ n, w' = w.drewN n := gcd_any 6 10 w (by omega) (by omega) (by omega) (by omega)

set_option maxHeartbeats 1000000 in
theorem Solve_no (w : World) : Calls Try.prog 27 #[.int .i64 6, .int .i64 3, .int .i64 10] w fun e w' => e = .returned (.tuple #[.agg #[.int .i64 0, .int .i64 0], .bool false, .int .i64 0]) ∧ Below w.heap.size w w' := by
  go_enter Try.func27, Try.ntmps27
  go_wp2_with (first | (go_at_call 35; first | ((with_reducible refine (m610 _).mono ?_); rintro e w' ⟨rfl, rfl⟩) | ((with_reducible refine (m310 _).mono ?_); rintro e w' ⟨rfl, rfl⟩)) | (go_at_call 38; first | ((with_reducible refine (gcd610 _).mono ?_); rintro e w' ⟨rfl, n, rfl⟩)))
  exact bodyPost_ret (v := .tuple #[.agg #[.int .i64 0, .int .i64 0], .bool false, .int .i64 0]) (by simp [results, Try.results27, go_sem]) rfl ⟨rfl, (by repeat (first | exact Below.refl _ _ | refine below_drewN ?_ _ | refine Below.drew ?_ | refine Below.alloc ?_ (by simp) _ | refine Below.setCell ?_ (by simp) _))⟩

set_option maxHeartbeats 1000000 in
theorem Solve_yes (w : World) : Calls Try.prog 27 #[.int .i64 6, .int .i64 4, .int .i64 10] w fun e w' => e = .returned (.tuple #[.agg #[.int .i64 4, .int .i64 5], .bool true, .int .i64 0]) ∧ Below w.heap.size w w' := by
  have w2 : IntKind.i64.wrap 2 = 2 := rfl
  have w3 : IntKind.i64.wrap 3 = 3 := rfl
  go_enter Try.func27, Try.ntmps27
  go_wp2_with (first | (go_at_call 35; first | ((with_reducible refine (m610 _).mono ?_); rintro e w' ⟨rfl, rfl⟩) | ((with_reducible refine (m410 _).mono ?_); rintro e w' ⟨rfl, rfl⟩)) | (go_at_call 38; first | ((with_reducible refine (gcd610 _).mono ?_); rintro e w' ⟨rfl, n, rfl⟩)))
  go_region_with ((first | (go_at_call 35; first | ((with_reducible refine (m25 _).mono ?_); rintro e w' ⟨rfl, rfl⟩)) | (go_at_call 41; first | ((with_reducible refine (inv35 _).mono ?_); rintro e w' ⟨rfl, rfl⟩)) | (go_at_call 40; first | ((with_reducible refine (mm2 _).mono ?_); rintro e w' ⟨rfl, n, rfl⟩))))
  all_goals go_wp2
  all_goals exact bodyPost_ret (v := .tuple #[.agg #[.int .i64 4, .int .i64 5], .bool true, .int .i64 0]) (by simp [results, Try.results27, go_sem]) rfl ⟨rfl, (by repeat (first | exact Below.refl _ _ | refine below_drewN ?_ _ | refine Below.drew ?_ | refine Below.alloc ?_ (by simp) _ | refine Below.setCell ?_ (by simp) _))⟩

theorem vld23 (w : World) : Calls Try.prog 37 #[.agg #[.int .i64 2, .int .i64 3]] w fun e w' => e = .returned (.bool true) ∧ Below w.heap.size w w' := valid_is 2 3 true w (by decide)
theorem vld35 (w : World) : Calls Try.prog 37 #[.agg #[.int .i64 3, .int .i64 5]] w fun e w' => e = .returned (.bool true) ∧ Below w.heap.size w w' := valid_is 3 5 true w (by decide)

theorem below3 {w : World} {a b c : Obj} {w2 w3 : World} (h2 : Below (((w.alloc a).alloc b).alloc c).heap.size (((w.alloc a).alloc b).alloc c) w2) (h3 : Below w2.heap.size w2 w3) : Below (((w.alloc a).alloc b).alloc c).heap.size (((w.alloc a).alloc b).alloc c) w3 :=
  h2.trans (h3.mono h2.size)

theorem third0 {w : World} {a b : Obj} {x y : Value} {T : TypeId} : (((w.alloc a).alloc b).alloc (.cells #[x, y] T)).cell? ⟨w.heap.size + 1 + 1, 0, none⟩ = some x := by
  rw [World.cell?_alloc_at _ _ _ _ (by simp)]; rfl
theorem third1 {w : World} {a b : Obj} {x y : Value} {T : TypeId} : (((w.alloc a).alloc b).alloc (.cells #[x, y] T)).cell? ⟨w.heap.size + 1 + 1, 1, none⟩ = some y := by
  rw [World.cell?_alloc_at _ _ _ _ (by simp)]; rfl

set_option maxHeartbeats 4000000 in
theorem Meet_ex (w : World) : Calls Try.prog 19 #[.agg #[.int .i64 2, .int .i64 3], .agg #[.int .i64 3, .int .i64 5]] w fun e w' => e = .returned (.tuple #[.agg #[.int .i64 8, .int .i64 15], .bool true, .int .i64 0]) ∧ Below w.heap.size w w' := by
  have w2 : IntKind.i64.wrap 2 = 2 := rfl
  have w3 : IntKind.i64.wrap 3 = 3 := rfl
  have w5 : IntKind.i64.wrap 5 = 5 := rfl
  have w1 : IntKind.i64.wrap 1 = 1 := rfl
  have x3 : IntKind.u64.wrap 3 = 3 := rfl
  have x5 : IntKind.u64.wrap 5 = 5 := rfl
  go_enter Try.func19, Try.ntmps19
  go_wp2_with fail
  refine (vld23 _).mono ?_
  rintro e wa ⟨rfl, hb⟩
  obtain ⟨hc, hf⟩ := bcell hb
  go_wp2_with fail
  refine (vld35 _).mono ?_
  rintro e wb ⟨rfl, hb3⟩
  have hb4 := below3 hb hb3
  clear hc hf hb hb3
  obtain ⟨hc, hf⟩ := bcell hb4
  go_wp2_with (go_at_call 38; refine (drawn_below (gcd35 _)).mono ?_; rintro e wc ⟨rfl, hbc⟩; have hb5 := below3 hb4 hbc; clear hc hf hb4 hbc; obtain ⟨hc, hf⟩ := bcell hb5)
  go_quiet ((go_at_call 39; exact Calls.quiet_of_same (flip (mul35 _))))
  have hb6 := below_drewN hb5 nq
  clear hc hf hb5
  generalize World.drewN _ nq = wd at *
  obtain ⟨hc, hf⟩ := bcell hb6
  go_wp2
  go_quiet ((first | (go_at_call 35; exact Calls.quiet_of_same (flip (m15 _))) | (go_at_call 41; exact Calls.quiet_of_same (flip (inv35 _))) | (go_at_call 40; exact Calls.quiet_of (mm1 _))))
  go_wp2
  have c0 : wd.cell? ⟨w.heap.size + 1 + 1, 0, none⟩ = some (.int .i64 0) := (hc _ _ (by simp)).trans third0
  have c1 : wd.cell? ⟨w.heap.size + 1 + 1, 1, none⟩ = some (.int .i64 0) := (hc _ _ (by simp)).trans third1
  refine bodyPost_ret (v := .tuple #[.agg #[.int .i64 8, .int .i64 15], .bool true, .int .i64 0]) (by simp [results, Try.results19, go_sem, c0, c1]) rfl ⟨rfl, ?_⟩
  refine ((below_drewN ?_ nq).setCell (by simp; omega) _).setCell (by simp; omega) _
  exact ((((Below.refl _ _).alloc (Nat.le_refl _) _).alloc (by simp) _).alloc (by simp; omega) _).trans (hb6.mono (by simp; omega))
end Go.Proofs.Ytgicdfhhaefibaa
