/- The reference of a session: Done, Transaction. -/
import Derived.Test.YtgcjbpiofcggcaaOne
import Derived.Test.YtgcjbpiofcggcaaRsp
import Derived.Test.YtgcjbpiofcggcaaSta
namespace Go.Proofs.Ytgcjbpiofcggcaa
open Go.ChangeShapes Go.WideShapes Go.ChangeAt Go.RowKit Go.ChangeMaps

def Rv (A : Option Addr) (n c num cur ex : Nat) : Array Value := #[.int .i64 (num : Int), .slice A n c, .int .i64 (cur : Int), .int .i64 (ex : Int)]
set_option maxRecDepth 100000 in
theorem RDone_any (A : Option Addr) (n c : Nat) (K : List Int) (w : World) (hr : At w A n 1 (ic .i64 K)) (hn : n ≤ 300000000000) (num cur ex : Nat) (hc : cur ≤ 300000000000) (b : Bool) (hb : decide ((splitM K).length ≤ cur) = b) :
    Calls Try.prog 28 #[.agg #[.int .i64 (num : Int), .slice A n c, .int .i64 (cur : Int), .int .i64 (ex : Int)]] w fun e w' => e = .returned (.bool b) ∧ Below w.heap.size w w' := by
  have HR := Lib.hid hr
  have HT := Lib.hid (show (splitM K).length ≤ n by have := splitM_len K; rw [hr.int] at this; exact this)
  have HBB := Lib.hid hb
  clear hr hb
  go_enter Try.func28, Try.ntmps28
  go_wp2_with fail
  have HW := Lib.hid ((Below.refl _ w).alloc (Nat.le_refl _) (.cells #[.int .i64 (num : Int), .slice A n c, .int .i64 (cur : Int), .int .i64 (ex : Int)] 36))
  have HA := Lib.hid (HR.out.alloc (.cells #[.int .i64 (num : Int), .slice A n c, .int .i64 (cur : Int), .int .i64 (ex : Int)] 36))
  have c1 : (w.alloc (.cells #[.int .i64 (num : Int), .slice A n c, .int .i64 (cur : Int), .int .i64 (ex : Int)] 36)).cell? ⟨w.heap.size, 1, none⟩ = some (.slice A n c) := newcell 1 _ rfl rfl
  have c2 : (w.alloc (.cells #[.int .i64 (num : Int), .slice A n c, .int .i64 (cur : Int), .int .i64 (ex : Int)] 36)).cell? ⟨w.heap.size, 2, none⟩ = some (.int .i64 (cur : Int)) := newcell 2 _ rfl rfl
  generalize w.alloc (.cells #[.int .i64 (num : Int), .slice A n c, .int .i64 (cur : Int), .int .i64 (ex : Int)] 36) = w1 at *
  have D5 : Below w1.heap.size w1 w1.drew := below_drew (Below.refl _ _)
  have c1 := fun d os => cell_regrown c1 d os
  have c2 := fun d os => cell_regrown c2 d os
  refine wp_region_one_below 4 (fun v w' => ∃ A2 c3, v = .slice A2 (splitM K).length c3 ∧ Below w1.heap.size w1 w') (by kernel_rfl) (by kernel_rfl) (by kernel_rfl) (by kernel_rfl) (fun _ _ ⟨_, _, _, h⟩ => h) ?_
  refine ⟨_, _, rfl, ?_⟩
  simp only [List.take_succ_cons, List.take_zero]
  repeat (first | go_big_quiet_step (fail) | quiet_step (fail))
  refine wpQuiet_nil ⟨?_, ?_⟩
  · refine ⟨by first | rfl | simp [Region.wanted, yielded], ?_⟩
    go_simp
    refine ⟨_, _, ⟨rfl, rfl⟩, ?_⟩
    refine (RSplit_any _ _ _ _ _ (HA.out.below D5) hn).mono ?_
    rintro e w6 ⟨v6, rfl, o6, hb6⟩
    obtain ⟨A3, c3, rfl, _, _, _⟩ := At.of_own o6
    exact ⟨_, rfl, ⟨A3, c3, rfl⟩, D5.trans hb6⟩
  · rintro v6 w6 ⟨A3, c3, rfl, hb6⟩
    have HB1 := Lib.hid hb6
    clear hb6 c1 c2
    have hT := HT.out
    generalize (splitM K).length = t at *
    repeat (first | go_big_quiet_step (fail) | quiet_step (fail))
    refine wpQuiet_nil ?_
    go_wp2
    go_ret
    exact ⟨ret_bool (by rw [← HBB.out, Bool.eq_iff_iff]), more_below HW.out HB1.out⟩
set_option maxRecDepth 100000 in
theorem RTrans_any (A : Option Addr) (n c : Nat) (w : World) (num cur ex : Nat) (hc : cur ≤ 300000000000) (hn : num < 8) :
    Calls Try.prog 29 #[.agg #[.int .i64 (num : Int), .slice A n c, .int .i64 (cur : Int), .int .i64 (ex : Int)]] w fun e w' => e = .returned (.int .i64 (1 + cur * 8 + num : Nat)) ∧ Below w.heap.size w w' := by
  have e1 : IntKind.i64.wrap ((cur : Int) * 8) = ((cur * 8 : Nat) : Int) := by rw [IntWalk.i64_in _ (by omega)]; simp
  have e2 : IntKind.i64.wrap (1 + ((cur * 8 : Nat) : Int)) = ((1 + cur * 8 : Nat) : Int) := by rw [IntWalk.i64_in _ (by omega)]; simp
  have e3 : IntKind.i64.wrap (((1 + cur * 8 : Nat) : Int) + (num : Int)) = ((1 + cur * 8 + num : Nat) : Int) := by rw [IntWalk.i64_in _ (by omega)]; simp
  go_enter Try.func29, Try.ntmps29
  go_wp2
  go_ret
  exact ⟨ret_int (by omega), (Below.refl _ w).alloc (Nat.le_refl _) _⟩
end Go.Proofs.Ytgcjbpiofcggcaa
