/- Law ScheduleRandom: the walk. -/
import Derived.Test.YthageombfifffaaDoorRts
namespace Go.Proofs.YthageombfifffaaDoor
open Go.ChangeShapes Go.WideShapes Go.ChangeAt Go.RowKit Go.ChangeMaps

set_option maxRecDepth 100000 in
set_option maxHeartbeats 1000000 in
theorem scheduleRandom_walk (s l : Int) (x : Rates) (w : World) (l0 : -9223372036854775808 ≤ s) (g0 : s ≤ 9223372036854775807) (l1 : -9223372036854775808 ≤ l) (g1 : l ≤ 9223372036854775807) (hx : x.ok) (hE : Env w) :
    Calls Tryd.prog 5 #[.int .i64 s, .int .i64 l, x.agg] w fun e w' => e = .returned (.bool true) ∧ Below w.heap.size w w' := by
  have HE := Lib.hid hE
  have AW := Lib.hid (fun w h => awake_any w h)
  have F := Lib.hid (fun w => few_any s l w)
  obtain ⟨ck, cr⟩ := x
  obtain ⟨q0, q1, q2, q3⟩ := hx
  simp only at q0 q1 q2 q3
  show Calls Tryd.prog 5 #[.int .i64 s, .int .i64 l, .agg #[.int .i64 ck, .int .i64 cr]] w _
  clear hE
  cases hf : fewB s l
  · rw [hf] at F
    go_enter Tryd.func5, Tryd.ntmps5
    have HA := Lib.hid ((Below.refl w.heap.size w).alloc (Nat.le_refl _) (.cells #[.int .i64 ck, .int .i64 cr] 32))
    go_wp2_with fail
    refine (AW.out _ (HE.out.below HA.out)).mono ?_
    rintro e w1 ⟨rfl, hb1⟩
    have B1 := Lib.hid (more_below HA.out hb1)
    have f0 : w1.cell? ⟨w.heap.size, 0, none⟩ = some (.int .i64 ck) := keepcell hb1 (newcell 0 _ rfl rfl)
    have f1 : w1.cell? ⟨w.heap.size, 1, none⟩ = some (.int .i64 cr) := keepcell hb1 (newcell 1 _ rfl rfl)
    clear hb1
    go_wp2_with fail
    refine (F.out _).mono ?_
    rintro e w2 ⟨rfl, rfl⟩
    go_wp2_with fail
    refine (AW.out _ (HE.out.below B1.out)).mono ?_
    rintro e w2 ⟨rfl, hb2⟩
    have B2 := Lib.hid (more_below B1.out hb2)
    clear hb2
    go_wp2
    go_ret
    exact ⟨rfl, B2.out⟩
  rw [hf] at F
  have b1 := wi_bd s 0 8 (by omega)
  have b2 := wi_bd l 0 10000 (by omega)
  obtain ⟨S, hS⟩ := Int.eq_ofNat_of_zero_le b1.1
  obtain ⟨L, hL⟩ := Int.eq_ofNat_of_zero_le b2.1
  have hL1 : L ≤ 10000 := by omega
  by_cases h0 : S = 0
  · subst h0
    have C1 := Lib.hid (fun seed w => Random_none s l ck cr seed w hS)
    have C2 := Lib.hid (fun seed w => rRandom_none s l ck cr seed w hS)
    have SA := Lib.hid (fun (w : World) => Same_any none 0 0 none 0 [] w ⟨rfl, fun h => absurd h (by omega)⟩ ⟨rfl, fun h => absurd h (by omega)⟩ (by omega))
    clear hS hL b1 b2
    go_enter Tryd.func5, Tryd.ntmps5
    have HA := Lib.hid ((Below.refl w.heap.size w).alloc (Nat.le_refl _) (.cells #[.int .i64 ck, .int .i64 cr] 32))
    go_wp2_with fail
    refine (AW.out _ (HE.out.below HA.out)).mono ?_
    rintro e w1 ⟨rfl, hb1⟩
    have B1 := Lib.hid (more_below HA.out hb1)
    have f0 : w1.cell? ⟨w.heap.size, 0, none⟩ = some (.int .i64 ck) := keepcell hb1 (newcell 0 _ rfl rfl)
    have f1 : w1.cell? ⟨w.heap.size, 1, none⟩ = some (.int .i64 cr) := keepcell hb1 (newcell 1 _ rfl rfl)
    clear hb1
    go_wp2_with fail
    refine (F.out _).mono ?_
    rintro e w2 ⟨rfl, rfl⟩
    go_wp2_with fail
    have s0 : w1.cell? ⟨w.heap.size, 0, none⟩ = some (.int .i64 ck) ∧ w1.cell? ⟨w.heap.size, 1, none⟩ = some (.int .i64 cr) ∧ Below w.heap.size w w1 := ⟨f0, f1, B1.out⟩
    clear f0 f1
    go_region_held3 (fun w' => w'.cell? ⟨w.heap.size, 0, none⟩ = some (.int .i64 ck) ∧ w'.cell? ⟨w.heap.size, 1, none⟩ = some (.int .i64 cr) ∧ Below w.heap.size w w') (first | exact s0 | exact keepRd s0 | exact keepR ‹_› hb | exact keepRd ‹_› | go_keep)
      (first | (go_at_call 16; refine (C1.out _ _).mono ?_; rintro e w2 ⟨rfl, hb⟩) | (go_at_call 17; refine (C2.out _ _).mono ?_; rintro e w2 ⟨rfl, hb⟩) | (go_at_call 13; refine (SA.out _).mono ?_; rintro e w2 ⟨rfl, hb⟩))
    all_goals
      go_wp2
      go_ret
      exact ⟨rfl, (by assumption : _ ∧ _ ∧ Below w.heap.size w _).2.2⟩
  · have C1 := Lib.hid (fun seed h1 h2 w => Random_any s l ck cr seed S _ _ L w hS (by omega) hL rfl rfl h1 h2)
    have C2 := Lib.hid (fun seed h1 h2 w => rRandom_any s l ck cr seed S _ _ L w hS (by omega) hL rfl rfl h1 h2)
    generalize wi ck 0 1000 = ck' at *
    generalize wi cr 0 1000 = cr' at *
    have SA := Lib.hid (fun seed (A : Option Addr) (c : Nat) (D : Option Addr) (d : Nat) (w : World) h1 h2 => Same_any A L c D d (rL S ck' cr' seed L) w h1 h2 (by omega))
    clear hS hL b1 b2
    go_enter Tryd.func5, Tryd.ntmps5
    have HA := Lib.hid ((Below.refl w.heap.size w).alloc (Nat.le_refl _) (.cells #[.int .i64 ck, .int .i64 cr] 32))
    go_wp2_with fail
    refine (AW.out _ (HE.out.below HA.out)).mono ?_
    rintro e w1 ⟨rfl, hb1⟩
    have B1 := Lib.hid (more_below HA.out hb1)
    have f0 : w1.cell? ⟨w.heap.size, 0, none⟩ = some (.int .i64 ck) := keepcell hb1 (newcell 0 _ rfl rfl)
    have f1 : w1.cell? ⟨w.heap.size, 1, none⟩ = some (.int .i64 cr) := keepcell hb1 (newcell 1 _ rfl rfl)
    clear hb1
    go_wp2_with fail
    refine (F.out _).mono ?_
    rintro e w2 ⟨rfl, rfl⟩
    go_wp2_with fail
    have s0 : w1.cell? ⟨w.heap.size, 0, none⟩ = some (.int .i64 ck) ∧ w1.cell? ⟨w.heap.size, 1, none⟩ = some (.int .i64 cr) ∧ Below w.heap.size w w1 := ⟨f0, f1, B1.out⟩
    clear f0 f1
    go_region_held3 (fun w' => w'.cell? ⟨w.heap.size, 0, none⟩ = some (.int .i64 ck) ∧ w'.cell? ⟨w.heap.size, 1, none⟩ = some (.int .i64 cr) ∧ Below w.heap.size w w') (first | exact s0 | exact keepRd s0 | exact keepR ‹_› hb | exact keepRd ‹_› | go_keep)
      (first | (go_at_call 16; refine (C1.out _ (wrap_u64_bd _).1 (wrap_u64_bd _).2 _).mono ?_; rintro e w2 ⟨v, rfl, hown, hb⟩; obtain ⟨A, c, rfl, HA1⟩ := Acts_own hown; clear hown) | (go_at_call 17; refine (C2.out _ (wrap_u64_bd _).1 (wrap_u64_bd _).2 _).mono ?_; rintro e w2 ⟨v, rfl, hown, hb⟩; obtain ⟨A', c', rfl, HA2⟩ := Acts_own hown; have HA1 := HA1.below hb; clear hown) | (go_at_call 13; refine (SA.out _ _ _ _ _ _ HA1 HA2).mono ?_; rintro e w2 ⟨rfl, hb⟩))
    all_goals
      go_wp2
      go_ret
      exact ⟨rfl, (by assumption : _ ∧ _ ∧ Below w.heap.size w _).2.2⟩
end Go.Proofs.YthageombfifffaaDoor
