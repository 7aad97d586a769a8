/- Law ScheduleRoundRobin: the walk. -/
import Derived.Test.YthageombfifffaaDoorEnv
namespace Go.Proofs.YthageombfifffaaDoor
open Go.ChangeShapes Go.WideShapes Go.ChangeAt Go.RowKit Go.ChangeMaps

theorem rr_valid (S m : Nat) (h0 : 0 < S) (h : S ≤ 8) : ((rr S m).all fun a => vA a 8) = true := by
  rw [List.all_eq_true]
  intro x hx
  unfold rr at hx
  obtain ⟨t, ht, rfl⟩ := List.mem_map.1 hx
  have := Nat.mod_lt t h0
  unfold vA
  rw [if_pos rfl]
  simp; omega
theorem rr_validZ (R : Nat) : ((rr 0 (R * 0)).all fun a => vA a 8) = true := by simp [rr]
set_option maxRecDepth 100000 in
set_option maxHeartbeats 1000000 in
theorem scheduleRoundRobin_walk (s r : Int) (w : World) (l0 : -9223372036854775808 ≤ s) (g0 : s ≤ 9223372036854775807) (l1 : -9223372036854775808 ≤ r) (g1 : r ≤ 9223372036854775807) (hE : Env w) :
    Calls Tryd.prog 3 #[.int .i64 s, .int .i64 r] w fun e w' => e = .returned (.bool true) ∧ Below w.heap.size w w' := by
  have HE := Lib.hid hE
  have AW := Lib.hid (fun w h => awake_any w h)
  have F := Lib.hid (fun w => few_any s r w)
  have b1 := wi_bd s 0 8 (by omega)
  have b2 := wi_bd r 0 10000 (by omega)
  obtain ⟨S, hS⟩ := Int.eq_ofNat_of_zero_le b1.1
  obtain ⟨R, hR⟩ := Int.eq_ofNat_of_zero_le b2.1
  have hS8 : S ≤ 8 := by omega
  have hR1 : R ≤ 10000 := by omega
  have hm : R * S ≤ 80000 := by have : R * S ≤ 10000 * 8 := Nat.mul_le_mul hR1 hS8; omega
  have C1 := Lib.hid (fun w => RoundRobin_any s r S R w hS hR)
  have C2 := Lib.hid (fun w => rRoundRobin_any s r S R w hS hR)
  have SA := Lib.hid (fun (A : Option Addr) (c : Nat) (D : Option Addr) (d : Nat) (w : World) h1 h2 => Same_any A (R * S) c D d (rr S (R * S)) w h1 h2 (by omega))
  have V : ∀ (A : Option Addr) (c : Nat) (w : World), Acts w A (R * S) (rr S (R * S)) → Calls Tryd.prog 15 #[.slice A (R * S) c, .int .i64 8] w fun e w' => e = .returned (.bool true) ∧ Below w.heap.size w w' := fun A c w h => by
    have := Valid_any A (R * S) c (rr S (R * S)) 8 w h (by omega)
    rw [show ((rr S (R * S)).all fun a => vA a 8) = true from by
      by_cases h0 : S = 0
      · subst h0; exact rr_validZ R
      · exact rr_valid S _ (by omega) hS8] at this
    exact this
  have V := Lib.hid V
  clear hE b1 b2 hS hR hS8 hR1
  cases hf : fewB s r
  · rw [hf] at F
    clear C1 C2 SA V
    go_enter Tryd.func3, Tryd.ntmps3
    go_wp2_with fail
    refine (AW.out _ HE.out).mono ?_
    rintro e w1 ⟨rfl, hb1⟩
    have B1 := Lib.hid hb1
    clear hb1
    go_wp2_with fail
    refine (F.out _).mono ?_
    rintro e w2 ⟨rfl, rfl⟩
    go_wp2_with fail
    refine (AW.out _ (HE.out.below B1.out)).mono ?_
    rintro e w2 ⟨rfl, hb2⟩
    have B2 := Lib.hid (more_below B1.out hb2)
    clear hb2
    go_wp2
    go_ret
    exact ⟨rfl, B2.out⟩
  · rw [hf] at F
    go_enter Tryd.func3, Tryd.ntmps3
    go_wp2_with fail
    refine (AW.out _ HE.out).mono ?_
    rintro e w1 ⟨rfl, hb1⟩
    have B1 := Lib.hid hb1
    clear hb1
    go_wp2_with fail
    refine (F.out _).mono ?_
    rintro e w2 ⟨rfl, rfl⟩
    go_wp2_with fail
    refine (C1.out _).mono ?_
    rintro e w2 ⟨v, rfl, hown, hb2⟩
    obtain ⟨A, c, rfl, ha⟩ := Acts_own hown
    have B2 := Lib.hid (more_below B1.out hb2)
    have HA := Lib.hid ha
    clear hown hb2 ha
    go_wp2_with fail
    refine (C2.out _).mono ?_
    rintro e w3 ⟨v, rfl, hown, hb3⟩
    obtain ⟨A', c', rfl, ha'⟩ := Acts_own hown
    have B3 := Lib.hid (more_below B2.out hb3)
    have HA3 := Lib.hid (HA.out.below hb3)
    have HA' := Lib.hid ha'
    clear hown hb3 ha'
    go_wp2_with fail
    refine (SA.out _ _ _ _ _ HA3.out HA'.out).mono ?_
    rintro e w4 ⟨rfl, hb4⟩
    have B4 := Lib.hid (more_below B3.out hb4)
    have HA4 := Lib.hid (HA3.out.below hb4)
    clear hb4
    go_wp2_with fail
    refine (V.out _ _ _ HA4.out).mono ?_
    rintro e w5 ⟨rfl, hb5⟩
    have B5 := Lib.hid (more_below B4.out hb5)
    clear hb5
    go_wp2
    go_ret
    exact ⟨rfl, B5.out⟩
end Go.Proofs.YthageombfifffaaDoor
