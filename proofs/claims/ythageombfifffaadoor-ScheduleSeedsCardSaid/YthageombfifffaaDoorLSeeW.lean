/- Law ScheduleSeeds: the walk. -/
import Derived.Test.YthageombfifffaaDoorRts
namespace Go.Proofs.YthageombfifffaaDoor
open Go.ChangeShapes Go.WideShapes Go.ChangeAt Go.RowKit Go.ChangeMaps

set_option maxRecDepth 100000 in
set_option maxHeartbeats 1000000 in
theorem scheduleSeeds_walk (s l seed : Int) (w : World) (l0 : 0 ≤ s) (g0 : s ≤ 255) (l1 : 0 ≤ l) (g1 : l ≤ 255) (l2 : 0 ≤ seed) (g2 : seed ≤ 18446744073709551615) (hE : Env w) :
    Calls Tryd.prog 6 #[.int .u8 s, .int .u8 l, .int .u64 seed] w fun e w' => e = .returned (.bool true) ∧ Below w.heap.size w w' := by
  have HE := Lib.hid hE
  have AW := Lib.hid (fun w h => awake_any w h)
  obtain ⟨S, hS⟩ : ∃ S : Nat, s % 8 + 1 = (S : Int) := ⟨(s % 8 + 1).toNat, by omega⟩
  obtain ⟨L, rfl⟩ : ∃ L : Nat, l = (L : Int) := ⟨l.toNat, by omega⟩
  have hS0 : (0 : Int) < S := by omega
  have hS8 : S ≤ 8 := by omega
  have C1 := Lib.hid (fun w => Random_any S L 20 50 seed S 20 50 L w (by unfold wi; split <;> (try split) <;> omega) hS0 (by unfold wi; split <;> (try split) <;> omega) rfl rfl l2 (by omega))
  have C2 := Lib.hid (fun w => rRandom_any S L 20 50 seed S 20 50 L w (by unfold wi; split <;> (try split) <;> omega) hS0 (by unfold wi; split <;> (try split) <;> omega) rfl rfl l2 (by omega))
  have V1 : ∀ (A : Option Addr) (c : Nat) (w : World), Acts w A L (rL S 20 50 seed L) → Calls Tryd.prog 15 #[.slice A L c, .int .i64 S] w fun e w' => e = .returned (.bool true) ∧ Below w.heap.size w w' := fun A c w h => by
    have := Valid_any A L c _ S w h (by omega)
    rw [rL_valid _ _ _ _ _ hS0] at this
    exact this
  have V2 : ∀ (A : Option Addr) (c : Nat) (w : World), Acts w A L (rL S 20 50 seed L) → Calls Tryd.prog 18 #[.slice A L c, .int .i64 S] w fun e w' => e = .returned (.bool true) ∧ Below w.heap.size w w' := fun A c w h => by
    have := rValid_any A L c _ S w h (by omega)
    rw [rL_valid _ _ _ _ _ hS0] at this
    exact this
  have V1 := Lib.hid V1
  have V2 := Lib.hid V2
  have SA := Lib.hid (fun (A : Option Addr) (c : Nat) (D : Option Addr) (d : Nat) (w : World) h1 h2 => Same_any A L c D d (rL S 20 50 seed L) w h1 h2 (by omega))
  clear hE
  go_enter Tryd.func6, Tryd.ntmps6
  go_wp2_with fail
  refine (AW.out _ HE.out).mono ?_
  rintro e w1 ⟨rfl, hb1⟩
  have B1 := Lib.hid hb1
  clear hb1
  have HA := Lib.hid ((Below.refl w1.heap.size w1).alloc (Nat.le_refl _) (.cells #[.int .i64 20, .int .i64 50] 32))
  have B2 := Lib.hid (more_below B1.out HA.out)
  go_wp2_with fail
  clear hS
  refine (C1.out _).mono ?_
  rintro e w2 ⟨v, rfl, hown, hb⟩
  obtain ⟨A, c, rfl, ha⟩ := Acts_own hown
  have B3 := Lib.hid (more_below B2.out hb)
  have HA1 := Lib.hid ha
  clear hown hb ha
  go_wp2_with fail
  refine (V1.out _ _ _ HA1.out).mono ?_
  rintro e w3 ⟨rfl, hb⟩
  have B4 := Lib.hid (more_below B3.out hb)
  have HA2 := Lib.hid (HA1.out.below hb)
  clear hb
  go_wp2_with fail
  refine (V2.out _ _ _ HA2.out).mono ?_
  rintro e w4 ⟨rfl, hb⟩
  have B5 := Lib.hid (more_below B4.out hb)
  have HA3 := Lib.hid (HA2.out.below hb)
  clear hb
  go_wp2_with fail
  refine (C2.out _).mono ?_
  rintro e w5 ⟨v, rfl, hown, hb⟩
  obtain ⟨A', c', rfl, ha⟩ := Acts_own hown
  have B6 := Lib.hid (more_below B5.out hb)
  have HA4 := Lib.hid (HA3.out.below hb)
  have HA5 := Lib.hid ha
  clear hown hb ha
  go_wp2_with fail
  refine (SA.out _ _ _ _ _ HA4.out HA5.out).mono ?_
  rintro e w6 ⟨rfl, hb⟩
  have B7 := Lib.hid (more_below B6.out hb)
  clear hb
  go_wp2
  go_ret
  exact ⟨rfl, B7.out⟩
end Go.Proofs.YthageombfifffaaDoor
