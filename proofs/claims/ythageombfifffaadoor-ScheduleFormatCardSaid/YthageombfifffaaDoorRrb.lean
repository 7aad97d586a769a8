/- The steps of the sessions in turn. -/
import Derived.Test.YthageombfifffaaDoorWin
namespace Go.Proofs.YthageombfifffaaDoor
open Go.ChangeShapes Go.WideShapes Go.ChangeAt Go.RowKit Go.ChangeMaps

def rr (S m : Nat) : List Act := (List.range m).map fun t => ⟨1, ((t % S : Nat) : Int), 0, 0⟩
theorem rr_len (S m : Nat) : (rr S m).length = m := by simp [rr]
theorem rr_step (S k j : Nat) (h : j < S) : rr S (k * S + (j + 1)) = rr S (k * S + j) ++ [⟨1, j, 0, 0⟩] := by
  unfold rr
  rw [show k * S + (j + 1) = (k * S + j) + 1 by omega, List.range_succ, List.map_append]
  congr 1
  rw [List.map_singleton, Nat.add_comm, Nat.add_mul_mod_self_right, Nat.mod_eq_of_lt h]
set_option maxRecDepth 100000 in
set_option maxHeartbeats 1000000 in
theorem rRoundRobin_any (s r : Int) (S R : Nat) (w : World) (hS : wi s 0 8 = S) (hR : wi r 0 10000 = R) :
    Calls Tryd.prog 14 #[.int .i64 s, .int .i64 r] w fun e w' => ∃ v, e = .returned v ∧ w'.ownsRow w.heap.size 29 4 v (R * S) (ActC (rr S (R * S))) ∧ Below w.heap.size w w' := by
  obtain ⟨i0, hi, hz0, hz1, hz2⟩ := info_parts Tryd.info29
  have b1 := wi_bd s 0 8 (by omega)
  have b2 := wi_bd r 0 10000 (by omega)
  rw [hS] at b1
  rw [hR] at b2
  have C1 := fun w => clamp_any r 0 10000 w (by omega)
  have C2 := fun w => clamp_any s 0 8 w (by omega)
  rw [hR] at C1
  rw [hS] at C2
  have C1 := Lib.hid C1
  have C2 := Lib.hid C2
  have hS8 : S ≤ 8 := by omega
  have hR1 : R ≤ 10000 := by omega
  clear b1 b2 hS hR
  go_enter Tryd.func14, Tryd.ntmps14
  go_wp2
  go_loopw [5, 6] (fun v i wr => ∃ k : Nat, k ≤ R ∧ i = .int .i64 k ∧ wr.ownsRow w.heap.size 29 4 v (k * S) (ActC (rr S (k * S))) ∧ Below w.heap.size w wr) (fun _ i _ => R - (intOf i).toNat)
  case atStart => exact ⟨0, Nat.zero_le _, rfl, by rw [Nat.zero_mul]; exact World.ownsRow_nil _ _ _ _, Below.refl _ _⟩
  case round =>
    obtain ⟨k, hk, rfl, hown, hB⟩ := hrel
    by_cases hlt : k < R
    · have HO := Lib.hid hown
      have HB := Lib.hid hB
      clear hown hB
      go_wp2_with (go_at_call 24; first | ((with_reducible refine (C1.out _).mono ?_); rintro e w' ⟨rfl, rfl⟩) | ((with_reducible refine (C2.out _).mono ?_); rintro e w' ⟨rfl, rfl⟩))
      go_loopw [5, 7] (fun v i wr => ∃ j : Nat, j ≤ S ∧ i = .int .i64 j ∧ wr.ownsRow w.heap.size 29 4 v (k * S + j) (ActC (rr S (k * S + j))) ∧ Below w.heap.size w wr) (fun _ i _ => S - (intOf i).toNat)
      case atStart => exact ⟨0, Nat.zero_le _, rfl, HO.out, HB.out⟩
      case round =>
        obtain ⟨j, hj, rfl, hown, hB⟩ := hrel
        have hmul : (k + 1) * S ≤ 80000 := by
          have h1 : (k + 1) * S ≤ R * S := Nat.mul_le_mul_right _ hlt
          have h2 : R * S ≤ 10000 * 8 := Nat.mul_le_mul hR1 hS8
          omega
        rw [Nat.add_mul, Nat.one_mul] at hmul
        by_cases hl2 : j < S
        · have HM := Lib.hid hmul
          have HO := Lib.hid hown
          have HB := Lib.hid hB
          have H1 := Lib.hid (rr_step S k j hl2)
          clear hown hB
          generalize k * S = q at *
          go_wp2_with (first | (go_at_call 24; first | ((with_reducible refine (C1.out _).mono ?_); rintro e w' ⟨rfl, rfl⟩) | ((with_reducible refine (C2.out _).mono ?_); rintro e w' ⟨rfl, rfl⟩)) | (at_builtin; go_loud (refine wpList_append_own _ rfl _ _ 24 rfl w.heap.size 29 i0 (.agg #[.int .i64 0, .int .i64 0, .int .i64 0, .int .i64 0]) 4 32 Tryd.underlying24 hi hz0 hz1 hz2 rfl (by decide) _ _ _ rfl (HO.out.alloc _) ⟨wr.heap.size, 0, none⟩ 1 1 [.int .i64 1, .int .i64 j, .int .i64 0, .int .i64 0] rfl rfl ?c1 ?c2 ?c3 ?c4 ?c5 ?_)))
          case c1 =>
            intro jj u hj
            match jj, hj with
            | 0, hj => simp at hj; subst hj; simp [Addr.add]
            | 1, hj => simp at hj; subst hj; simp [Addr.add]
            | 2, hj => simp at hj; subst hj; simp [Addr.add]
            | 3, hj => simp at hj; subst hj; simp [Addr.add]
          case c2 => intro u hu; simp at hu; rcases hu with rfl | rfl | rfl | rfl <;> rfl
          case c3 => unfold maxLen; omega
          case c4 => omega
          case c5 => have := HB.out.size; simp; omega
          intro v' w1 hown' hgrow _
          have HB2 := Lib.hid ((HB.out.alloc (by have := HB.out.size; omega) _).grown hgrow (by have := HB.out.size; simp; omega) (fun j hj => (HO.out.lt j hj).1))
          have HO2 : Hid (w1.ownsRow w.heap.size 29 4 v' (q + (j + 1)) (ActC (rr S (q + (j + 1))))) := by
            refine Lib.hid ?_
            rw [H1.out, ActC_snoc]
            exact hown'
          clear hown' hgrow
          go_wp2
          go_roundw
          case rel => exact ⟨j + 1, by omega, by go_num, HO2.out, HB2.out⟩
          case measure => simp [intOf]; omega
        · obtain rfl : j = S := by omega
          have e1 : k * j + j = (k + 1) * j := by rw [Nat.add_mul, Nat.one_mul]
          rw [e1] at hown
          have HO := Lib.hid hown
          have HB := Lib.hid hB
          clear hown hB hmul e1
          go_wp2_with (go_at_call 24; first | ((with_reducible refine (C1.out _).mono ?_); rintro e w' ⟨rfl, rfl⟩) | ((with_reducible refine (C2.out _).mono ?_); rintro e w' ⟨rfl, rfl⟩))
          go_roundw
          case rel => exact ⟨k + 1, by omega, by go_num, HO.out, HB.out⟩
          case measure => simp [intOf]; omega
    · obtain rfl : k = R := by omega
      have HO := Lib.hid hown
      have HB := Lib.hid hB
      clear hown hB
      go_wp2_with (go_at_call 24; first | ((with_reducible refine (C1.out _).mono ?_); rintro e w' ⟨rfl, rfl⟩) | ((with_reducible refine (C2.out _).mono ?_); rintro e w' ⟨rfl, rfl⟩))
      go_ret
      exact ⟨_, rfl, HO.out, HB.out⟩
set_option maxRecDepth 100000 in
set_option maxHeartbeats 1000000 in
theorem RoundRobin_any (s r : Int) (S R : Nat) (w : World) (hS : wi s 0 8 = S) (hR : wi r 0 10000 = R) :
    Calls Tryd.prog 12 #[.int .i64 s, .int .i64 r] w fun e w' => ∃ v, e = .returned v ∧ w'.ownsRow w.heap.size 29 4 v (R * S) (ActC (rr S (R * S))) ∧ Below w.heap.size w w' := by
  obtain ⟨i0, hi, hz0, hz1, hz2⟩ := info_parts Tryd.info29
  have b1 := wi_bd s 0 8 (by omega)
  have b2 := wi_bd r 0 10000 (by omega)
  rw [hS] at b1
  rw [hR] at b2
  have C1 := fun w => within_any r 0 10000 w (by omega)
  have C2 := fun w => within_any s 0 8 w (by omega)
  rw [hR] at C1
  rw [hS] at C2
  have C1 := Lib.hid C1
  have C2 := Lib.hid C2
  have hS8 : S ≤ 8 := by omega
  have hR1 : R ≤ 10000 := by omega
  clear b1 b2 hS hR
  go_enter Tryd.func12, Tryd.ntmps12
  go_wp2_with (go_at_call 23; refine (C1.out _).mono ?_; rintro e w' ⟨rfl, rfl⟩)
  go_loopw [5, 9] (fun v i wr => ∃ k : Nat, k ≤ R ∧ i = .int .i64 k ∧ wr.ownsRow w.heap.size 29 4 v (k * S) (ActC (rr S (k * S))) ∧ Below w.heap.size w wr) (fun _ i _ => R - (intOf i).toNat)
  case atStart => exact ⟨0, Nat.zero_le _, rfl, by rw [Nat.zero_mul]; exact World.ownsRow_nil _ _ _ _, Below.refl _ _⟩
  case round =>
    obtain ⟨k, hk, rfl, hown, hB⟩ := hrel
    by_cases hlt : k < R
    · have HO := Lib.hid hown
      have HB := Lib.hid hB
      clear hown hB
      go_wp2_with (go_at_call 23; first | ((with_reducible refine (C1.out _).mono ?_); rintro e w' ⟨rfl, rfl⟩) | ((with_reducible refine (C2.out _).mono ?_); rintro e w' ⟨rfl, rfl⟩))
      go_loopw [5, 13] (fun v i wr => ∃ j : Nat, j ≤ S ∧ i = .int .i64 j ∧ wr.ownsRow w.heap.size 29 4 v (k * S + j) (ActC (rr S (k * S + j))) ∧ Below w.heap.size w wr) (fun _ i _ => S - (intOf i).toNat)
      case atStart => exact ⟨0, Nat.zero_le _, rfl, HO.out, HB.out⟩
      case round =>
        obtain ⟨j, hj, rfl, hown, hB⟩ := hrel
        have hmul : (k + 1) * S ≤ 80000 := by
          have h1 : (k + 1) * S ≤ R * S := Nat.mul_le_mul_right _ hlt
          have h2 : R * S ≤ 10000 * 8 := Nat.mul_le_mul hR1 hS8
          omega
        rw [Nat.add_mul, Nat.one_mul] at hmul
        by_cases hl2 : j < S
        · have HM := Lib.hid hmul
          have HO := Lib.hid hown
          have HB := Lib.hid hB
          have H1 := Lib.hid (rr_step S k j hl2)
          clear hown hB
          generalize k * S = q at *
          go_wp2_with (first | (at_builtin; go_loud (refine wpList_append_own _ rfl _ _ 24 rfl w.heap.size 29 i0 (.agg #[.int .i64 0, .int .i64 0, .int .i64 0, .int .i64 0]) 4 32 Tryd.underlying24 hi hz0 hz1 hz2 rfl (by decide) _ _ _ rfl (HO.out.alloc _) ⟨wr.heap.size, 0, none⟩ 1 1 [.int .i64 1, .int .i64 j, .int .i64 0, .int .i64 0] rfl rfl ?c1 ?c2 ?c3 ?c4 ?c5 ?_)))
          case c1 =>
            intro jj u hj
            match jj, hj with
            | 0, hj => simp at hj; subst hj; simp [Addr.add]
            | 1, hj => simp at hj; subst hj; simp [Addr.add]
            | 2, hj => simp at hj; subst hj; simp [Addr.add]
            | 3, hj => simp at hj; subst hj; simp [Addr.add]
          case c2 => intro u hu; simp at hu; rcases hu with rfl | rfl | rfl | rfl <;> rfl
          case c3 => unfold maxLen; omega
          case c4 => omega
          case c5 => have := HB.out.size; simp; omega
          intro v' w1 hown' hgrow _
          have HB2 := Lib.hid ((HB.out.alloc (by have := HB.out.size; omega) _).grown hgrow (by have := HB.out.size; simp; omega) (fun j hj => (HO.out.lt j hj).1))
          have HO2 : Hid (w1.ownsRow w.heap.size 29 4 v' (q + (j + 1)) (ActC (rr S (q + (j + 1))))) := by
            refine Lib.hid ?_
            rw [H1.out, ActC_snoc]
            exact hown'
          clear hown' hgrow
          go_wp2
          go_roundw
          case rel => exact ⟨j + 1, by omega, by go_num, HO2.out, HB2.out⟩
          case measure => simp [intOf]; omega
        · obtain rfl : j = S := by omega
          have e1 : k * j + j = (k + 1) * j := by rw [Nat.add_mul, Nat.one_mul]
          rw [e1] at hown
          have HO := Lib.hid hown
          have HB := Lib.hid hB
          clear hown hB hmul e1
          go_wp2 
          go_roundw
          case rel => exact ⟨k + 1, by omega, by go_num, HO.out, HB.out⟩
          case measure => simp [intOf]; omega
    · obtain rfl : k = R := by omega
      have HO := Lib.hid hown
      have HB := Lib.hid hB
      clear hown hB
      go_wp2
      go_ret
      exact ⟨_, rfl, HO.out, HB.out⟩
end Go.Proofs.YthageombfifffaaDoor
