/- Law ScheduleFair: the walk. -/
import Derived.Test.YthageombfifffaaDoorEnv
namespace Go.Proofs.YthageombfifffaaDoor
open Go.ChangeShapes Go.WideShapes Go.ChangeAt Go.RowKit Go.ChangeMaps

theorem u8_bd {n : Int} (h : (Lit.int .u8 n).wf = true) : 0 ≤ n ∧ n ≤ 255 := by
  have h1 : IntKind.u8.min = 0 := rfl
  have h2 : IntKind.u8.max = 255 := rfl
  simp only [Lit.wf, Bool.and_eq_true, decide_eq_true_eq, h1, h2] at h
  exact h
theorem fair_t {p j z k : Nat} (HP : z = k ↔ j = p) (h : ((z : Int) == (k : Int)) = true) : (if p < j then 1 else 0 : Int) + 1 = if p < j + 1 then 1 else 0 := by
  have : (z : Int) = k := by simpa using h
  have : z = k := by omega
  have := HP.1 this
  rw [if_neg (by omega), if_pos (by omega)]; rfl
theorem fair_f {p j z k : Nat} (HP : z = k ↔ j = p) (h : ((z : Int) == (k : Int)) = false) : (if p < j then 1 else 0 : Int) = if p < j + 1 then 1 else 0 := by
  have : ¬ (z : Int) = k := by simpa using h
  have : ¬ z = k := by omega
  have := fun h => this (HP.2 h)
  by_cases h : p < j
  · rw [if_pos h, if_pos (by omega)]
  · rw [if_neg h, if_neg (by omega)]
theorem own_cap {w : World} {B T : Nat} {A : Option Addr} {m c : Nat} {n : Nat} {L : List Value} (h : w.ownsRow B T 4 (.slice A m c) n L) : n ≤ c := by
  rcases h.2 with ⟨h1, h0⟩ | ⟨g, cap, cur, h1, hg, hh, hnc, hcap, hsz, htake⟩
  · omega
  · injection h1 with _ _ e
    omega
theorem fair_at (n a s j : Nat) (h8 : n ≤ 8) (hs : s < n) (hj : j < n) : ((a + j) % n = s ↔ j = (s + n - a % n) % n) := by
  obtain rfl | rfl | rfl | rfl | rfl | rfl | rfl | rfl : n = 1 ∨ n = 2 ∨ n = 3 ∨ n = 4 ∨ n = 5 ∨ n = 6 ∨ n = 7 ∨ n = 8 := by omega
  all_goals omega
set_option maxRecDepth 100000 in
set_option maxHeartbeats 1000000 in
theorem scheduleFair_walk (s r a : Int) (w : World) (l0 : 0 ≤ s) (g0 : s ≤ 255) (l1 : 0 ≤ r) (g1 : r ≤ 255) (l2 : -9223372036854775808 ≤ a) (g2 : a ≤ 9223372036854775807) (hE : Env w) :
    Calls Tryd.prog 4 #[.int .u8 s, .int .u8 r, .int .i64 a] w fun e w' => e = .returned (.bool true) ∧ Below w.heap.size w w' := by
  have HE := Lib.hid hE
  have AW := Lib.hid (fun w h => awake_any w h)
  clear hE
  go_enter Tryd.func4, Tryd.ntmps4
  go_wp2_with fail
  refine (AW.out _ HE.out).mono ?_
  rintro e w1 ⟨rfl, hb1⟩
  have B1 := Lib.hid hb1
  clear hb1
  go_wp2_with fail
  obtain ⟨S, hS⟩ : ∃ S : Nat, s % 8 + 1 = (S : Int) := ⟨(s % 8 + 1).toNat, by omega⟩
  obtain ⟨R, hR⟩ : ∃ R : Nat, r % 40 = (R : Int) := ⟨(r % 40).toNat, by omega⟩
  have hS0 : 0 < S := by omega
  have hS8 : S ≤ 8 := by omega
  have hR1 : R ≤ 39 := by omega
  rw [hS, hR]
  have C1 := Lib.hid (fun w => RoundRobin_any (S : Int) (R : Int) S R w (by unfold wi; split <;> (try split) <;> omega) (by unfold wi; split <;> (try split) <;> omega))
  refine (C1.out _).mono ?_
  rintro e w2 ⟨v, rfl, hown, hb2⟩
  obtain ⟨A, c, rfl, ha⟩ := Acts_own hown
  have hcap := own_cap hown
  have B2 := Lib.hid (more_below B1.out hb2)
  have hm : R * S ≤ 312 := by have : R * S ≤ 39 * 8 := Nat.mul_le_mul hR1 hS8; omega
  have hlen := rr_len S (R * S)
  have hmul : (S : Int) * (R : Int) = ((R * S : Nat) : Int) := by rw [Nat.mul_comm]; exact (Int.natCast_mul S R).symm
  have HA := Lib.hid ha
  have HM := Lib.hid hmul
  clear hown hb2 ha C1 hmul
  generalize R * S = q at *
  have HMW : wrap64 ((S : Int) * (R : Int)) = (q : Int) := by rw [HM.out]; exact Go.IntWalk.wrap64_in _ (by omega)
  clear hS hR
  by_cases hin : 0 ≤ a ∧ a ≤ (q : Int) - S
  · obtain ⟨α, rfl⟩ := Int.eq_ofNat_of_zero_le hin.1
    have hα : α + S ≤ q := by omega
    have h0 : 0 < q := by omega
    obtain ⟨b, off, rfl, hb, hc⟩ := HA.out.2 h0
    have HC : Hid (∀ i, i < S → w2.cell? ⟨b, off + α * 4 + i * 4, none⟩ = some (.int .i64 1) ∧ w2.cell? ⟨b, off + α * 4 + i * 4 + 1, none⟩ = some (.int .i64 ((α + i) % S : Nat)) ∧ w2.cell? ⟨b, off + α * 4 + i * 4 + 2, none⟩ = some (.int .i64 0) ∧ w2.cell? ⟨b, off + α * 4 + i * 4 + 3, none⟩ = some (.int .i64 0)) := by
      refine Lib.hid fun i hi => ?_
      have := hc (α + i) (by rw [hlen]; omega)
      rw [show off + (α + i) * 4 = off + α * 4 + i * 4 by omega] at this
      have e : (rr S q)[α + i]'(by rw [hlen]; omega) = ⟨1, (((α + i) % S : Nat) : Int), 0, 0⟩ := by simp [rr]
      rw [e] at this
      exact this
    have HHB := Lib.hid hb
    have t1 : ¬ (α : Int) < 0 := by omega
    have t2 : ¬ (q : Int) - S < α := by omega
    clear hc hlen HA hin HM
    go_wp2
    go_loopw [43] (fun i wr => ∃ k : Nat, k ≤ S ∧ i = .int .i64 k ∧ Below w2.heap.size w2 wr) (fun i _ => S - (intOf i).toNat)
    case atStart => exact ⟨0, Nat.zero_le _, rfl, Below.refl _ _⟩
    case round =>
      obtain ⟨k, hk, rfl, hB⟩ := hrel
      by_cases hlt : k < S
      · have HB := Lib.hid hB
        clear hB
        go_wp2
        go_loopw [11, 53] (fun x i wr => ∃ j : Nat, j ≤ S ∧ i = .int .i64 j ∧ x = .int .i64 (if (k + S - α % S) % S < j then 1 else 0) ∧ Below w2.heap.size w2 wr) (fun _ i _ => S - (intOf i).toNat)
        case atStart => exact ⟨0, Nat.zero_le _, rfl, by simp, HB.out⟩
        case round =>
          obtain ⟨j, hj, rfl, rfl, hB⟩ := hrel
          have HP := fair_at S α k j hS8 hlt
          have hp : (k + S - α % S) % S < S := Nat.mod_lt _ hS0
          generalize (k + S - α % S) % S = p at *
          by_cases hl2 : j < S
          · obtain ⟨c0, c1, c2, c3⟩ := HC.out j hl2
            have c0 := (hB.cell (p := ⟨b, off + α * 4 + j * 4, none⟩) HHB.out).trans c0
            have c1 := (hB.cell (p := ⟨b, off + α * 4 + j * 4 + 1, none⟩) HHB.out).trans c1
            have c2 := (hB.cell (p := ⟨b, off + α * 4 + j * 4 + 2, none⟩) HHB.out).trans c2
            have c3 := (hB.cell (p := ⟨b, off + α * 4 + j * 4 + 3, none⟩) HHB.out).trans c3
            have HP := HP hl2
            generalize (α + j) % S = z at *
            have HB2 := Lib.hid (hB.alloc hB.size (.cells #[.int .i64 1, .int .i64 z, .int .i64 0, .int .i64 0] 29))
            clear hB
            go_wp2
            all_goals
              go_roundw
              case rel => exact ⟨j + 1, by omega, by go_num, by first | exact int_eq (fair_t HP (by assumption)) | exact int_eq (fair_f HP (by assumption)), HB2.out⟩
              case measure => simp [intOf]; omega
          · obtain rfl : j = S := by omega
            have e : (if p < j then 1 else 0 : Int) = 1 := if_pos hp
            rw [e]
            have HB := Lib.hid hB
            clear hB
            go_wp2
            go_roundw
            case rel => exact ⟨k + 1, by omega, by go_num, HB.out⟩
            case measure => simp [intOf]; omega
      · obtain rfl : k = S := by omega
        have HB := Lib.hid hB
        clear hB
        go_wp2
        go_ret
        exact ⟨rfl, more_below B2.out HB.out⟩
  · go_wp2
    all_goals
      go_ret
      exact ⟨rfl, B2.out⟩
end Go.Proofs.YthageombfifffaaDoor
