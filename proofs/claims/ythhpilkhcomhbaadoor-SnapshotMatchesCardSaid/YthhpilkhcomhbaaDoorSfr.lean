/- A fresh disk of a version. -/
import Derived.Test.YthhpilkhcomhbaaDoorAwa
import Derived.Handy
namespace Go.Proofs.YthhpilkhcomhbaaDoor
open Go.ChangeShapes Go.WideShapes Go.ChangeAt Go.RowKit Go.ChangeMaps

open Go.Sort in
set_option maxRecDepth 100000 in
set_option maxHeartbeats 1000000 in
theorem fresh_zero (w : World) (S n c : Nat) (A : Option Addr) (hn : n ≤ 9223372036854775807) (h1 : 7 ≤ S) (h2 : S ≤ 60) (h3 : n ≤ 64 * areaOf S) (h4 : n ≤ 600) :
    Calls Tryd.prog 19 #[.agg #[.int .u8 (S : Int), .int .u32 0, .slice A n c]] w fun e w' => e = .returned (.pointer none) ∧ Below w.heap.size w w' := by
  have HC := Lib.hid (fun W => RCapacity_any W (S : Int))
  have hcap : capM (S : Int) = 64 * (areaOf S : Int) := by unfold capM; rw [if_pos ⟨by omega, by omega⟩, Int.toNat_natCast]
  have g0 : decide ((S : Int) < 7) = false := by simp; omega
  have g1 : decide (60 < (S : Int)) = false := by simp; omega
  have g2 : decide (capM (S : Int) < (n : Int)) = false := by rw [hcap]; simp; omega
  have g3 : decide (600 < (n : Int)) = false := by simp; omega
  clear hcap h3 h4
  go_enter Tryd.func19, Tryd.ntmps19
  go_wp2_with fail
  have c0 : ∀ d os, (grow (redrawn (w.alloc (.cells #[.int .u8 (S : Int), .int .u32 0, .slice A n c] 49)) d) os).cell? ⟨w.heap.size, 0, none⟩ = some (.int .u8 (S : Int)) := fun d os => cell_regrown (newcell 0 _ rfl rfl) d os
  have c1 : ∀ d os, (grow (redrawn (w.alloc (.cells #[.int .u8 (S : Int), .int .u32 0, .slice A n c] 49)) d) os).cell? ⟨w.heap.size, 1, none⟩ = some (.int .u32 0) := fun d os => cell_regrown (newcell 1 _ rfl rfl) d os
  have c2 : ∀ d os, (grow (redrawn (w.alloc (.cells #[.int .u8 (S : Int), .int .u32 0, .slice A n c] 49)) d) os).cell? ⟨w.heap.size, 2, none⟩ = some (.slice A n c) := fun d os => cell_regrown (newcell 2 _ rfl rfl) d os
  have hbx : Below w.heap.size w (w.alloc (.cells #[.int .u8 (S : Int), .int .u32 0, .slice A n c] 49)) := (Below.refl _ _).alloc (Nat.le_refl _) _
  refine wp_region_quiet_below (by kernel_rfl) (by kernel_rfl) ?_
  repeat (go_big_quiet_step ((first | (go_at_call 14; exact Calls.regrown_of (HC.out _)) | fail)))
  refine wpQuiet_nil ?_
  intro _ hw'
  obtain ⟨⟨dq, osq⟩, hw''⟩ := hw'
  subst hw''
  have hb := below_regrown (w.alloc (.cells #[.int .u8 (S : Int), .int .u32 0, .slice A n c] 49)) dq osq
  have hbw : Below w.heap.size w (grow (redrawn (w.alloc (.cells #[.int .u8 (S : Int), .int .u32 0, .slice A n c] 49)) dq) osq) := hbx.trans (hb.mono hbx.size)
  go_wp2
  go_returns
  exact ⟨rfl, hbw⟩
open Go.Sort in
set_option maxRecDepth 100000 in
set_option maxHeartbeats 1000000 in
theorem fresh_no (w : World) (S E n c : Nat) (A : Option Addr) (hS : S < 256) (hn : n ≤ 9223372036854775807) (h : ¬ (7 ≤ S ∧ S ≤ 60 ∧ n ≤ 64 * areaOf S ∧ n ≤ 600 ∧ E ≠ 0)) :
    Calls Tryd.prog 19 #[.agg #[.int .u8 (S : Int), .int .u32 (E : Int), .slice A n c]] w fun e w' => e = .returned (.pointer none) ∧ Below w.heap.size w w' := by
  by_cases hz : 7 ≤ S ∧ S ≤ 60 ∧ n ≤ 64 * areaOf S ∧ n ≤ 600
  · obtain rfl : E = 0 := by rcases Nat.eq_zero_or_pos E with h0 | h0; (· exact h0); exact absurd ⟨hz.1, hz.2.1, hz.2.2.1, hz.2.2.2, by omega⟩ h
    exact fresh_zero w S n c A hn hz.1 hz.2.1 hz.2.2.1 hz.2.2.2
  have HC := Lib.hid (fun W => RCapacity_any W (S : Int))
  go_enter Tryd.func19, Tryd.ntmps19
  go_wp2_with fail
  by_cases h0 : S < 7
  · have g0 : decide ((S : Int) < 7) = true := by simp; omega
    clear h
    have c0 : ∀ d os, (grow (redrawn (w.alloc (.cells #[.int .u8 (S : Int), .int .u32 (E : Int), .slice A n c] 49)) d) os).cell? ⟨w.heap.size, 0, none⟩ = some (.int .u8 (S : Int)) := fun d os => cell_regrown (newcell 0 _ rfl rfl) d os
    have c1 : ∀ d os, (grow (redrawn (w.alloc (.cells #[.int .u8 (S : Int), .int .u32 (E : Int), .slice A n c] 49)) d) os).cell? ⟨w.heap.size, 1, none⟩ = some (.int .u32 (E : Int)) := fun d os => cell_regrown (newcell 1 _ rfl rfl) d os
    have c2 : ∀ d os, (grow (redrawn (w.alloc (.cells #[.int .u8 (S : Int), .int .u32 (E : Int), .slice A n c] 49)) d) os).cell? ⟨w.heap.size, 2, none⟩ = some (.slice A n c) := fun d os => cell_regrown (newcell 2 _ rfl rfl) d os
    have hbx : Below w.heap.size w (w.alloc (.cells #[.int .u8 (S : Int), .int .u32 (E : Int), .slice A n c] 49)) := (Below.refl _ _).alloc (Nat.le_refl _) _
    refine wp_region_quiet_below (by kernel_rfl) (by kernel_rfl) ?_
    repeat (go_big_quiet_step ((first | (go_at_call 14; exact Calls.regrown_of (HC.out _)) | fail)))
    refine wpQuiet_nil ?_
    intro _ hw'
    obtain ⟨⟨dq, osq⟩, hw''⟩ := hw'
    subst hw''
    have hb := below_regrown (w.alloc (.cells #[.int .u8 (S : Int), .int .u32 (E : Int), .slice A n c] 49)) dq osq
    have hbw : Below w.heap.size w (grow (redrawn (w.alloc (.cells #[.int .u8 (S : Int), .int .u32 (E : Int), .slice A n c] 49)) dq) osq) := hbx.trans (hb.mono hbx.size)
    go_wp2
    go_returns
    exact ⟨rfl, hbw⟩
  · by_cases h1 : 60 < S
    · have g0 : decide ((S : Int) < 7) = false := by simp; omega
      have g1 : decide (60 < (S : Int)) = true := by simp; omega
      clear h
      have c0 : ∀ d os, (grow (redrawn (w.alloc (.cells #[.int .u8 (S : Int), .int .u32 (E : Int), .slice A n c] 49)) d) os).cell? ⟨w.heap.size, 0, none⟩ = some (.int .u8 (S : Int)) := fun d os => cell_regrown (newcell 0 _ rfl rfl) d os
      have c1 : ∀ d os, (grow (redrawn (w.alloc (.cells #[.int .u8 (S : Int), .int .u32 (E : Int), .slice A n c] 49)) d) os).cell? ⟨w.heap.size, 1, none⟩ = some (.int .u32 (E : Int)) := fun d os => cell_regrown (newcell 1 _ rfl rfl) d os
      have c2 : ∀ d os, (grow (redrawn (w.alloc (.cells #[.int .u8 (S : Int), .int .u32 (E : Int), .slice A n c] 49)) d) os).cell? ⟨w.heap.size, 2, none⟩ = some (.slice A n c) := fun d os => cell_regrown (newcell 2 _ rfl rfl) d os
      have hbx : Below w.heap.size w (w.alloc (.cells #[.int .u8 (S : Int), .int .u32 (E : Int), .slice A n c] 49)) := (Below.refl _ _).alloc (Nat.le_refl _) _
      refine wp_region_quiet_below (by kernel_rfl) (by kernel_rfl) ?_
      repeat (go_big_quiet_step ((first | (go_at_call 14; exact Calls.regrown_of (HC.out _)) | fail)))
      refine wpQuiet_nil ?_
      intro _ hw'
      obtain ⟨⟨dq, osq⟩, hw''⟩ := hw'
      subst hw''
      have hb := below_regrown (w.alloc (.cells #[.int .u8 (S : Int), .int .u32 (E : Int), .slice A n c] 49)) dq osq
      have hbw : Below w.heap.size w (grow (redrawn (w.alloc (.cells #[.int .u8 (S : Int), .int .u32 (E : Int), .slice A n c] 49)) dq) osq) := hbx.trans (hb.mono hbx.size)
      go_wp2
      go_returns
      exact ⟨rfl, hbw⟩
    · have hcap : capM (S : Int) = 64 * (areaOf S : Int) := by unfold capM; rw [if_pos ⟨by omega, by omega⟩, Int.toNat_natCast]
      by_cases h2 : 64 * areaOf S < n
      · have g0 : decide ((S : Int) < 7) = false := by simp; omega
        have g1 : decide (60 < (S : Int)) = false := by simp; omega
        have g2 : decide (capM (S : Int) < (n : Int)) = true := by rw [hcap]; simp; omega
        clear h hcap
        have c0 : ∀ d os, (grow (redrawn (w.alloc (.cells #[.int .u8 (S : Int), .int .u32 (E : Int), .slice A n c] 49)) d) os).cell? ⟨w.heap.size, 0, none⟩ = some (.int .u8 (S : Int)) := fun d os => cell_regrown (newcell 0 _ rfl rfl) d os
        have c1 : ∀ d os, (grow (redrawn (w.alloc (.cells #[.int .u8 (S : Int), .int .u32 (E : Int), .slice A n c] 49)) d) os).cell? ⟨w.heap.size, 1, none⟩ = some (.int .u32 (E : Int)) := fun d os => cell_regrown (newcell 1 _ rfl rfl) d os
        have c2 : ∀ d os, (grow (redrawn (w.alloc (.cells #[.int .u8 (S : Int), .int .u32 (E : Int), .slice A n c] 49)) d) os).cell? ⟨w.heap.size, 2, none⟩ = some (.slice A n c) := fun d os => cell_regrown (newcell 2 _ rfl rfl) d os
        have hbx : Below w.heap.size w (w.alloc (.cells #[.int .u8 (S : Int), .int .u32 (E : Int), .slice A n c] 49)) := (Below.refl _ _).alloc (Nat.le_refl _) _
        refine wp_region_quiet_below (by kernel_rfl) (by kernel_rfl) ?_
        repeat (go_big_quiet_step ((first | (go_at_call 14; exact Calls.regrown_of (HC.out _)) | fail)))
        refine wpQuiet_nil ?_
        intro _ hw'
        obtain ⟨⟨dq, osq⟩, hw''⟩ := hw'
        subst hw''
        have hb := below_regrown (w.alloc (.cells #[.int .u8 (S : Int), .int .u32 (E : Int), .slice A n c] 49)) dq osq
        have hbw : Below w.heap.size w (grow (redrawn (w.alloc (.cells #[.int .u8 (S : Int), .int .u32 (E : Int), .slice A n c] 49)) dq) osq) := hbx.trans (hb.mono hbx.size)
        go_wp2
        go_returns
        exact ⟨rfl, hbw⟩
      · by_cases h3 : 600 < n
        · have g0 : decide ((S : Int) < 7) = false := by simp; omega
          have g1 : decide (60 < (S : Int)) = false := by simp; omega
          have g2 : decide (capM (S : Int) < (n : Int)) = false := by rw [hcap]; simp; omega
          have g3 : decide (600 < (n : Int)) = true := by simp; omega
          clear h hcap
          have c0 : ∀ d os, (grow (redrawn (w.alloc (.cells #[.int .u8 (S : Int), .int .u32 (E : Int), .slice A n c] 49)) d) os).cell? ⟨w.heap.size, 0, none⟩ = some (.int .u8 (S : Int)) := fun d os => cell_regrown (newcell 0 _ rfl rfl) d os
          have c1 : ∀ d os, (grow (redrawn (w.alloc (.cells #[.int .u8 (S : Int), .int .u32 (E : Int), .slice A n c] 49)) d) os).cell? ⟨w.heap.size, 1, none⟩ = some (.int .u32 (E : Int)) := fun d os => cell_regrown (newcell 1 _ rfl rfl) d os
          have c2 : ∀ d os, (grow (redrawn (w.alloc (.cells #[.int .u8 (S : Int), .int .u32 (E : Int), .slice A n c] 49)) d) os).cell? ⟨w.heap.size, 2, none⟩ = some (.slice A n c) := fun d os => cell_regrown (newcell 2 _ rfl rfl) d os
          have hbx : Below w.heap.size w (w.alloc (.cells #[.int .u8 (S : Int), .int .u32 (E : Int), .slice A n c] 49)) := (Below.refl _ _).alloc (Nat.le_refl _) _
          refine wp_region_quiet_below (by kernel_rfl) (by kernel_rfl) ?_
          repeat (go_big_quiet_step ((first | (go_at_call 14; exact Calls.regrown_of (HC.out _)) | fail)))
          refine wpQuiet_nil ?_
          intro _ hw'
          obtain ⟨⟨dq, osq⟩, hw''⟩ := hw'
          subst hw''
          have hb := below_regrown (w.alloc (.cells #[.int .u8 (S : Int), .int .u32 (E : Int), .slice A n c] 49)) dq osq
          have hbw : Below w.heap.size w (grow (redrawn (w.alloc (.cells #[.int .u8 (S : Int), .int .u32 (E : Int), .slice A n c] 49)) dq) osq) := hbx.trans (hb.mono hbx.size)
          go_wp2
          go_returns
          exact ⟨rfl, hbw⟩
        · exact absurd ⟨by omega, by omega, by omega, by omega⟩ hz
open Go.Sort in
set_option maxRecDepth 100000 in
set_option maxHeartbeats 1000000 in
theorem fresh_ok (w : World) (S E n c : Nat) (A : Option Addr) (hn : n ≤ 9223372036854775807) (h : 7 ≤ S ∧ S ≤ 60 ∧ n ≤ 64 * areaOf S ∧ n ≤ 600 ∧ E ≠ 0) :
    Calls Tryd.prog 19 #[.agg #[.int .u8 (S : Int), .int .u32 (E : Int), .slice A n c]] w fun e w' => ∃ p q, e = .returned (.pointer (some ⟨p, 0, none⟩)) ∧ w.heap.size ≤ p ∧ w.heap.size ≤ q ∧ Dk w' p q (St.new S) ∧ Below w.heap.size w w' := by
  obtain ⟨h1, h2, h3, h4, h5⟩ := h
  have HC := Lib.hid (fun W => RCapacity_any W (S : Int))
  have CN := Lib.hid (fun W => New_ok W S (by omega) (by omega))
  have hcap : capM (S : Int) = 64 * (areaOf S : Int) := by unfold capM; rw [if_pos ⟨by omega, by omega⟩, Int.toNat_natCast]
  have g0 : decide ((S : Int) < 7) = false := by simp; omega
  have g1 : decide (60 < (S : Int)) = false := by simp; omega
  have g2 : decide (capM (S : Int) < (n : Int)) = false := by rw [hcap]; simp; omega
  have g3 : decide (600 < (n : Int)) = false := by simp; omega
  have g4 : decide ((E : Int) = 0) = false := by simp; omega
  have g5 : ((E : Int) == 0) = false := by simp; omega
  clear hcap
  go_enter Tryd.func19, Tryd.ntmps19
  go_wp2_with fail
  have c0 : ∀ d os, (grow (redrawn (w.alloc (.cells #[.int .u8 (S : Int), .int .u32 (E : Int), .slice A n c] 49)) d) os).cell? ⟨w.heap.size, 0, none⟩ = some (.int .u8 (S : Int)) := fun d os => cell_regrown (newcell 0 _ rfl rfl) d os
  have c1 : ∀ d os, (grow (redrawn (w.alloc (.cells #[.int .u8 (S : Int), .int .u32 (E : Int), .slice A n c] 49)) d) os).cell? ⟨w.heap.size, 1, none⟩ = some (.int .u32 (E : Int)) := fun d os => cell_regrown (newcell 1 _ rfl rfl) d os
  have c2 : ∀ d os, (grow (redrawn (w.alloc (.cells #[.int .u8 (S : Int), .int .u32 (E : Int), .slice A n c] 49)) d) os).cell? ⟨w.heap.size, 2, none⟩ = some (.slice A n c) := fun d os => cell_regrown (newcell 2 _ rfl rfl) d os
  have hbx : Below w.heap.size w (w.alloc (.cells #[.int .u8 (S : Int), .int .u32 (E : Int), .slice A n c] 49)) := (Below.refl _ _).alloc (Nat.le_refl _) _
  refine wp_region_quiet_below (by kernel_rfl) (by kernel_rfl) ?_
  repeat (go_big_quiet_step ((first | (go_at_call 14; exact Calls.regrown_of (HC.out _)) | fail)))
  refine wpQuiet_nil ?_
  intro _ hw'
  obtain ⟨⟨dq, osq⟩, hw''⟩ := hw'
  subst hw''
  have hb := below_regrown (w.alloc (.cells #[.int .u8 (S : Int), .int .u32 (E : Int), .slice A n c] 49)) dq osq
  have hbw : Below w.heap.size w (grow (redrawn (w.alloc (.cells #[.int .u8 (S : Int), .int .u32 (E : Int), .slice A n c] 49)) dq) osq) := hbx.trans (hb.mono hbx.size)
  have c0 := c0 dq osq
  generalize grow (redrawn (w.alloc (.cells #[.int .u8 (S : Int), .int .u32 (E : Int), .slice A n c] 49)) dq) osq = W at *
  have HBW := Lib.hid hbw
  clear hbx hb hbw
  go_wp2_with fail
  refine (CN.out W).mono ?_
  rintro e w4 ⟨rfl, hd, hb⟩
  have HD := Lib.hid hd
  replace HBW2 := Lib.hid (HBW.out.trans (hb.mono HBW.out.size))
  have hs := HBW.out.size
  clear hd hb
  go_wp2
  go_returns
  exact ⟨_, _, rfl, by omega, hs, HD.out, HBW2.out⟩
end Go.Proofs.YthhpilkhcomhbaaDoor
