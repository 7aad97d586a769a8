/- The reference's Holds, where all bounds hold. -/
import Derived.Test.YtbmofagaammgmaaDrs
namespace Go.Proofs.Ytbmofagaammgmaa
open Go.ChangeShapes Go.WideShapes Go.ChangeAt Go.RowKit Go.ChangeMaps

set_option maxRecDepth 100000 in
set_option maxHeartbeats 4000000 in
theorem Holds_true (w : World) (n : Nat) (hn : n ≤ 64) (A : Option Addr) (m c0 : Nat) (R : List Rb) (h : Rbs w A m R) (hm : m ≤ 1000) (hok : ∀ b ∈ R, okB n b = true) (gy cy : Nat) (Z : List Int) (hZ : RW w gy 2 Z) (hZl : Z.length = n + 1) (hZn : Z.getD n 0 = 0)
    (hZb : ∀ v, v < n + 1 → -(72057594037927936 : Int) ≤ Z.getD v 0 ∧ Z.getD v 0 ≤ 72057594037927936) (hall : ∀ b ∈ R.map toBd, Z.getD b.i 0 - Z.getD b.j 0 ≤ b.c) :
    Calls Try.prog 19 #[.int .i64 (n : Int), .slice A m c0, .slice (some ⟨gy, 0, none⟩) n cy] w fun e w' => e = .returned (.bool true) ∧ w' = w := by
  have HL := Lib.hid h.len
  have HA := Lib.hid h.at
  have HZ := Lib.hid hZ
  have HZB := Lib.hid hZb
  have HIJ := Lib.hid (show ∀ x ∈ R, (0 ≤ x.i ∧ x.i ≤ (n : Int)) ∧ 0 ≤ x.j ∧ x.j ≤ (n : Int) from fun x hx => by
    have := hok x hx
    unfold okB at this
    obtain ⟨q1, q2, q3, q4⟩ := addE_ok (of_decide_eq_true this)
    exact ⟨q1, q2⟩)
  have HALL := Lib.hid (show ∀ x ∈ R, Z.getD x.i.toNat 0 - Z.getD x.j.toNat 0 ≤ x.c from fun x hx => hall _ (List.mem_map.2 ⟨x, hx, rfl⟩))
  have HZN := Lib.hid hZn
  clear h hZ hZb hok hall hZn
  go_enter Try.func19, Try.ntmps19
  go_wp2
  go_loopw [7] (fun s7 wr => ∃ q : Nat, s7 = .int .i64 (q : Int) ∧ q ≤ m ∧ wr = w) (fun s7 _ => m - (intOf s7).toNat)
  case atStart => exact ⟨0, rfl, Nat.zero_le _, rfl⟩
  case round =>
    obtain ⟨q, rfl, hqm, rfl⟩ := hrel
    by_cases hlq : q < m
    · have hqi : (q : Int) < (m : Int) := by omega
      have hq0 : (0 : Int) ≤ (q : Int) := by omega
      have hqR : q < R.length := by rw [HL.out]; exact hlq
      obtain ⟨bA, off, rfl, hbl, hc⟩ := HA.out (by omega)
      obtain ⟨r0, r1, r2⟩ := hc wr (Below.refl _ _) q hqR
      have hij := HIJ.out _ (List.getElem_mem hqR)
      have hal := HALL.out _ (List.getElem_mem hqR)
      clear hc hbl
      generalize R[q] = x at *
      obtain ⟨xi0, xj0, cc⟩ := x
      dsimp only at hij hal r0 r1 r2
      obtain ⟨a, rfl⟩ : ∃ a : Nat, xi0 = (a : Int) := ⟨xi0.toNat, by omega⟩
      obtain ⟨b, rfl⟩ : ∃ b : Nat, xj0 = (b : Int) := ⟨xj0.toNat, by omega⟩
      rw [Int.toNat_natCast, Int.toNat_natCast] at hal
      have hza := HZB.out a (by omega)
      have hzb := HZB.out b (by omega)
      have xa : wr.cell? ⟨gy, a, none⟩ = some (.int .i64 (Z.getD a 0)) := HZ.out.cell (by omega)
      have xb : wr.cell? ⟨gy, b, none⟩ = some (.int .i64 (Z.getD b 0)) := HZ.out.cell (by omega)
      have hEa := Lib.hid (show a = n → Z.getD a 0 = 0 from fun e => by rw [e]; exact HZN.out)
      have hEb := Lib.hid (show b = n → Z.getD b 0 = 0 from fun e => by rw [e]; exact HZN.out)
      generalize Z.getD a 0 = za at *
      generalize Z.getD b 0 = zb at *
      have hwd : IntKind.i64.wrap (za - zb) = za - zb := IntWalk.i64_in _ (by omega)
      have k1 : ¬ za < -1152921504606846976 := by omega
      have k2 : ¬ za > 1152921504606846976 := by omega
      have k3 : ¬ zb < -1152921504606846976 := by omega
      have k4 : ¬ zb > 1152921504606846976 := by omega
      have k5 : ¬ za - zb > cc := by omega
      have ha0 : (0 : Int) ≤ (a : Int) := by omega
      have hb0 : (0 : Int) ≤ (b : Int) := by omega
      clear hza hzb hal
      by_cases ga : a < n
      · have gai : (a : Int) < (n : Int) := by omega
        by_cases gb : b < n
        · have gbi : (b : Int) < (n : Int) := by omega
          go_wp2
          go_roundw
          case rel => exact ⟨q + 1, by go_num, hlq, trivial⟩
          case measure => simp [intOf]; omega
        · have gbi : ¬ (b : Int) < (n : Int) := by omega
          obtain rfl := hEb.out (by omega)
          clear xb
          go_wp2
          go_roundw
          case rel => exact ⟨q + 1, by go_num, hlq, trivial⟩
          case measure => simp [intOf]; omega
      · have gai : ¬ (a : Int) < (n : Int) := by omega
        obtain rfl := hEa.out (by omega)
        clear xa
        by_cases gb : b < n
        · have gbi : (b : Int) < (n : Int) := by omega
          go_wp2
          go_roundw
          case rel => exact ⟨q + 1, by go_num, hlq, trivial⟩
          case measure => simp [intOf]; omega
        · have gbi : ¬ (b : Int) < (n : Int) := by omega
          obtain rfl := hEb.out (by omega)
          clear xb
          go_wp2
          go_roundw
          case rel => exact ⟨q + 1, by go_num, hlq, trivial⟩
          case measure => simp [intOf]; omega
    · obtain rfl : q = m := by omega
      have hlq2 : ¬ ((q : Int) < (q : Int)) := by omega
      go_wp2
      go_ret
      exact ⟨rfl, rfl⟩
end Go.Proofs.Ytbmofagaammgmaa
