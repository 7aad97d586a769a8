/- Meet returns the class of the common elements, reports that there is none, or returns the specified error. -/
import Derived.Test.YtgicdfhhaefibaaMth
import Derived.Test.YtgicdfhhaefibaaMul
namespace Go.Proofs.Ytgicdfhhaefibaa
open Go.Sort Go.ChangeShapes Go.WideShapes Go.ChangeAt Go.RowKit

theorem Mul64_int (x y h l : Int) (w : World) (x0 : 0 ≤ x) (x1 : x ≤ 18446744073709551615) (y0 : 0 ≤ y) (y1 : y ≤ 18446744073709551615) (hh : x * y / 18446744073709551616 = h) (hl : x * y % 18446744073709551616 = l) :
    Calls Try.prog 39 #[.int .u64 x, .int .u64 y] w fun e w' => e = .returned (.tuple #[.int .u64 h, .int .u64 l]) ∧ w' = w := by
  subst hh hl
  obtain ⟨a, rfl⟩ := Int.eq_ofNat_of_zero_le x0
  obtain ⟨b, rfl⟩ := Int.eq_ofNat_of_zero_le y0
  exact Try.bits_Mul64 a b (by omega) (by omega) w

theorem bez (B : Int) (hB0 : 0 ≤ B) (hB : B ≤ 9223372036854775807) (A : Int) (hA : A ≤ 9223372036854775807) : ∀ (n : Nat) (r s x y u v : Int), s.toNat ≤ n → r ≤ 9223372036854775807 → s ≤ 9223372036854775807 → ExtInv A B r s x y u v → ∃ g x y, ExtEnd A B g x y
  | 0, r, s, x, y, u, v, hn, _, _, h => by
    have : 0 ≤ s := h.2.1
    obtain rfl : s = 0 := by omega
    exact ⟨_, _, _, ext_end h⟩
  | n + 1, r, s, x, y, u, v, hn, hr, hs, h => by
    have s0 : 0 ≤ s := h.2.1
    by_cases hz : s = 0
    · subst hz; exact ⟨_, _, _, ext_end h⟩
    · obtain ⟨hI, hlt, _⟩ := ext_step h (by omega) rfl hr hA hB
      exact bez B hB0 hB A hA n _ _ _ _ _ _ (by have := hI.2.1; omega) hs (by omega) hI

theorem inv_exists (a m : Int) (a0 : 0 ≤ a) (a1 : a ≤ 9223372036854775807) (hm : 1 ≤ m) (hm2 : m ≤ 9223372036854775807) (hg : Int.gcd a m = 1) : ∃ i, 0 ≤ i ∧ i < m ∧ a * i % m = 1 % m := by
  obtain ⟨g, x, y, h1, h2, _⟩ := bez m (by omega) hm2 a a1 m.toNat a m 1 0 0 1 (Nat.le_refl _) a1 hm2 (ext_start a m a0 (by omega))
  rw [hg] at h1
  refine ⟨x % m, Int.emod_nonneg _ (by omega), Int.emod_lt_of_pos _ (by omega), ?_⟩
  rw [Int.mul_emod, Int.emod_emod, ← Int.mul_emod]
  have : a * x = 1 + m * (-y) := by rw [Int.mul_neg]; omega
  rw [this, Int.add_mul_emod_self_left]

theorem inverse_is (a m i : Int) (w : World) (hm : 1 ≤ m) (hm2 : m ≤ 9223372036854775807) (hg : Int.gcd a m = 1) (i0 : 0 ≤ i) (i1 : i < m) (hi : a * i % m = 1 % m) :
    Calls Try.prog 41 #[.int .i64 a, .int .i64 m] w fun e w' => e = .returned (.int .i64 i) ∧ w = w' :=
  (inverse_any a m w hm hm2 hg).mono fun e w' ⟨x, he, x0, x1, hx, hw⟩ => by
    obtain rfl : x = i := inv_unique a m x i x0 x1 i0 i1 hx hi
    exact ⟨he, hw⟩

def MeetC (r1 m1 r2 m2 x l : Int) (ok : Bool) (er : Int) : Prop :=
  ∀ w, Calls Try.prog 19 #[.agg #[.int .i64 r1, .int .i64 m1], .agg #[.int .i64 r2, .int .i64 m2]] w fun e w' => e = .returned (.tuple #[.agg #[.int .i64 x, .int .i64 l], .bool ok, .int .i64 er]) ∧ Below w.heap.size w w'

set_option maxHeartbeats 1000000 in
theorem Meet_bad (r1 m1 r2 m2 : Int) (h : (vld r1 m1 && vld r2 m2) = false) : MeetC r1 m1 r2 m2 0 0 false 1 := by
  intro w
  rcases (show vld r1 m1 = false ∨ (vld r1 m1 = true ∧ vld r2 m2 = false) by cases h1 : vld r1 m1 <;> simp_all) with h1 | ⟨h1, h2⟩
  · have V := Lib.hid (fun w => valid_is r1 m1 false w h1)
    clear h h1
    go_enter Try.func19, Try.ntmps19
    go_wp2_with fail
    refine (V.out _).mono ?_
    rintro e wa ⟨rfl, hb⟩
    obtain ⟨hc, hf⟩ := bcell hb
    go_wp2
    have c0 : wa.cell? ⟨w.heap.size + 1 + 1, 0, none⟩ = some (.int .i64 0) := (hc _ _ (by simp)).trans third0
    have c1 : wa.cell? ⟨w.heap.size + 1 + 1, 1, none⟩ = some (.int .i64 0) := (hc _ _ (by simp)).trans third1
    refine bodyPost_ret (v := .tuple #[.agg #[.int .i64 0, .int .i64 0], .bool false, .int .i64 1]) (by simp [results, Try.results19, go_sem, c0, c1]) rfl ⟨rfl, ?_⟩
    refine (Below.setCell ?_ (by simp; omega) _).setCell (by simp; omega) _
    exact ((((Below.refl _ _).alloc (Nat.le_refl _) _).alloc (by simp) _).alloc (by simp; omega) _).trans (hb.mono (by simp; omega))
  · have V := Lib.hid (fun w => valid_is r1 m1 true w h1)
    have V2 := Lib.hid (fun w => valid_is r2 m2 false w h2)
    clear h h1 h2
    go_enter Try.func19, Try.ntmps19
    go_wp2_with fail
    refine (V.out _).mono ?_
    rintro e wa ⟨rfl, hb⟩
    obtain ⟨hc, hf⟩ := bcell hb
    go_wp2_with fail
    refine (V2.out _).mono ?_
    rintro e wb ⟨rfl, hb3⟩
    have hb4 := below3 hb hb3
    clear hc hf hb hb3
    obtain ⟨hc, hf⟩ := bcell hb4
    go_wp2
    have c0 : wb.cell? ⟨w.heap.size + 1 + 1, 0, none⟩ = some (.int .i64 0) := (hc _ _ (by simp)).trans third0
    have c1 : wb.cell? ⟨w.heap.size + 1 + 1, 1, none⟩ = some (.int .i64 0) := (hc _ _ (by simp)).trans third1
    refine bodyPost_ret (v := .tuple #[.agg #[.int .i64 0, .int .i64 0], .bool false, .int .i64 1]) (by simp [results, Try.results19, go_sem, c0, c1]) rfl ⟨rfl, ?_⟩
    refine (Below.setCell ?_ (by simp; omega) _).setCell (by simp; omega) _
    exact ((((Below.refl _ _).alloc (Nat.le_refl _) _).alloc (by simp) _).alloc (by simp; omega) _).trans (hb4.mono (by simp; omega))
end Go.Proofs.Ytgicdfhhaefibaa
