/- Small functions on intervals: empty, apart, Contains, Clone. -/
import Derived.Test.YtnoddkbpdfimmaaIvl
namespace Go.Proofs.Ytnoddkbpdfimmaa
open Go.ChangeShapes Go.WideShapes Go.ChangeAt Go.RowKit Go.ChangeMaps

def Iv.emp (x : Iv) : Bool := decide (x.hi < x.lo)
def Iv.has (n : Int) (x : Iv) : Bool := decide (x.lo ≤ n) && decide (n ≤ x.hi)
def Iv.apt (a b : Iv) : Bool := decide (a.hi < 9223372036854775807) && decide (a.hi + 1 < b.lo)
set_option maxRecDepth 100000 in
set_option maxHeartbeats 2000000 in
theorem empty_any (x : Iv) (w : World) : Calls Try.prog 36 #[x.agg] w fun e w' => e = .returned (.bool x.emp) ∧ Below w.heap.size w w' := by
  obtain ⟨lo, hi⟩ := x
  obtain ⟨r, hr⟩ : ∃ r, Iv.emp ⟨lo, hi⟩ = r := ⟨_, rfl⟩
  have HR := Lib.hid hr
  rw [hr]
  clear hr
  unfold Iv.agg
  go_enter Try.func36, Try.ntmps36
  go_wp2
  go_ret
  refine ⟨ret_bool ?_, (Below.refl _ w).alloc (Nat.le_refl _) _⟩
  rw [← HR.out]
  unfold Iv.emp
  first | rfl | simp
set_option maxRecDepth 100000 in
set_option maxHeartbeats 2000000 in
theorem apart_any (a b : Iv) (w : World) (h : a.ok) : Calls Try.prog 37 #[a.agg, b.agg] w fun e w' => e = .returned (.bool (a.apt b)) ∧ Below w.heap.size w w' := by
  obtain ⟨lo, hi⟩ := a
  obtain ⟨lo2, hi2⟩ := b
  obtain ⟨r, hr⟩ : ∃ r, Iv.apt ⟨lo, hi⟩ ⟨lo2, hi2⟩ = r := ⟨_, rfl⟩
  have HR := Lib.hid hr
  rw [hr]
  clear hr
  have hb1 : -9223372036854775808 ≤ hi := h.2.1
  have hb2 : hi ≤ 9223372036854775807 := h.2.2
  clear h
  unfold Iv.agg
  by_cases h1 : hi < 9223372036854775807
  · have HH := Lib.hid h1
    go_enter Try.func37, Try.ntmps37
    go_wp2
    all_goals
      go_ret
      refine ⟨ret_bool ?_, ((Below.refl _ w).alloc (Nat.le_refl _) _).alloc (by simp) _⟩
      have HR := HR.out
      have HH := HH.out
      unfold Iv.apt at HR
      first | (simp_all; done) | grind
  · have HH := Lib.hid h1
    go_enter Try.func37, Try.ntmps37
    go_wp2
    all_goals
      go_ret
      refine ⟨ret_bool ?_, ((Below.refl _ w).alloc (Nat.le_refl _) _).alloc (by simp) _⟩
      have HR := HR.out
      have HH := HH.out
      unfold Iv.apt at HR
      first | (simp_all; done) | grind
theorem any_false {α : Type} (p : α → Bool) (R : List α) (k : Nat) (hk : R.length ≤ k) (h : (R.take k).any p = false) : R.any p = false := by
  rwa [List.take_of_length_le hk] at h
theorem any_step {α : Type} (p : α → Bool) (R : List α) (k : Nat) (hk : k < R.length) : (R.take (k + 1)).any p = ((R.take k).any p || p R[k]) := by
  rw [List.take_succ_eq_append_getElem hk, List.any_append]; simp
theorem any_true {α : Type} (p : α → Bool) (R : List α) (k : Nat) (hk : k < R.length) (h : p R[k] = true) : R.any p = true := List.any_eq_true.2 ⟨_, List.getElem_mem hk, h⟩
set_option maxRecDepth 100000 in
set_option maxHeartbeats 2000000 in
theorem RContains_any (A : Option Addr) (n c : Nat) (R : List Iv) (z : Int) (w : World) (h : Ivs w A n R) (hn : n ≤ 100000) : Calls Try.prog 21 #[.slice A n c, .int .i64 z] w fun e w' => e = .returned (.bool (R.any (Iv.has z))) ∧ Below w.heap.size w w' := by
  have HL := Lib.hid h.len
  have HA := Lib.hid h.at
  clear h
  obtain ⟨r, hr⟩ : ∃ r, R.any (Iv.has z) = r := ⟨_, rfl⟩
  rw [hr]
  have HR := Lib.hid hr
  clear hr
  go_enter Try.func21, Try.ntmps21
  go_wp2
  go_loopw [5] (fun s5 wr => ∃ (k : Nat), s5 = .int .i64 (k : Int) ∧ k ≤ n ∧ (R.take k).any (Iv.has z) = false ∧ Below w.heap.size w wr) (fun s5 _ => n - (intOf s5).toNat)
  case atStart => exact ⟨0, rfl, Nat.zero_le _, by simp, Below.refl _ _⟩
  case round =>
    obtain ⟨k, rfl, hkn, hE, hB⟩ := hrel
    have HE := Lib.hid hE
    have HB := Lib.hid hB
    clear hE hB
    by_cases hlt : k < n
    · have hki : (k : Int) < n := by omega
      have hk0 : (0 : Int) ≤ (k : Int) := by omega
      obtain ⟨b, off, rfl, hbl, hc⟩ := HA.out (by omega)
      have hi' : k < R.length := by rw [HL.out]; exact hlt
      obtain ⟨c0, c1⟩ := hc wr HB.out k hi'
      have HT := Lib.hid (any_step (Iv.has z) R k hi')
      have HY := Lib.hid (show R[k].has z = true → r = true from fun h => by rw [← HR.out]; exact any_true _ R k hi' h)
      clear hc hbl
      generalize R[k] = x at *
      obtain ⟨x0, x1⟩ := x
      simp only at c0 c1
      by_cases h0 : x0 ≤ z
      · by_cases h1 : z ≤ x1
        · have HF := Lib.hid (HY.out (by simp [Iv.has, h0, h1]))
          go_wp2
          go_ret
          exact ⟨by rw [HF.out]; rfl, HB.out⟩
        · have HQ := Lib.hid (show (R.take (k + 1)).any (Iv.has z) = false by rw [HT.out, HE.out]; simp [Iv.has, h1])
          go_wp2
          go_roundw
          case rel => exact ⟨k + 1, by go_num, hlt, HQ.out, HB.out⟩
          case measure => simp only [intOf]; omega
      · have HQ := Lib.hid (show (R.take (k + 1)).any (Iv.has z) = false by rw [HT.out, HE.out]; simp [Iv.has, h0])
        go_wp2
        go_roundw
        case rel => exact ⟨k + 1, by go_num, hlt, HQ.out, HB.out⟩
        case measure => simp only [intOf]; omega
    · obtain rfl : k = n := by omega
      have hlt2 : ¬ ((k : Int) < (k : Int)) := by omega
      have HF := Lib.hid (show r = false by rw [← HR.out]; exact any_false _ R k (by rw [HL.out]; exact Nat.le_refl _) HE.out)
      go_wp2
      go_ret
      exact ⟨by rw [HF.out]; rfl, HB.out⟩
set_option maxRecDepth 100000 in
set_option maxHeartbeats 2000000 in
theorem has_any (x : Iv) (z : Int) (g : Nat) (w : World) (h : w.cell? ⟨g, 0, none⟩ = some (.int .i64 z)) : Calls Try.prog 39 #[x.agg, .pointer (some ⟨g, 0, none⟩)] w fun e w' => e = .returned (.bool (x.has z)) ∧ Below w.heap.size w w' := by
  obtain ⟨lo, hi⟩ := x
  obtain ⟨r, hr⟩ : ∃ r, Iv.has z ⟨lo, hi⟩ = r := ⟨_, rfl⟩
  have HR := Lib.hid hr
  rw [hr]
  clear hr
  unfold Iv.agg
  obtain ⟨W0, hW0⟩ : ∃ W, W = w.alloc (.cells #[.int .i64 lo, .int .i64 hi] 39) := ⟨_, rfl⟩
  have HB := Lib.hid (show Below w.heap.size w W0 by rw [hW0]; exact (Below.refl _ w).alloc (Nat.le_refl _) _)
  have HK := Lib.hid (show Blk W0 w.heap.size 39 #[.int .i64 lo, .int .i64 hi] by rw [hW0]; exact Blk.new _ _ _)
  have c0 := HK.out.cell 0
  have c1 := HK.out.cell 1
  have cz := keepcell HB.out h
  simp at c0 c1
  clear h
  by_cases h0 : lo ≤ z
  · have HH := Lib.hid h0
    go_enter Try.func39, Try.ntmps39
    go_upto_region 1 with fail
    rw [← hW0]
    clear hW0
    go_wp2
    all_goals
      go_ret
      refine ⟨ret_bool ?_, HB.out⟩
      have HR := HR.out
      have HH := HH.out
      unfold Iv.has at HR
      first | (simp_all; done) | grind
  · have HH := Lib.hid h0
    go_enter Try.func39, Try.ntmps39
    go_upto_region 1 with fail
    rw [← hW0]
    clear hW0
    go_wp2
    all_goals
      go_ret
      refine ⟨ret_bool ?_, HB.out⟩
      have HR := HR.out
      have HH := HH.out
      unfold Iv.has at HR
      first | (simp_all; done) | grind
end Go.Proofs.Ytnoddkbpdfimmaa
