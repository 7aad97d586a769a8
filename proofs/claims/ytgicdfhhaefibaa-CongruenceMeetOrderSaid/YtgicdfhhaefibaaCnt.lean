/- The count of a class between two bounds, in the code and in the reference. -/
import Derived.Test.YtgicdfhhaefibaaCls
namespace Go.Proofs.Ytgicdfhhaefibaa
open Go.Sort Go.ChangeShapes Go.WideShapes Go.ChangeAt Go.RowKit

theorem boxed1 {w w2 : World} {x y : Value} {T : TypeId} (hb : Below (w.alloc (.cells #[x, y] T)).heap.size (w.alloc (.cells #[x, y] T)) w2) : w2.cell? ⟨w.heap.size, 1, none⟩ = some y := by
  rw [(bcell hb).1 _ _ (by simp)]; simp
theorem boxed0 {w w2 : World} {x y : Value} {T : TypeId} (hb : Below (w.alloc (.cells #[x, y] T)).heap.size (w.alloc (.cells #[x, y] T)) w2) : w2.cell? ⟨w.heap.size, 0, none⟩ = some x := by
  rw [(bcell hb).1 _ _ (by simp)]; simp

theorem u64_quot (hi f m : Int) (a : -9223372036854775808 ≤ hi) (b : hi ≤ 9223372036854775807) (c : -9223372036854775808 ≤ f) (d : f ≤ hi) (h1 : 1 ≤ m) :
    IntKind.u64.wrap ((IntKind.u64.wrap (IntKind.u64.wrap hi - IntKind.u64.wrap f)).tdiv m) = (hi - f) / m := by
  have e : IntKind.u64.wrap (IntKind.u64.wrap hi - IntKind.u64.wrap f) = hi - f := by
    rw [IntKind.wrap_u64, IntKind.wrap_u64, IntKind.wrap_u64]; omega
  rw [e, IntWalk.u64_quo _ _ ⟨by omega, by omega, h1⟩]

/-- How many elements a class has between two bounds, at most the greatest integer. -/
def cnt (r m lo hi : Int) : Int :=
  if vld r m = true then if lo ≤ 9223372036854775807 - stp r m lo then if lo + stp r m lo ≤ hi then if 9223372036854775807 ≤ (hi - (lo + stp r m lo)) / m then 9223372036854775807 else (hi - (lo + stp r m lo)) / m + 1 else 0 else 0 else 0

theorem Count_none (r m lo hi : Int) (w : World) (hv : vld r m = false) : Calls Try.prog 25 #[.agg #[.int .i64 r, .int .i64 m], .int .i64 lo, .int .i64 hi] w fun e w' => e = .returned (.int .i64 0) ∧ Below w.heap.size w w' := by
  have H := Lib.hid (show Calls Try.prog 23 #[.agg #[.int .i64 r, .int .i64 m], .int .i64 lo] _ fun e w' => e = .returned (.tuple #[.int .i64 0, .bool false]) ∧ Below _ _ w' from Next_bad r m lo (w.alloc (.cells #[.int .i64 r, .int .i64 m] 24)) hv)
  clear hv
  go_enter Try.func25, Try.ntmps25
  go_wp2_with (go_at_call 23; refine H.out.mono ?_; rintro e w2 ⟨rfl, hb⟩; have hc1 := boxed1 hb)
  go_ret
  exact ⟨rfl, ((Below.refl _ _).alloc (Nat.le_refl _) _).trans (hb.mono (by simp))⟩

theorem Count_far (r m lo hi : Int) (w : World) (hlo : -9223372036854775808 ≤ lo) (hlo2 : lo ≤ 9223372036854775807) (hv : vld r m = true) (hd : 9223372036854775807 - stp r m lo < lo) : Calls Try.prog 25 #[.agg #[.int .i64 r, .int .i64 m], .int .i64 lo, .int .i64 hi] w fun e w' => e = .returned (.int .i64 0) ∧ Below w.heap.size w w' := by
  have H := Lib.hid (show Calls Try.prog 23 #[.agg #[.int .i64 r, .int .i64 m], .int .i64 lo] _ fun e w' => e = .returned (.tuple #[.int .i64 0, .bool false]) ∧ Below _ _ w' from Next_far r m lo (w.alloc (.cells #[.int .i64 r, .int .i64 m] 24)) hlo hlo2 hv hd)
  clear hv hd
  go_enter Try.func25, Try.ntmps25
  go_wp2_with (go_at_call 23; refine H.out.mono ?_; rintro e w2 ⟨rfl, hb⟩; have hc1 := boxed1 hb)
  go_ret
  exact ⟨rfl, ((Below.refl _ _).alloc (Nat.le_refl _) _).trans (hb.mono (by simp))⟩

theorem Count_out (r m lo hi f : Int) (w : World) (hlo : -9223372036854775808 ≤ lo) (hlo2 : lo ≤ 9223372036854775807) (hv : vld r m = true) (hd : lo ≤ 9223372036854775807 - stp r m lo) (hf : lo + stp r m lo = f) (hfl : hi < f) : Calls Try.prog 25 #[.agg #[.int .i64 r, .int .i64 m], .int .i64 lo, .int .i64 hi] w fun e w' => e = .returned (.int .i64 0) ∧ Below w.heap.size w w' := by
  have H := Lib.hid (show Calls Try.prog 23 #[.agg #[.int .i64 r, .int .i64 m], .int .i64 lo] _ fun e w' => e = .returned (.tuple #[.int .i64 f, .bool true]) ∧ Below _ _ w' from hf ▸ Next_ok r m lo (w.alloc (.cells #[.int .i64 r, .int .i64 m] 24)) hlo hlo2 hv hd)
  clear hv hd hf
  go_enter Try.func25, Try.ntmps25
  go_wp2_with (go_at_call 23; refine H.out.mono ?_; rintro e w2 ⟨rfl, hb⟩; have hc1 := boxed1 hb)
  go_ret
  exact ⟨rfl, ((Below.refl _ _).alloc (Nat.le_refl _) _).trans (hb.mono (by simp))⟩

theorem Count_in (r m lo hi f q : Int) (w : World) (hlo : -9223372036854775808 ≤ lo) (hlo2 : lo ≤ 9223372036854775807) (hhi : -9223372036854775808 ≤ hi) (hhi2 : hi ≤ 9223372036854775807) (hv : vld r m = true) (hd : lo ≤ 9223372036854775807 - stp r m lo) (hf : lo + stp r m lo = f) (hfl : f ≤ hi) (hq : (hi - f) / m = q) (hq2 : q < 9223372036854775807) : Calls Try.prog 25 #[.agg #[.int .i64 r, .int .i64 m], .int .i64 lo, .int .i64 hi] w fun e w' => e = .returned (.int .i64 (q + 1)) ∧ Below w.heap.size w w' := by
  obtain ⟨h1, h2, h3, h4⟩ := vld_yes hv
  obtain ⟨s1, s2⟩ := stp_bd r m lo h1
  have hfb : lo ≤ f := by omega
  have H := Lib.hid (show Calls Try.prog 23 #[.agg #[.int .i64 r, .int .i64 m], .int .i64 lo] _ fun e w' => e = .returned (.tuple #[.int .i64 f, .bool true]) ∧ Below _ _ w' from hf ▸ Next_ok r m lo (w.alloc (.cells #[.int .i64 r, .int .i64 m] 24)) hlo hlo2 hv hd)
  have hq0 : 0 ≤ q := by rw [← hq]; exact Int.ediv_nonneg (by omega) (by omega)
  have hE : IntKind.u64.wrap ((IntKind.u64.wrap (IntKind.u64.wrap hi - IntKind.u64.wrap f)).tdiv m) = q := by rw [u64_quot hi f m hhi hhi2 (by omega) hfl h1]; exact hq
  clear hq hf hv hd
  go_enter Try.func25, Try.ntmps25
  go_wp2_with (go_at_call 23; refine H.out.mono ?_; rintro e w2 ⟨rfl, hb⟩; have hc1 := boxed1 hb)
  go_ret
  exact ⟨rfl, ((Below.refl _ _).alloc (Nat.le_refl _) _).trans (hb.mono (by simp))⟩

theorem Count_top (r m lo hi f q : Int) (w : World) (hlo : -9223372036854775808 ≤ lo) (hlo2 : lo ≤ 9223372036854775807) (hhi : -9223372036854775808 ≤ hi) (hhi2 : hi ≤ 9223372036854775807) (hv : vld r m = true) (hd : lo ≤ 9223372036854775807 - stp r m lo) (hf : lo + stp r m lo = f) (hfl : f ≤ hi) (hq : (hi - f) / m = q) (hq2 : 9223372036854775807 ≤ q) : Calls Try.prog 25 #[.agg #[.int .i64 r, .int .i64 m], .int .i64 lo, .int .i64 hi] w fun e w' => e = .returned (.int .i64 9223372036854775807) ∧ Below w.heap.size w w' := by
  obtain ⟨h1, h2, h3, h4⟩ := vld_yes hv
  obtain ⟨s1, s2⟩ := stp_bd r m lo h1
  have hfb : lo ≤ f := by omega
  have H := Lib.hid (show Calls Try.prog 23 #[.agg #[.int .i64 r, .int .i64 m], .int .i64 lo] _ fun e w' => e = .returned (.tuple #[.int .i64 f, .bool true]) ∧ Below _ _ w' from hf ▸ Next_ok r m lo (w.alloc (.cells #[.int .i64 r, .int .i64 m] 24)) hlo hlo2 hv hd)
  have hE : IntKind.u64.wrap ((IntKind.u64.wrap (IntKind.u64.wrap hi - IntKind.u64.wrap f)).tdiv m) = q := by rw [u64_quot hi f m hhi hhi2 (by omega) hfl h1]; exact hq
  clear hq hf hv hd
  go_enter Try.func25, Try.ntmps25
  go_wp2_with (go_at_call 23; refine H.out.mono ?_; rintro e w2 ⟨rfl, hb⟩; have hc1 := boxed1 hb)
  go_ret
  exact ⟨rfl, ((Below.refl _ _).alloc (Nat.le_refl _) _).trans (hb.mono (by simp))⟩

theorem Count_any (r m lo hi : Int) (w : World) (hlo : -9223372036854775808 ≤ lo) (hlo2 : lo ≤ 9223372036854775807) (hhi : -9223372036854775808 ≤ hi) (hhi2 : hi ≤ 9223372036854775807) : Calls Try.prog 25 #[.agg #[.int .i64 r, .int .i64 m], .int .i64 lo, .int .i64 hi] w fun e w' => e = .returned (.int .i64 (cnt r m lo hi)) ∧ Below w.heap.size w w' := by
  unfold cnt
  cases hv : vld r m
  · exact Count_none r m lo hi w hv
  by_cases hd : lo ≤ 9223372036854775807 - stp r m lo
  · by_cases hfl : lo + stp r m lo ≤ hi
    · by_cases hq2 : 9223372036854775807 ≤ (hi - (lo + stp r m lo)) / m
      · rw [if_pos rfl, if_pos hd, if_pos hfl, if_pos hq2]; exact Count_top r m lo hi _ _ w hlo hlo2 hhi hhi2 hv hd rfl hfl rfl hq2
      · rw [if_pos rfl, if_pos hd, if_pos hfl, if_neg hq2]; exact Count_in r m lo hi _ _ w hlo hlo2 hhi hhi2 hv hd rfl hfl rfl (by omega)
    · rw [if_pos rfl, if_pos hd, if_neg hfl]; exact Count_out r m lo hi _ w hlo hlo2 hv hd rfl (by omega)
  · rw [if_pos rfl, if_neg hd]; exact Count_far r m lo hi w hlo hlo2 hv (by omega)

theorem refCount_none (r m lo hi : Int) (w : World) (hv : vld r m = false) : Calls Try.prog 26 #[.agg #[.int .i64 r, .int .i64 m], .int .i64 lo, .int .i64 hi] w fun e w' => e = .returned (.int .i64 0) ∧ Below w.heap.size w w' := by
  have H := Lib.hid (show Calls Try.prog 24 #[.agg #[.int .i64 r, .int .i64 m], .int .i64 lo] _ fun e w' => e = .returned (.tuple #[.int .i64 0, .bool false]) ∧ Below _ _ w' from refNext_bad r m lo (w.alloc (.cells #[.int .i64 r, .int .i64 m] 28)) hv)
  clear hv
  go_enter Try.func26, Try.ntmps26
  go_wp2_with (go_at_call 24; refine H.out.mono ?_; rintro e w2 ⟨rfl, hb⟩; have hc1 := boxed1 hb)
  go_ret
  exact ⟨rfl, ((Below.refl _ _).alloc (Nat.le_refl _) _).trans (hb.mono (by simp))⟩

theorem refCount_far (r m lo hi : Int) (w : World) (hlo : -9223372036854775808 ≤ lo) (hlo2 : lo ≤ 9223372036854775807) (hv : vld r m = true) (hd : 9223372036854775807 - stp r m lo < lo) : Calls Try.prog 26 #[.agg #[.int .i64 r, .int .i64 m], .int .i64 lo, .int .i64 hi] w fun e w' => e = .returned (.int .i64 0) ∧ Below w.heap.size w w' := by
  have H := Lib.hid (show Calls Try.prog 24 #[.agg #[.int .i64 r, .int .i64 m], .int .i64 lo] _ fun e w' => e = .returned (.tuple #[.int .i64 0, .bool false]) ∧ Below _ _ w' from refNext_far r m lo (w.alloc (.cells #[.int .i64 r, .int .i64 m] 28)) hlo hlo2 hv hd)
  clear hv hd
  go_enter Try.func26, Try.ntmps26
  go_wp2_with (go_at_call 24; refine H.out.mono ?_; rintro e w2 ⟨rfl, hb⟩; have hc1 := boxed1 hb)
  go_ret
  exact ⟨rfl, ((Below.refl _ _).alloc (Nat.le_refl _) _).trans (hb.mono (by simp))⟩

theorem refCount_out (r m lo hi f : Int) (w : World) (hlo : -9223372036854775808 ≤ lo) (hlo2 : lo ≤ 9223372036854775807) (hv : vld r m = true) (hd : lo ≤ 9223372036854775807 - stp r m lo) (hf : lo + stp r m lo = f) (hfl : hi < f) : Calls Try.prog 26 #[.agg #[.int .i64 r, .int .i64 m], .int .i64 lo, .int .i64 hi] w fun e w' => e = .returned (.int .i64 0) ∧ Below w.heap.size w w' := by
  have H := Lib.hid (show Calls Try.prog 24 #[.agg #[.int .i64 r, .int .i64 m], .int .i64 lo] _ fun e w' => e = .returned (.tuple #[.int .i64 f, .bool true]) ∧ Below _ _ w' from hf ▸ refNext_ok r m lo (w.alloc (.cells #[.int .i64 r, .int .i64 m] 28)) hlo hlo2 hv hd)
  clear hv hd hf
  go_enter Try.func26, Try.ntmps26
  go_wp2_with (go_at_call 24; refine H.out.mono ?_; rintro e w2 ⟨rfl, hb⟩; have hc1 := boxed1 hb)
  go_ret
  exact ⟨rfl, ((Below.refl _ _).alloc (Nat.le_refl _) _).trans (hb.mono (by simp))⟩

theorem refCount_in (r m lo hi f q : Int) (w : World) (hlo : -9223372036854775808 ≤ lo) (hlo2 : lo ≤ 9223372036854775807) (hhi : -9223372036854775808 ≤ hi) (hhi2 : hi ≤ 9223372036854775807) (hv : vld r m = true) (hd : lo ≤ 9223372036854775807 - stp r m lo) (hf : lo + stp r m lo = f) (hfl : f ≤ hi) (hq : (hi - f) / m = q) (hq2 : q < 9223372036854775807) : Calls Try.prog 26 #[.agg #[.int .i64 r, .int .i64 m], .int .i64 lo, .int .i64 hi] w fun e w' => e = .returned (.int .i64 (q + 1)) ∧ Below w.heap.size w w' := by
  obtain ⟨h1, h2, h3, h4⟩ := vld_yes hv
  obtain ⟨s1, s2⟩ := stp_bd r m lo h1
  have hfb : lo ≤ f := by omega
  have H := Lib.hid (show Calls Try.prog 24 #[.agg #[.int .i64 r, .int .i64 m], .int .i64 lo] _ fun e w' => e = .returned (.tuple #[.int .i64 f, .bool true]) ∧ Below _ _ w' from hf ▸ refNext_ok r m lo (w.alloc (.cells #[.int .i64 r, .int .i64 m] 28)) hlo hlo2 hv hd)
  have hq0 : 0 ≤ q := by rw [← hq]; exact Int.ediv_nonneg (by omega) (by omega)
  have hE : IntKind.u64.wrap ((IntKind.u64.wrap (IntKind.u64.wrap hi - IntKind.u64.wrap f)).tdiv m) = q := by rw [u64_quot hi f m hhi hhi2 (by omega) hfl h1]; exact hq
  clear hq hf hv hd
  go_enter Try.func26, Try.ntmps26
  go_wp2_with (go_at_call 24; refine H.out.mono ?_; rintro e w2 ⟨rfl, hb⟩; have hc1 := boxed1 hb)
  go_ret
  exact ⟨rfl, ((Below.refl _ _).alloc (Nat.le_refl _) _).trans (hb.mono (by simp))⟩

theorem refCount_top (r m lo hi f q : Int) (w : World) (hlo : -9223372036854775808 ≤ lo) (hlo2 : lo ≤ 9223372036854775807) (hhi : -9223372036854775808 ≤ hi) (hhi2 : hi ≤ 9223372036854775807) (hv : vld r m = true) (hd : lo ≤ 9223372036854775807 - stp r m lo) (hf : lo + stp r m lo = f) (hfl : f ≤ hi) (hq : (hi - f) / m = q) (hq2 : 9223372036854775807 ≤ q) : Calls Try.prog 26 #[.agg #[.int .i64 r, .int .i64 m], .int .i64 lo, .int .i64 hi] w fun e w' => e = .returned (.int .i64 9223372036854775807) ∧ Below w.heap.size w w' := by
  obtain ⟨h1, h2, h3, h4⟩ := vld_yes hv
  obtain ⟨s1, s2⟩ := stp_bd r m lo h1
  have hfb : lo ≤ f := by omega
  have H := Lib.hid (show Calls Try.prog 24 #[.agg #[.int .i64 r, .int .i64 m], .int .i64 lo] _ fun e w' => e = .returned (.tuple #[.int .i64 f, .bool true]) ∧ Below _ _ w' from hf ▸ refNext_ok r m lo (w.alloc (.cells #[.int .i64 r, .int .i64 m] 28)) hlo hlo2 hv hd)
  have hE : IntKind.u64.wrap ((IntKind.u64.wrap (IntKind.u64.wrap hi - IntKind.u64.wrap f)).tdiv m) = q := by rw [u64_quot hi f m hhi hhi2 (by omega) hfl h1]; exact hq
  clear hq hf hv hd
  go_enter Try.func26, Try.ntmps26
  go_wp2_with (go_at_call 24; refine H.out.mono ?_; rintro e w2 ⟨rfl, hb⟩; have hc1 := boxed1 hb)
  go_ret
  exact ⟨rfl, ((Below.refl _ _).alloc (Nat.le_refl _) _).trans (hb.mono (by simp))⟩

theorem refCount_any (r m lo hi : Int) (w : World) (hlo : -9223372036854775808 ≤ lo) (hlo2 : lo ≤ 9223372036854775807) (hhi : -9223372036854775808 ≤ hi) (hhi2 : hi ≤ 9223372036854775807) : Calls Try.prog 26 #[.agg #[.int .i64 r, .int .i64 m], .int .i64 lo, .int .i64 hi] w fun e w' => e = .returned (.int .i64 (cnt r m lo hi)) ∧ Below w.heap.size w w' := by
  unfold cnt
  cases hv : vld r m
  · exact refCount_none r m lo hi w hv
  by_cases hd : lo ≤ 9223372036854775807 - stp r m lo
  · by_cases hfl : lo + stp r m lo ≤ hi
    · by_cases hq2 : 9223372036854775807 ≤ (hi - (lo + stp r m lo)) / m
      · rw [if_pos rfl, if_pos hd, if_pos hfl, if_pos hq2]; exact refCount_top r m lo hi _ _ w hlo hlo2 hhi hhi2 hv hd rfl hfl rfl hq2
      · rw [if_pos rfl, if_pos hd, if_pos hfl, if_neg hq2]; exact refCount_in r m lo hi _ _ w hlo hlo2 hhi hhi2 hv hd rfl hfl rfl (by omega)
    · rw [if_pos rfl, if_pos hd, if_neg hfl]; exact refCount_out r m lo hi _ w hlo hlo2 hv hd rfl (by omega)
  · rw [if_pos rfl, if_neg hd]; exact refCount_far r m lo hi w hlo hlo2 hv (by omega)

end Go.Proofs.Ytgicdfhhaefibaa
