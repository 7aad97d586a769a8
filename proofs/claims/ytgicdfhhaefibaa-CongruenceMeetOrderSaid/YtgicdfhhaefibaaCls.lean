/- Membership, the next element and the count of a class, in the code and in the reference. -/
import Derived.Test.YtgicdfhhaefibaaCon
import Derived.Lib.QuietBelow
namespace Go.Proofs.Ytgicdfhhaefibaa
open Go.Sort Go.ChangeShapes Go.WideShapes Go.ChangeAt Go.RowKit

theorem pure_below {P : Program} {f : FuncId} {args : Array Value} {w : World} {v : Value} (h : Calls P f args w fun e w' => e = .returned v ∧ w = w') : Calls P f args w fun e w' => e = .returned v ∧ Below w.heap.size w w' :=
  h.mono fun _ _ ⟨a, b⟩ => ⟨a, b ▸ Below.refl _ _⟩
theorem drawn_below {P : Program} {f : FuncId} {args : Array Value} {w : World} {v : Value} (h : Calls P f args w fun e w' => e = .returned v ∧ ∃ n, w' = w.drewN n) : Calls P f args w fun e w' => e = .returned v ∧ Below w.heap.size w w' :=
  h.mono fun _ _ ⟨a, n, b⟩ => ⟨a, b ▸ below_drewN (Below.refl _ _) n⟩
theorem boxed_below (w : World) (o : Obj) (d : Nat) (os : Array Obj) : Below w.heap.size w (grow (redrawn (w.alloc o) d) os) :=
  ((Below.refl _ _).alloc (Nat.le_refl _) _).trans ((below_regrown _ d os).mono (by simp))

def cont (r m n : Int) : Bool := vld r m && decide (n % m = r)
theorem valid_is (r m : Int) (v : Bool) (w : World) (h : vld r m = v) : Calls Try.prog 37 #[.agg #[.int .i64 r, .int .i64 m]] w fun e w' => e = .returned (.bool v) ∧ Below w.heap.size w w' := by
  subst h; exact valid_any r m w
theorem refvalid_is (r m : Int) (v : Bool) (w : World) (h : vld r m = v) : Calls Try.prog 20 #[.agg #[.int .i64 r, .int .i64 m]] w fun e w' => e = .returned (.bool v) ∧ Below w.heap.size w w' := by
  subst h; exact refvalid_any r m w

theorem Contains_any (r m n : Int) (w : World) : Calls Try.prog 16 #[.agg #[.int .i64 r, .int .i64 m], .int .i64 n] w fun e w' => e = .returned (.bool (cont r m n)) ∧ Below w.heap.size w w' := by
  unfold cont
  cases hv : vld r m
  · have H := Lib.hid hv
    clear hv
    go_enter Try.func16, Try.ntmps16
    go_wp2
    have hc0 : ∀ d os, (grow (redrawn (w.alloc (.cells #[.int .i64 r, .int .i64 m] 24)) d) os).cell? ⟨w.heap.size, 0, none⟩ = some (.int .i64 r) := fun d os => cell_regrown (by simp) d os
    have hc1 : ∀ d os, (grow (redrawn (w.alloc (.cells #[.int .i64 r, .int .i64 m] 24)) d) os).cell? ⟨w.heap.size, 1, none⟩ = some (.int .i64 m) := fun d os => cell_regrown (by simp) d os
    refine wp_region_quiet_below (by kernel_rfl) (by kernel_rfl) ?_
    repeat (go_big_quiet_step ((first | (go_at_call 37; exact Calls.regrown_of (valid_is _ _ _ _ H.out)) | fail)))
    refine wpQuiet_nil ?_
    intro _ hw'
    obtain ⟨⟨dq, osq⟩, hw''⟩ := hw'
    subst hw''
    go_wp2
    go_ret
    exact ⟨rfl, boxed_below _ _ _ _⟩
  · obtain ⟨h1, h2, h3, h4⟩ := vld_yes hv
    have H := Lib.hid hv
    clear hv
    go_enter Try.func16, Try.ntmps16
    go_wp2
    have hc0 : ∀ d os, (grow (redrawn (w.alloc (.cells #[.int .i64 r, .int .i64 m] 24)) d) os).cell? ⟨w.heap.size, 0, none⟩ = some (.int .i64 r) := fun d os => cell_regrown (by simp) d os
    have hc1 : ∀ d os, (grow (redrawn (w.alloc (.cells #[.int .i64 r, .int .i64 m] 24)) d) os).cell? ⟨w.heap.size, 1, none⟩ = some (.int .i64 m) := fun d os => cell_regrown (by simp) d os
    refine wp_region_quiet_below (by kernel_rfl) (by kernel_rfl) ?_
    repeat (go_big_quiet_step ((first | (go_at_call 37; exact Calls.regrown_of (valid_is _ _ _ _ H.out)) | (go_at_call 35; exact Calls.regrown_of (pure_below (mod_any _ _ _ h1 (by omega)))))))
    refine wpQuiet_nil ?_
    intro _ hw'
    obtain ⟨⟨dq, osq⟩, hw''⟩ := hw'
    subst hw''
    go_wp2
    go_ret
    exact ⟨ret_bool (by simp [Bool.beq_eq_decide_eq]), boxed_below _ _ _ _⟩

theorem refContains_any (r m n : Int) (w : World) : Calls Try.prog 18 #[.agg #[.int .i64 r, .int .i64 m], .int .i64 n] w fun e w' => e = .returned (.bool (cont r m n)) ∧ Below w.heap.size w w' := by
  unfold cont
  cases hv : vld r m
  · have H := Lib.hid hv
    clear hv
    go_enter Try.func18, Try.ntmps18
    go_wp2
    have hc0 : ∀ d os, (grow (redrawn (w.alloc (.cells #[.int .i64 r, .int .i64 m] 28)) d) os).cell? ⟨w.heap.size, 0, none⟩ = some (.int .i64 r) := fun d os => cell_regrown (by simp) d os
    have hc1 : ∀ d os, (grow (redrawn (w.alloc (.cells #[.int .i64 r, .int .i64 m] 28)) d) os).cell? ⟨w.heap.size, 1, none⟩ = some (.int .i64 m) := fun d os => cell_regrown (by simp) d os
    refine wp_region_quiet_below (by kernel_rfl) (by kernel_rfl) ?_
    repeat (go_big_quiet_step ((first | (go_at_call 20; exact Calls.regrown_of (refvalid_is _ _ _ _ H.out)) | fail)))
    refine wpQuiet_nil ?_
    intro _ hw'
    obtain ⟨⟨dq, osq⟩, hw''⟩ := hw'
    subst hw''
    go_wp2
    go_ret
    exact ⟨rfl, boxed_below _ _ _ _⟩
  · obtain ⟨h1, h2, h3, h4⟩ := vld_yes hv
    have H := Lib.hid hv
    clear hv
    go_enter Try.func18, Try.ntmps18
    go_wp2
    have hc0 : ∀ d os, (grow (redrawn (w.alloc (.cells #[.int .i64 r, .int .i64 m] 28)) d) os).cell? ⟨w.heap.size, 0, none⟩ = some (.int .i64 r) := fun d os => cell_regrown (by simp) d os
    have hc1 : ∀ d os, (grow (redrawn (w.alloc (.cells #[.int .i64 r, .int .i64 m] 28)) d) os).cell? ⟨w.heap.size, 1, none⟩ = some (.int .i64 m) := fun d os => cell_regrown (by simp) d os
    refine wp_region_quiet_below (by kernel_rfl) (by kernel_rfl) ?_
    repeat (go_big_quiet_step ((first | (go_at_call 20; exact Calls.regrown_of (refvalid_is _ _ _ _ H.out)) | (go_at_call 30; exact Calls.regrown_of (pure_below (refmod_any _ _ _ h1 (by omega)))))))
    refine wpQuiet_nil ?_
    intro _ hw'
    obtain ⟨⟨dq, osq⟩, hw''⟩ := hw'
    subst hw''
    go_wp2
    go_ret
    exact ⟨ret_bool (by simp [Bool.beq_eq_decide_eq]), boxed_below _ _ _ _⟩

def stp (r m n : Int) : Int := (r - n % m) % m
theorem stp_bd (r m n : Int) (h1 : 1 ≤ m) : 0 ≤ stp r m n ∧ stp r m n < m :=
  ⟨Int.emod_nonneg _ (by omega), Int.emod_lt_of_pos _ (by omega)⟩
theorem mod_is (n m v : Int) (w : World) (hm : 1 ≤ m) (hm2 : m ≤ 9223372036854775807) (h : n % m = v) :
    Calls Try.prog 35 #[.int .i64 n, .int .i64 m] w fun e w' => e = .returned (.int .i64 v) ∧ w = w' := by
  subst h; exact mod_any n m w hm hm2
theorem refmod_is (n m v : Int) (w : World) (hm : 1 ≤ m) (hm2 : m ≤ 9223372036854775807) (h : n % m = v) :
    Calls Try.prog 30 #[.int .i64 n, .int .i64 m] w fun e w' => e = .returned (.int .i64 v) ∧ w = w' := by
  subst h; exact refmod_any n m w hm hm2

theorem Next_bad (r m n : Int) (w : World) (hv : vld r m = false) : Calls Try.prog 23 #[.agg #[.int .i64 r, .int .i64 m], .int .i64 n] w fun e w' => e = .returned (.tuple #[.int .i64 0, .bool false]) ∧ Below w.heap.size w w' := by
  have H := Lib.hid hv
  clear hv
  go_enter Try.func23, Try.ntmps23
  go_wp2_with (go_at_call 37; refine (valid_is _ _ _ _ H.out).mono ?_; rintro e w2 ⟨rfl, hb⟩)
  go_ret2
  exact ⟨rfl, ((Below.refl _ _).alloc (Nat.le_refl _) _).trans (hb.mono (by simp))⟩

theorem Next_far (r m n : Int) (w : World) (hn : -9223372036854775808 ≤ n) (hn2 : n ≤ 9223372036854775807) (hv : vld r m = true) (hd : 9223372036854775807 - stp r m n < n) : Calls Try.prog 23 #[.agg #[.int .i64 r, .int .i64 m], .int .i64 n] w fun e w' => e = .returned (.tuple #[.int .i64 0, .bool false]) ∧ Below w.heap.size w w' := by
    obtain ⟨h1, h2, h3, h4⟩ := vld_yes hv
    have H := Lib.hid hv
    clear hv
    have e0 := Int.emod_nonneg n (show m ≠ 0 by omega)
    have e1 := Int.emod_lt_of_pos n (show 0 < m by omega)
    obtain ⟨e2, e3⟩ := stp_bd r m n h1
    obtain ⟨t, ht⟩ : ∃ t, n % m = t := ⟨_, rfl⟩
    have hs : (r - t) % m = stp r m n := by subst ht; rfl
    rw [ht] at e0 e1
    have HT := Lib.hid ht
    have HS := Lib.hid hs
    clear ht hs
    go_enter Try.func23, Try.ntmps23
    go_wp2_with (go_at_call 37; refine (valid_is _ _ _ _ H.out).mono ?_; rintro e w2 ⟨rfl, hb⟩)
    obtain ⟨hc, hf⟩ := bcell hb
    have hc0 : ∀ d os, (grow (redrawn w2 d) os).cell? ⟨w.heap.size, 0, none⟩ = some (.int .i64 r) := fun d os => cell_regrown (by rw [hc _ _ (by simp)]; simp) d os
    have hc1 : ∀ d os, (grow (redrawn w2 d) os).cell? ⟨w.heap.size, 1, none⟩ = some (.int .i64 m) := fun d os => cell_regrown (by rw [hc _ _ (by simp)]; simp) d os
    have hw1 : IntKind.i64.wrap (r - t) = r - t := IntWalk.i64_in _ (by omega)
    refine wp_region_quiet_below (by kernel_rfl) (by kernel_rfl) ?_
    repeat (go_big_quiet_step ((first | (go_at_call 35; first | (with_reducible exact Calls.regrown_of (pure_below (mod_is n m t _ h1 (by omega) HT.out))) | exact Calls.regrown_of (pure_below (mod_is (r - t) m _ _ h1 (by omega) HS.out))))))
    refine wpQuiet_nil ?_
    intro _ hw'
    obtain ⟨⟨dq, osq⟩, hw''⟩ := hw'
    subst hw''
    clear hw1
    go_wp2
    go_ret2
    exact ⟨rfl, ((((Below.refl _ _).alloc (Nat.le_refl _) _).trans (hb.mono (by simp))).trans ((below_regrown _ _ _).mono (by have := hb.size; simp at this; omega)))⟩

theorem Next_ok (r m n : Int) (w : World) (hn : -9223372036854775808 ≤ n) (hn2 : n ≤ 9223372036854775807) (hv : vld r m = true) (hd : n ≤ 9223372036854775807 - stp r m n) : Calls Try.prog 23 #[.agg #[.int .i64 r, .int .i64 m], .int .i64 n] w fun e w' => e = .returned (.tuple #[.int .i64 (n + stp r m n), .bool true]) ∧ Below w.heap.size w w' := by
    obtain ⟨h1, h2, h3, h4⟩ := vld_yes hv
    have H := Lib.hid hv
    clear hv
    have e0 := Int.emod_nonneg n (show m ≠ 0 by omega)
    have e1 := Int.emod_lt_of_pos n (show 0 < m by omega)
    obtain ⟨e2, e3⟩ := stp_bd r m n h1
    obtain ⟨t, ht⟩ : ∃ t, n % m = t := ⟨_, rfl⟩
    have hs : (r - t) % m = stp r m n := by subst ht; rfl
    rw [ht] at e0 e1
    have HT := Lib.hid ht
    have HS := Lib.hid hs
    clear ht hs
    go_enter Try.func23, Try.ntmps23
    go_wp2_with (go_at_call 37; refine (valid_is _ _ _ _ H.out).mono ?_; rintro e w2 ⟨rfl, hb⟩)
    obtain ⟨hc, hf⟩ := bcell hb
    have hc0 : ∀ d os, (grow (redrawn w2 d) os).cell? ⟨w.heap.size, 0, none⟩ = some (.int .i64 r) := fun d os => cell_regrown (by rw [hc _ _ (by simp)]; simp) d os
    have hc1 : ∀ d os, (grow (redrawn w2 d) os).cell? ⟨w.heap.size, 1, none⟩ = some (.int .i64 m) := fun d os => cell_regrown (by rw [hc _ _ (by simp)]; simp) d os
    have hw1 : IntKind.i64.wrap (r - t) = r - t := IntWalk.i64_in _ (by omega)
    refine wp_region_quiet_below (by kernel_rfl) (by kernel_rfl) ?_
    repeat (go_big_quiet_step ((first | (go_at_call 35; first | (with_reducible exact Calls.regrown_of (pure_below (mod_is n m t _ h1 (by omega) HT.out))) | exact Calls.regrown_of (pure_below (mod_is (r - t) m _ _ h1 (by omega) HS.out))))))
    refine wpQuiet_nil ?_
    intro _ hw'
    obtain ⟨⟨dq, osq⟩, hw''⟩ := hw'
    subst hw''
    clear hw1
    go_wp2
    go_ret2
    exact ⟨rfl, ((((Below.refl _ _).alloc (Nat.le_refl _) _).trans (hb.mono (by simp))).trans ((below_regrown _ _ _).mono (by have := hb.size; simp at this; omega)))⟩

theorem refNext_bad (r m n : Int) (w : World) (hv : vld r m = false) : Calls Try.prog 24 #[.agg #[.int .i64 r, .int .i64 m], .int .i64 n] w fun e w' => e = .returned (.tuple #[.int .i64 0, .bool false]) ∧ Below w.heap.size w w' := by
  have H := Lib.hid hv
  clear hv
  go_enter Try.func24, Try.ntmps24
  go_wp2_with (go_at_call 20; refine (refvalid_is _ _ _ _ H.out).mono ?_; rintro e w2 ⟨rfl, hb⟩)
  go_ret2
  exact ⟨rfl, ((Below.refl _ _).alloc (Nat.le_refl _) _).trans (hb.mono (by simp))⟩

theorem refNext_far (r m n : Int) (w : World) (hn : -9223372036854775808 ≤ n) (hn2 : n ≤ 9223372036854775807) (hv : vld r m = true) (hd : 9223372036854775807 - stp r m n < n) : Calls Try.prog 24 #[.agg #[.int .i64 r, .int .i64 m], .int .i64 n] w fun e w' => e = .returned (.tuple #[.int .i64 0, .bool false]) ∧ Below w.heap.size w w' := by
    obtain ⟨h1, h2, h3, h4⟩ := vld_yes hv
    have H := Lib.hid hv
    clear hv
    have e0 := Int.emod_nonneg n (show m ≠ 0 by omega)
    have e1 := Int.emod_lt_of_pos n (show 0 < m by omega)
    obtain ⟨e2, e3⟩ := stp_bd r m n h1
    obtain ⟨t, ht⟩ : ∃ t, n % m = t := ⟨_, rfl⟩
    have hs : (r - t) % m = stp r m n := by subst ht; rfl
    rw [ht] at e0 e1
    have HT := Lib.hid ht
    have HS := Lib.hid hs
    clear ht hs
    go_enter Try.func24, Try.ntmps24
    go_wp2_with (go_at_call 20; refine (refvalid_is _ _ _ _ H.out).mono ?_; rintro e w2 ⟨rfl, hb⟩)
    obtain ⟨hc, hf⟩ := bcell hb
    have hc0 : ∀ d os, (grow (redrawn w2 d) os).cell? ⟨w.heap.size, 0, none⟩ = some (.int .i64 r) := fun d os => cell_regrown (by rw [hc _ _ (by simp)]; simp) d os
    have hc1 : ∀ d os, (grow (redrawn w2 d) os).cell? ⟨w.heap.size, 1, none⟩ = some (.int .i64 m) := fun d os => cell_regrown (by rw [hc _ _ (by simp)]; simp) d os
    have hw1 : IntKind.i64.wrap (r - t) = r - t := IntWalk.i64_in _ (by omega)
    refine wp_region_quiet_below (by kernel_rfl) (by kernel_rfl) ?_
    repeat (go_big_quiet_step ((first | (go_at_call 30; first | (with_reducible exact Calls.regrown_of (pure_below (refmod_is n m t _ h1 (by omega) HT.out))) | exact Calls.regrown_of (pure_below (refmod_is (r - t) m _ _ h1 (by omega) HS.out))))))
    refine wpQuiet_nil ?_
    intro _ hw'
    obtain ⟨⟨dq, osq⟩, hw''⟩ := hw'
    subst hw''
    clear hw1
    go_wp2
    go_ret2
    exact ⟨rfl, ((((Below.refl _ _).alloc (Nat.le_refl _) _).trans (hb.mono (by simp))).trans ((below_regrown _ _ _).mono (by have := hb.size; simp at this; omega)))⟩

theorem refNext_ok (r m n : Int) (w : World) (hn : -9223372036854775808 ≤ n) (hn2 : n ≤ 9223372036854775807) (hv : vld r m = true) (hd : n ≤ 9223372036854775807 - stp r m n) : Calls Try.prog 24 #[.agg #[.int .i64 r, .int .i64 m], .int .i64 n] w fun e w' => e = .returned (.tuple #[.int .i64 (n + stp r m n), .bool true]) ∧ Below w.heap.size w w' := by
    obtain ⟨h1, h2, h3, h4⟩ := vld_yes hv
    have H := Lib.hid hv
    clear hv
    have e0 := Int.emod_nonneg n (show m ≠ 0 by omega)
    have e1 := Int.emod_lt_of_pos n (show 0 < m by omega)
    obtain ⟨e2, e3⟩ := stp_bd r m n h1
    obtain ⟨t, ht⟩ : ∃ t, n % m = t := ⟨_, rfl⟩
    have hs : (r - t) % m = stp r m n := by subst ht; rfl
    rw [ht] at e0 e1
    have HT := Lib.hid ht
    have HS := Lib.hid hs
    clear ht hs
    go_enter Try.func24, Try.ntmps24
    go_wp2_with (go_at_call 20; refine (refvalid_is _ _ _ _ H.out).mono ?_; rintro e w2 ⟨rfl, hb⟩)
    obtain ⟨hc, hf⟩ := bcell hb
    have hc0 : ∀ d os, (grow (redrawn w2 d) os).cell? ⟨w.heap.size, 0, none⟩ = some (.int .i64 r) := fun d os => cell_regrown (by rw [hc _ _ (by simp)]; simp) d os
    have hc1 : ∀ d os, (grow (redrawn w2 d) os).cell? ⟨w.heap.size, 1, none⟩ = some (.int .i64 m) := fun d os => cell_regrown (by rw [hc _ _ (by simp)]; simp) d os
    have hw1 : IntKind.i64.wrap (r - t) = r - t := IntWalk.i64_in _ (by omega)
    refine wp_region_quiet_below (by kernel_rfl) (by kernel_rfl) ?_
    repeat (go_big_quiet_step ((first | (go_at_call 30; first | (with_reducible exact Calls.regrown_of (pure_below (refmod_is n m t _ h1 (by omega) HT.out))) | exact Calls.regrown_of (pure_below (refmod_is (r - t) m _ _ h1 (by omega) HS.out))))))
    refine wpQuiet_nil ?_
    intro _ hw'
    obtain ⟨⟨dq, osq⟩, hw''⟩ := hw'
    subst hw''
    clear hw1
    go_wp2
    go_ret2
    exact ⟨rfl, ((((Below.refl _ _).alloc (Nat.le_refl _) _).trans (hb.mono (by simp))).trans ((below_regrown _ _ _).mono (by have := hb.size; simp at this; omega)))⟩

end Go.Proofs.Ytgicdfhhaefibaa
