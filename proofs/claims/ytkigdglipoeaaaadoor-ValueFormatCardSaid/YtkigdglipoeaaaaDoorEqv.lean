/- Equal and less. -/
import Derived.Test.YtkigdglipoeaaaaDoorVrw
namespace Go.Proofs.YtkigdglipoeaaaaDoor
open Go.ChangeShapes Go.WideShapes Go.ChangeAt Go.RowKit Go.ChangeMaps

theorem truth_any (b : Bool) (w : World) : Calls Tryd.prog 42 #[.bool b] w fun e w' => e = .returned (.int .i64 (if b then 1 else 0)) ∧ w = w' := by
  cases b <;>
  · go_enter Tryd.func42, Tryd.ntmps42
    go_wp2
    go_ret
    exact ⟨rfl, rfl⟩
theorem rtruth_any (b : Bool) (w : World) : Calls Tryd.prog 43 #[.bool b] w fun e w' => e = .returned (.int .i64 (if b then 1 else 0)) ∧ w = w' := by
  cases b <;>
  · go_enter Tryd.func43, Tryd.ntmps43
    go_wp2
    go_ret
    exact ⟨rfl, rfl⟩
theorem lex_zero {α : Type} (f : α → α → Int) (hf : ∀ a b, f a b = 0 ↔ a = b) : ∀ l m, lex f l m = 0 ↔ l = m
  | [], [] => by simp [lex]
  | [], _ :: _ => by simp [lex]
  | _ :: _, [] => by simp [lex]
  | a :: l, b :: m => by
    unfold lex
    by_cases h : f a b = 0
    · rw [if_pos h, lex_zero f hf l m, (hf a b).1 h]; simp
    · rw [if_neg h]
      have : a ≠ b := fun e => h ((hf a b).2 e)
      simp [h, this]
theorem ucmp_zero (a b : UInt8) : ucmp a b = 0 ↔ a = b := by
  unfold ucmp; rw [icmp_zero]
  constructor
  · intro h; exact UInt8.toNat_inj.1 (by exact_mod_cast h)
  · rintro rfl; rfl
theorem vcmp_zero (x y : V3) : vcmp x y = 0 ↔ x.k = y.k ∧ x.n = y.n ∧ x.s.data.toList = y.s.data.toList := by
  unfold vcmp
  by_cases h : x.k = y.k
  · by_cases g : x.n = y.n
    · rw [if_neg (by simpa using h), if_neg (by simpa using g)]
      unfold tcmp
      rw [lex_zero ucmp ucmp_zero]
      simp [h, g]
    · rw [if_neg (by simpa using h), if_pos g, icmp_zero]; simp [h, g]
  · rw [if_pos h, icmp_zero]; simp [h]
def eqT (x y : V3) : Int := if x.k = 0 ∨ y.k = 0 then 2 else if vcmp x y = 0 then 1 else 0
def ltT (x y : V3) : Int := if x.k = 0 ∨ y.k = 0 then 2 else if x.k = y.k ∧ vcmp x y < 0 then 1 else 0
set_option maxHeartbeats 1000000 in
theorem VEqual_any (k n : Int) (s : ByteArray) (k' n' : Int) (t : ByteArray) (w : World) : Calls Tryd.prog 20 #[.agg #[.int .i64 k, .int .i64 n, .string s], .agg #[.int .i64 k', .int .i64 n', .string t]] w fun e w' => e = .returned (.int .i64 (eqT ⟨k, n, s⟩ ⟨k', n', t⟩)) ∧ Below w.heap.size w w' := by
  by_cases h0 : k = 0
  · have H := Lib.hid (show eqT ⟨k, n, s⟩ ⟨k', n', t⟩ = 2 by unfold eqT; rw [if_pos (.inl h0)])
    rw [H.out]
    subst h0
    go_enter Tryd.func20, Tryd.ntmps20
    go_wp2
    go_ret
    exact ⟨rfl, ((Below.refl _ w).alloc (Nat.le_refl _) _).alloc (by simp) _⟩
  have g0 : (k == 0) = false := by simpa using h0
  by_cases h1 : k' = 0
  · have H := Lib.hid (show eqT ⟨k, n, s⟩ ⟨k', n', t⟩ = 2 by unfold eqT; rw [if_pos (.inr h1)])
    rw [H.out]
    subst h1
    go_enter Tryd.func20, Tryd.ntmps20
    go_wp2
    go_ret
    exact ⟨rfl, ((Below.refl _ w).alloc (Nat.le_refl _) _).alloc (by simp) _⟩
  have g1 : (k' == 0) = false := by simpa using h1
  have HE : Hid (eqT ⟨k, n, s⟩ ⟨k', n', t⟩ = if k = k' ∧ n = n' ∧ s.data.toList = t.data.toList then 1 else 0) := by
    refine Lib.hid ?_
    unfold eqT
    rw [if_neg (by simp [h0, h1])]
    simp only [vcmp_zero]
  have e2 : s.toList = s.data.toList := ByteArray.toList_eq ..
  have e3 : t.toList = t.data.toList := ByteArray.toList_eq ..
  rw [← e2, ← e3] at HE
  clear e2 e3
  by_cases h2 : k = k'
  · subst h2
    by_cases h3 : n = n'
    · subst h3
      by_cases h4 : s.toList = t.toList
      · rw [HE.out, if_pos ⟨rfl, rfl, h4⟩]
        have h5 : (s.toList == t.toList) = true := by simpa using h4
        clear HE
        go_enter Tryd.func20, Tryd.ntmps20
        go_wp2_with (first | (go_at_call 42; refine (truth_any _ _).mono ?_; rintro e w' ⟨rfl, rfl⟩) | (go_at_call 43; refine (rtruth_any _ _).mono ?_; rintro e w' ⟨rfl, rfl⟩))
        go_ret
        exact ⟨rfl, ((Below.refl _ w).alloc (Nat.le_refl _) _).alloc (by simp) _⟩
      · rw [HE.out, if_neg (by simp [h4])]
        have h5 : (s.toList == t.toList) = false := by simpa using h4
        clear HE
        go_enter Tryd.func20, Tryd.ntmps20
        go_wp2_with (first | (go_at_call 42; refine (truth_any _ _).mono ?_; rintro e w' ⟨rfl, rfl⟩) | (go_at_call 43; refine (rtruth_any _ _).mono ?_; rintro e w' ⟨rfl, rfl⟩))
        go_ret
        exact ⟨rfl, ((Below.refl _ w).alloc (Nat.le_refl _) _).alloc (by simp) _⟩
    · rw [HE.out, if_neg (by simp [h3])]
      have h5 : (n == n') = false := by simpa using h3
      clear HE
      go_enter Tryd.func20, Tryd.ntmps20
      go_wp2_with (first | (go_at_call 42; refine (truth_any _ _).mono ?_; rintro e w' ⟨rfl, rfl⟩) | (go_at_call 43; refine (rtruth_any _ _).mono ?_; rintro e w' ⟨rfl, rfl⟩))
      go_ret
      exact ⟨rfl, ((Below.refl _ w).alloc (Nat.le_refl _) _).alloc (by simp) _⟩
  · rw [HE.out, if_neg (by simp [h2])]
    have h5 : (k == k') = false := by simpa using h2
    clear HE
    go_enter Tryd.func20, Tryd.ntmps20
    go_wp2_with (first | (go_at_call 42; refine (truth_any _ _).mono ?_; rintro e w' ⟨rfl, rfl⟩) | (go_at_call 43; refine (rtruth_any _ _).mono ?_; rintro e w' ⟨rfl, rfl⟩))
    go_ret
    exact ⟨rfl, ((Below.refl _ w).alloc (Nat.le_refl _) _).alloc (by simp) _⟩
set_option maxHeartbeats 1000000 in
theorem REqual_any (k n : Int) (s : ByteArray) (k' n' : Int) (t : ByteArray) (w : World) (hs : s.size ≤ 9223372036854775807) (ht : t.size ≤ 9223372036854775807) : Calls Tryd.prog 21 #[.agg #[.int .i64 k, .int .i64 n, .string s], .agg #[.int .i64 k', .int .i64 n', .string t]] w fun e w' => e = .returned (.int .i64 (eqT ⟨k, n, s⟩ ⟨k', n', t⟩)) ∧ Below w.heap.size w w' := by
  by_cases h0 : k = 0
  · have H := Lib.hid (show eqT ⟨k, n, s⟩ ⟨k', n', t⟩ = 2 by unfold eqT; rw [if_pos (.inl h0)])
    rw [H.out]
    subst h0
    go_enter Tryd.func21, Tryd.ntmps21
    go_wp2
    go_ret
    exact ⟨rfl, ((Below.refl _ w).alloc (Nat.le_refl _) _).alloc (by simp) _⟩
  have g0 : (k == 0) = false := by simpa using h0
  by_cases h1 : k' = 0
  · have H := Lib.hid (show eqT ⟨k, n, s⟩ ⟨k', n', t⟩ = 2 by unfold eqT; rw [if_pos (.inr h1)])
    rw [H.out]
    subst h1
    go_enter Tryd.func21, Tryd.ntmps21
    go_wp2
    go_ret
    exact ⟨rfl, ((Below.refl _ w).alloc (Nat.le_refl _) _).alloc (by simp) _⟩
  have g1 : (k' == 0) = false := by simpa using h1
  have HE : Hid (eqT ⟨k, n, s⟩ ⟨k', n', t⟩ = if vcmp ⟨k, n, s⟩ ⟨k', n', t⟩ = 0 then 1 else 0) := by
    refine Lib.hid ?_
    unfold eqT
    rw [if_neg (by simp [h0, h1])]
  have HC := Lib.hid (fun w => Cmp_any k n s k' n' t w hs ht)
  rw [HE.out]
  clear HE
  generalize vcmp ⟨k, n, s⟩ ⟨k', n', t⟩ = z at *
  by_cases hz : z = 0
  · subst hz
    go_enter Tryd.func21, Tryd.ntmps21
    go_wp2_with (first | (go_at_call 16; refine (HC.out _).mono ?_; rintro e w' ⟨rfl, hb⟩) | (go_at_call 43; refine (rtruth_any _ _).mono ?_; rintro e w' ⟨rfl, rfl⟩))
    go_ret
    exact ⟨rfl, (((Below.refl _ w).alloc (Nat.le_refl _) _).alloc (by simp) _).trans (hb.mono (by simp; omega))⟩
  · rw [if_neg hz]
    have hz2 : (z == 0) = false := by simpa using hz
    go_enter Tryd.func21, Tryd.ntmps21
    go_wp2_with (first | (go_at_call 16; refine (HC.out _).mono ?_; rintro e w' ⟨rfl, hb⟩) | (go_at_call 43; refine (rtruth_any _ _).mono ?_; rintro e w' ⟨rfl, rfl⟩))
    go_ret
    exact ⟨rfl, (((Below.refl _ w).alloc (Nat.le_refl _) _).alloc (by simp) _).trans (hb.mono (by simp; omega))⟩
set_option maxHeartbeats 1000000 in
theorem VLess_any (k n : Int) (s : ByteArray) (k' n' : Int) (t : ByteArray) (w : World) : Calls Tryd.prog 22 #[.agg #[.int .i64 k, .int .i64 n, .string s], .agg #[.int .i64 k', .int .i64 n', .string t]] w fun e w' => e = .returned (.int .i64 (ltT ⟨k, n, s⟩ ⟨k', n', t⟩)) ∧ Below w.heap.size w w' := by
  by_cases h0 : k = 0
  · have H := Lib.hid (show ltT ⟨k, n, s⟩ ⟨k', n', t⟩ = 2 by unfold ltT; rw [if_pos (.inl h0)])
    rw [H.out]
    subst h0
    go_enter Tryd.func22, Tryd.ntmps22
    go_wp2
    go_ret
    exact ⟨rfl, ((Below.refl _ w).alloc (Nat.le_refl _) _).alloc (by simp) _⟩
  have g0 : (k == 0) = false := by simpa using h0
  by_cases h1 : k' = 0
  · have H := Lib.hid (show ltT ⟨k, n, s⟩ ⟨k', n', t⟩ = 2 by unfold ltT; rw [if_pos (.inr h1)])
    rw [H.out]
    subst h1
    go_enter Tryd.func22, Tryd.ntmps22
    go_wp2
    go_ret
    exact ⟨rfl, ((Below.refl _ w).alloc (Nat.le_refl _) _).alloc (by simp) _⟩
  have g1 : (k' == 0) = false := by simpa using h1
  have HE : Hid (ltT ⟨k, n, s⟩ ⟨k', n', t⟩ = if k = k' ∧ vcmp ⟨k, n, s⟩ ⟨k', n', t⟩ < 0 then 1 else 0) := by
    refine Lib.hid ?_
    unfold ltT
    rw [if_neg (by simp [h0, h1])]
  have HC := Lib.hid (fun w => VCmp_any k n s k' n' t w)
  rw [HE.out]
  clear HE
  generalize vcmp ⟨k, n, s⟩ ⟨k', n', t⟩ = z at *
  by_cases h2 : k = k'
  · subst h2
    by_cases hz : z < 0
    · rw [if_pos ⟨rfl, hz⟩]
      have hz2 : decide (z < 0) = true := by simpa using hz
      go_enter Tryd.func22, Tryd.ntmps22
      go_wp2_with (first | (go_at_call 15; refine (HC.out _).mono ?_; rintro e w' ⟨rfl, hb⟩) | (go_at_call 42; refine (truth_any _ _).mono ?_; rintro e w' ⟨rfl, rfl⟩))
      go_ret
      exact ⟨rfl, (((Below.refl _ w).alloc (Nat.le_refl _) _).alloc (by simp) _).trans (hb.mono (by simp; omega))⟩
    · rw [if_neg (by simp [hz])]
      have hz2 : decide (z < 0) = false := by simpa using hz
      go_enter Tryd.func22, Tryd.ntmps22
      go_wp2_with (first | (go_at_call 15; refine (HC.out _).mono ?_; rintro e w' ⟨rfl, hb⟩) | (go_at_call 42; refine (truth_any _ _).mono ?_; rintro e w' ⟨rfl, rfl⟩))
      go_ret
      exact ⟨rfl, (((Below.refl _ w).alloc (Nat.le_refl _) _).alloc (by simp) _).trans (hb.mono (by simp; omega))⟩
  · rw [if_neg (by simp [h2])]
    have h5 : (k == k') = false := by simpa using h2
    clear HC
    go_enter Tryd.func22, Tryd.ntmps22
    go_wp2_with (go_at_call 42; refine (truth_any _ _).mono ?_; rintro e w' ⟨rfl, rfl⟩)
    go_ret
    exact ⟨rfl, ((Below.refl _ w).alloc (Nat.le_refl _) _).alloc (by simp) _⟩
set_option maxHeartbeats 1000000 in
theorem RLess_any (k n : Int) (s : ByteArray) (k' n' : Int) (t : ByteArray) (w : World) (hs : s.size ≤ 9223372036854775807) (ht : t.size ≤ 9223372036854775807) : Calls Tryd.prog 23 #[.agg #[.int .i64 k, .int .i64 n, .string s], .agg #[.int .i64 k', .int .i64 n', .string t]] w fun e w' => e = .returned (.int .i64 (ltT ⟨k, n, s⟩ ⟨k', n', t⟩)) ∧ Below w.heap.size w w' := by
  by_cases h0 : k = 0
  · have H := Lib.hid (show ltT ⟨k, n, s⟩ ⟨k', n', t⟩ = 2 by unfold ltT; rw [if_pos (.inl h0)])
    rw [H.out]
    subst h0
    go_enter Tryd.func23, Tryd.ntmps23
    go_wp2
    go_ret
    exact ⟨rfl, ((Below.refl _ w).alloc (Nat.le_refl _) _).alloc (by simp) _⟩
  have g0 : (k == 0) = false := by simpa using h0
  by_cases h1 : k' = 0
  · have H := Lib.hid (show ltT ⟨k, n, s⟩ ⟨k', n', t⟩ = 2 by unfold ltT; rw [if_pos (.inr h1)])
    rw [H.out]
    subst h1
    go_enter Tryd.func23, Tryd.ntmps23
    go_wp2
    go_ret
    exact ⟨rfl, ((Below.refl _ w).alloc (Nat.le_refl _) _).alloc (by simp) _⟩
  have g1 : (k' == 0) = false := by simpa using h1
  have HE : Hid (ltT ⟨k, n, s⟩ ⟨k', n', t⟩ = if k = k' ∧ vcmp ⟨k, n, s⟩ ⟨k', n', t⟩ < 0 then 1 else 0) := by
    refine Lib.hid ?_
    unfold ltT
    rw [if_neg (by simp [h0, h1])]
  have HC := Lib.hid (fun w => Cmp_any k n s k' n' t w hs ht)
  rw [HE.out]
  clear HE
  generalize vcmp ⟨k, n, s⟩ ⟨k', n', t⟩ = z at *
  by_cases h2 : k = k'
  · subst h2
    by_cases hz : z < 0
    · rw [if_pos ⟨rfl, hz⟩]
      have hz2 : decide (z < 0) = true := by simpa using hz
      go_enter Tryd.func23, Tryd.ntmps23
      go_wp2_with (first | (go_at_call 16; refine (HC.out _).mono ?_; rintro e w' ⟨rfl, hb⟩) | (go_at_call 43; refine (rtruth_any _ _).mono ?_; rintro e w' ⟨rfl, rfl⟩))
      go_ret
      exact ⟨rfl, (((Below.refl _ w).alloc (Nat.le_refl _) _).alloc (by simp) _).trans (hb.mono (by simp; omega))⟩
    · rw [if_neg (by simp [hz])]
      have hz2 : decide (z < 0) = false := by simpa using hz
      go_enter Tryd.func23, Tryd.ntmps23
      go_wp2_with (first | (go_at_call 16; refine (HC.out _).mono ?_; rintro e w' ⟨rfl, hb⟩) | (go_at_call 43; refine (rtruth_any _ _).mono ?_; rintro e w' ⟨rfl, rfl⟩))
      go_ret
      exact ⟨rfl, (((Below.refl _ w).alloc (Nat.le_refl _) _).alloc (by simp) _).trans (hb.mono (by simp; omega))⟩
  · rw [if_neg (by simp [h2])]
    have h5 : (k == k') = false := by simpa using h2
    clear HC
    go_enter Tryd.func23, Tryd.ntmps23
    go_wp2_with (go_at_call 43; refine (rtruth_any _ _).mono ?_; rintro e w' ⟨rfl, rfl⟩)
    go_ret
    exact ⟨rfl, ((Below.refl _ w).alloc (Nat.le_refl _) _).alloc (by simp) _⟩

theorem long_any (k n : Int) (s : ByteArray) (w : World) : Calls Tryd.prog 12 #[.agg #[.int .i64 k, .int .i64 n, .string s]] w fun e w' => e = .returned (.bool (decide (100 < s.size))) ∧ Below w.heap.size w w' := by
  rcases Nat.lt_or_ge 100 s.size with h | h
  · have h1 : decide ((s.size : Int) > 100) = true := decide_eq_true (by omega)
    rw [decide_eq_true h]
    go_enter Tryd.func12, Tryd.ntmps12
    go_wp2
    go_ret
    exact ⟨rfl, (Below.refl _ w).alloc (Nat.le_refl _) _⟩
  · have h1 : decide ((s.size : Int) > 100) = false := decide_eq_false (by omega)
    rw [decide_eq_false (by omega)]
    go_enter Tryd.func12, Tryd.ntmps12
    go_wp2
    go_ret
    exact ⟨rfl, (Below.refl _ w).alloc (Nat.le_refl _) _⟩
end Go.Proofs.YtkigdglipoeaaaaDoor
