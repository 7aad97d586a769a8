/- Values compared. -/
import Derived.Test.YtfhbffgnpedaeaaEvt
import Derived.Test.YtfhbffgnpedaeaaShelf
import Derived.StillTailTactics
namespace Go.Proofs.Ytfhbffgnpedaeaa
open Go.ChangeShapes Go.WideShapes Go.ChangeAt Go.RowKit Go.ChangeMaps

structure V3 where
  k : Int
  n : Int
  s : ByteArray
def V3.cells (x : V3) : List Value := [.int .i64 x.k, .int .i64 x.n, .string x.s]
def V3.agg (x : V3) : Value := .agg #[.int .i64 x.k, .int .i64 x.n, .string x.s]
def icmp (a b : Int) : Int := if a < b then -1 else if b < a then 1 else 0
theorem icmp_bd (a b : Int) : -1 ≤ icmp a b ∧ icmp a b ≤ 1 := by unfold icmp; split; omega; split <;> omega
theorem icmp_zero (a b : Int) : icmp a b = 0 ↔ a = b := by unfold icmp; split; omega; split <;> omega
/-- The lexicographic order. -/
def lex {α : Type} (f : α → α → Int) : List α → List α → Int
  | [], [] => 0
  | [], _ :: _ => -1
  | _ :: _, [] => 1
  | a :: l, b :: m => if f a b = 0 then lex f l m else f a b
def ucmp (a b : UInt8) : Int := icmp a.toNat b.toNat
def tcmp (l m : List UInt8) : Int := lex ucmp l m
def vcmp (x y : V3) : Int := if x.k ≠ y.k then icmp x.k y.k else if x.n ≠ y.n then icmp x.n y.n else tcmp x.s.data.toList y.s.data.toList
theorem Cmp64_any (a b : Int) (w : World) : Calls Try.prog 60 #[.int .i64 a, .int .i64 b] w fun e w' => e = .returned (.int .i64 (icmp a b)) ∧ w' = w := by
  rcases Int.lt_trichotomy a b with h | h | h
  · have H := Lib.hid (show -1 = icmp a b by unfold icmp; rw [if_pos h])
    go_enter Try.func60, Try.ntmps60
    go_wp2
    go_ret
    exact ⟨ret_int H.out, rfl⟩
  · have H := Lib.hid (show 0 = icmp a b by unfold icmp; rw [if_neg (by omega), if_neg (by omega)])
    subst h
    go_enter Try.func60, Try.ntmps60
    go_wp2
    go_ret
    exact ⟨ret_int H.out, rfl⟩
  · have h' : ¬ a < b := by omega
    have H := Lib.hid (show 1 = icmp a b by unfold icmp; rw [if_neg (by omega), if_pos h])
    go_enter Try.func60, Try.ntmps60
    go_wp2
    go_ret
    exact ⟨ret_int H.out, rfl⟩

theorem Cmp3_any (a b : Int) (w : World) : Calls Try.prog 59 #[.int .i64 a, .int .i64 b] w fun e w' => e = .returned (.int .i64 (icmp a b)) ∧ w' = w := by
  rcases Int.lt_trichotomy a b with h | h | h
  · have H := Lib.hid (show -1 = icmp a b by unfold icmp; rw [if_pos h])
    go_enter Try.func59, Try.ntmps59
    go_wp2
    go_ret
    exact ⟨ret_int H.out, rfl⟩
  · have H := Lib.hid (show 0 = icmp a b by unfold icmp; rw [if_neg (by omega), if_neg (by omega)])
    subst h
    go_enter Try.func59, Try.ntmps59
    go_wp2
    go_ret
    exact ⟨ret_int H.out, rfl⟩
  · have h' : ¬ a < b := by omega
    have H := Lib.hid (show 1 = icmp a b by unfold icmp; rw [if_neg (by omega), if_pos h])
    go_enter Try.func59, Try.ntmps59
    go_wp2
    go_ret
    exact ⟨ret_int H.out, rfl⟩

theorem tcmp_lib : ∀ l m : List UInt8, Lib.compareBytes l m = tcmp l m
  | [], [] => rfl
  | [], _ :: _ => rfl
  | _ :: _, [] => rfl
  | a :: l, b :: m => by
    have ih := tcmp_lib l m
    unfold tcmp at ih ⊢
    unfold Lib.compareBytes lex
    rw [ih]
    unfold ucmp
    by_cases h : a < b
    · have h' : (a.toNat : Int) < b.toNat := by exact_mod_cast UInt8.lt_iff_toNat_lt.1 h
      rw [if_pos h, show icmp a.toNat b.toNat = -1 by unfold icmp; rw [if_pos h']]; rfl
    · have h' : ¬ (a.toNat : Int) < b.toNat := fun q => h (UInt8.lt_iff_toNat_lt.2 (by exact_mod_cast q))
      rw [if_neg h]
      by_cases g : b < a
      · have g' : (b.toNat : Int) < a.toNat := by exact_mod_cast UInt8.lt_iff_toNat_lt.1 g
        rw [if_pos g, show icmp a.toNat b.toNat = 1 by unfold icmp; rw [if_neg h', if_pos g']]; rfl
      · have g' : ¬ (b.toNat : Int) < a.toNat := fun q => g (UInt8.lt_iff_toNat_lt.2 (by exact_mod_cast q))
        rw [if_neg g, show icmp a.toNat b.toNat = 0 by unfold icmp; rw [if_neg h', if_neg g']]; rfl
theorem StrCmp_any (s t : ByteArray) (w : World) : Calls Try.prog 61 #[.string s, .string t] w fun e w' => e = .returned (.int .i64 (tcmp s.data.toList t.data.toList)) ∧ w' = w := by
  rw [← tcmp_lib]; exact Try.strings_Compare s t w

theorem COr_any (b : Nat) (x y z r : Int) (w : World) (hx : w.cell? ⟨b, 0, none⟩ = some (.int .i64 x)) (hy : w.cell? ⟨b, 1, none⟩ = some (.int .i64 y)) (hz : w.cell? ⟨b, 2, none⟩ = some (.int .i64 z)) (hr : r = if x ≠ 0 then x else if y ≠ 0 then y else z) :
    Calls Try.prog 58 #[.slice (some ⟨b, 0, none⟩) 3 3] w fun e w' => e = .returned (.int .i64 r) ∧ w' = w := by
  by_cases h1 : x = 0
  · by_cases h2 : y = 0
    · by_cases h3 : z = 0
      · subst h1 h2 h3
        simp at hr
        subst hr
        go_enter Try.func58, Try.ntmps58
        go_wp2
        refine wp_loop_rounds 4 ?_
        rw [rounds_succ]
        go_wp2
        rw [rounds_succ]
        go_wp2
        rw [rounds_succ]
        go_wp2
        rw [rounds_succ]
        go_wp2
        go_ret
        exact ⟨rfl, rfl⟩
      · have g3 : decide (z = 0) = false := by simpa using h3
        have g4 : (z != 0) = true := by simpa using h3
        subst h1 h2
        simp at hr
        subst hr
        go_enter Try.func58, Try.ntmps58
        go_wp2
        refine wp_loop_rounds 4 ?_
        rw [rounds_succ]
        go_wp2
        rw [rounds_succ]
        go_wp2
        rw [rounds_succ]
        go_wp2
        go_ret
        exact ⟨rfl, rfl⟩
    · have g3 : decide (y = 0) = false := by simpa using h2
      have g4 : (y != 0) = true := by simpa using h2
      subst h1
      simp [h2] at hr
      subst hr
      go_enter Try.func58, Try.ntmps58
      go_wp2
      refine wp_loop_rounds 4 ?_
      rw [rounds_succ]
      go_wp2
      rw [rounds_succ]
      go_wp2
      go_ret
      exact ⟨rfl, rfl⟩
  · have g3 : decide (x = 0) = false := by simpa using h1
    have g4 : (x != 0) = true := by simpa using h1
    simp [h1] at hr
    subst hr
    go_enter Try.func58, Try.ntmps58
    go_wp2
    refine wp_loop_rounds 4 ?_
    rw [rounds_succ]
    go_wp2
    go_ret
    exact ⟨rfl, rfl⟩
set_option maxRecDepth 100000 in
set_option linter.unusedSimpArgs false in
theorem VCmp_any (k n : Int) (s : ByteArray) (k' n' : Int) (t : ByteArray) (w : World) :
    Calls Try.prog 55 #[.agg #[.int .i64 k, .int .i64 n, .string s], .agg #[.int .i64 k', .int .i64 n', .string t]] w fun e w' => e = .returned (.int .i64 (vcmp ⟨k, n, s⟩ ⟨k', n', t⟩)) ∧ Below w.heap.size w w' := by
  have H := Lib.hid (show vcmp ⟨k, n, s⟩ ⟨k', n', t⟩ = if icmp k k' ≠ 0 then icmp k k' else if icmp n n' ≠ 0 then icmp n n' else tcmp s.data.toList t.data.toList by
    unfold vcmp; simp only [ne_eq, icmp_zero])
  obtain ⟨r, hr⟩ : ∃ r, vcmp ⟨k, n, s⟩ ⟨k', n', t⟩ = r := ⟨_, rfl⟩
  rw [hr] at H ⊢
  clear hr
  have C1 := Lib.hid (fun w => Cmp3_any k k' w)
  have C2 := Lib.hid (fun w => Cmp64_any n n' w)
  have C3 := Lib.hid (fun w => StrCmp_any s t w)
  go_enter Try.func55, Try.ntmps55
  go_wp2_with fail
  obtain ⟨b, hb⟩ : ∃ b, w.heap.size = b := ⟨_, rfl⟩
  have B0 : Below b w ((w.alloc (.cells #[.int .i64 k, .int .i64 n, .string s] 23)).alloc (.cells #[.int .i64 k', .int .i64 n', .string t] 23)) := by
    rw [← hb]; exact ((Below.refl _ w).alloc (Nat.le_refl _) _).alloc (by simp) _
  have y0 : ((w.alloc (.cells #[.int .i64 k, .int .i64 n, .string s] 23)).alloc (.cells #[.int .i64 k', .int .i64 n', .string t] 23)).cell? ⟨b, 0, none⟩ = some (.int .i64 k) := pastcell (newcell 0 _ hb.symm rfl)
  have y1 : ((w.alloc (.cells #[.int .i64 k, .int .i64 n, .string s] 23)).alloc (.cells #[.int .i64 k', .int .i64 n', .string t] 23)).cell? ⟨b, 1, none⟩ = some (.int .i64 n) := pastcell (newcell 1 _ hb.symm rfl)
  have y2 : ((w.alloc (.cells #[.int .i64 k, .int .i64 n, .string s] 23)).alloc (.cells #[.int .i64 k', .int .i64 n', .string t] 23)).cell? ⟨b, 2, none⟩ = some (.string s) := pastcell (newcell 2 _ hb.symm rfl)
  have z0 : ((w.alloc (.cells #[.int .i64 k, .int .i64 n, .string s] 23)).alloc (.cells #[.int .i64 k', .int .i64 n', .string t] 23)).cell? ⟨b + 1, 0, none⟩ = some (.int .i64 k') := newcell 0 _ (by simp [hb]) rfl
  have z1 : ((w.alloc (.cells #[.int .i64 k, .int .i64 n, .string s] 23)).alloc (.cells #[.int .i64 k', .int .i64 n', .string t] 23)).cell? ⟨b + 1, 1, none⟩ = some (.int .i64 n') := newcell 1 _ (by simp [hb]) rfl
  have z2 : ((w.alloc (.cells #[.int .i64 k, .int .i64 n, .string s] 23)).alloc (.cells #[.int .i64 k', .int .i64 n', .string t] 23)).cell? ⟨b + 1, 2, none⟩ = some (.string t) := newcell 2 _ (by simp [hb]) rfl
  have s0 : b ≤ ((w.alloc (.cells #[.int .i64 k, .int .i64 n, .string s] 23)).alloc (.cells #[.int .i64 k', .int .i64 n', .string t] 23)).heap.size := by simp; omega
  rw [hb]
  generalize (w.alloc (.cells #[.int .i64 k, .int .i64 n, .string s] 23)).alloc (.cells #[.int .i64 k', .int .i64 n', .string t] 23) = W at *
  refine wp_region_still_tail 15 (by kernel_rfl) (by kernel_rfl) ?_
  simp only [List.take_succ_cons, List.take_zero, List.drop_succ_cons, List.drop_zero]
  have B1 : Below b w { heap := W.heap, tape := W.tape, drawn := W.drawn + 1, os := W.os, output := W.output } := ⟨B0.os, B0.tape, B0.output, B0.size, B0.block⟩
  obtain ⟨D, hD⟩ : ∃ D : World, ({ heap := W.heap, tape := W.tape, drawn := W.drawn + 1, os := W.os, output := W.output } : World) = D := ⟨_, rfl⟩
  have hc : ∀ a, D.cell? a = W.cell? a := fun a => by rw [← hD]; rfl
  rw [← hc] at y0 y1 y2 z0 z1 z2
  rw [show W.heap.size = D.heap.size by rw [← hD]] at s0
  clear hc
  rw [hD] at B1 ⊢
  clear hD B0
  repeat still_step
  still_call (C1.out _)
  repeat still_step
  still_call (C2.out _)
  repeat still_step
  still_call (C3.out _)
  refine wpStill_nil ?_
  go_wp2_with (go_at_call 58; refine (COr_any _ _ _ _ _ _ (newcell 0 _ rfl rfl) (newcell 1 _ rfl rfl) (newcell 2 _ rfl rfl) H.out).mono ?_; rintro e w' ⟨rfl, rfl⟩)
  go_ret
  exact ⟨rfl, by subst hb; exact B1.alloc s0 _⟩
end Go.Proofs.Ytfhbffgnpedaeaa
