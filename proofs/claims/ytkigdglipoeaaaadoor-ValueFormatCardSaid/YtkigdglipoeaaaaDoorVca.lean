/- Integers and texts compared by the library. -/
import Derived.Test.YtkigdglipoeaaaaDoorCmp
import Derived.Test.YtkigdglipoeaaaaDoorShelf
namespace Go.Proofs.YtkigdglipoeaaaaDoor
open Go.ChangeShapes Go.WideShapes Go.ChangeAt Go.RowKit Go.ChangeMaps

theorem Cmp64_any (a b : Int) (w : World) : Calls Tryd.prog 38 #[.int .i64 a, .int .i64 b] w fun e w' => e = .returned (.int .i64 (icmp a b)) ∧ w' = w := by
  rcases Int.lt_trichotomy a b with h | h | h
  · have H := Lib.hid (show -1 = icmp a b by unfold icmp; rw [if_pos h])
    go_enter Tryd.func38, Tryd.ntmps38
    go_wp2
    go_ret
    exact ⟨ret_int H.out, rfl⟩
  · have H := Lib.hid (show 0 = icmp a b by unfold icmp; rw [if_neg (by omega), if_neg (by omega)])
    subst h
    go_enter Tryd.func38, Tryd.ntmps38
    go_wp2
    go_ret
    exact ⟨ret_int H.out, rfl⟩
  · have h' : ¬ a < b := by omega
    have H := Lib.hid (show 1 = icmp a b by unfold icmp; rw [if_neg (by omega), if_pos h])
    go_enter Tryd.func38, Tryd.ntmps38
    go_wp2
    go_ret
    exact ⟨ret_int H.out, rfl⟩

theorem Cmp3_any (a b : Int) (w : World) : Calls Tryd.prog 37 #[.int .i64 a, .int .i64 b] w fun e w' => e = .returned (.int .i64 (icmp a b)) ∧ w' = w := Tryd.cmp_Compare_int a b w
theorem tcmp_lib : ∀ l m : List UInt8, Lib.compareBytes l m = tcmp l m
  | [], [] => rfl
  | [], _ :: _ => rfl
  | _ :: _, [] => rfl
  | a :: l, b :: m => by
    have ih := tcmp_lib l m
    unfold tcmp at ih ⊢
    unfold Lib.compareBytes lex
    rw [ih]
    unfold ucmp
    by_cases h : a < b
    · have h' : (a.toNat : Int) < b.toNat := by exact_mod_cast UInt8.lt_iff_toNat_lt.1 h
      rw [if_pos h, show icmp a.toNat b.toNat = -1 by unfold icmp; rw [if_pos h']]; rfl
    · have h' : ¬ (a.toNat : Int) < b.toNat := fun q => h (UInt8.lt_iff_toNat_lt.2 (by exact_mod_cast q))
      rw [if_neg h]
      by_cases g : b < a
      · have g' : (b.toNat : Int) < a.toNat := by exact_mod_cast UInt8.lt_iff_toNat_lt.1 g
        rw [if_pos g, show icmp a.toNat b.toNat = 1 by unfold icmp; rw [if_neg h', if_pos g']]; rfl
      · have g' : ¬ (b.toNat : Int) < a.toNat := fun q => g (UInt8.lt_iff_toNat_lt.2 (by exact_mod_cast q))
        rw [if_neg g, show icmp a.toNat b.toNat = 0 by unfold icmp; rw [if_neg h', if_neg g']]; rfl
theorem StrCmp_any (s t : ByteArray) (w : World) : Calls Tryd.prog 39 #[.string s, .string t] w fun e w' => e = .returned (.int .i64 (tcmp s.data.toList t.data.toList)) ∧ w' = w := by
  rw [← tcmp_lib]; exact Tryd.strings_Compare s t w

theorem Or_any (b : Nat) (x y z r : Int) (w : World) (hx : w.cell? ⟨b, 0, none⟩ = some (.int .i64 x)) (hy : w.cell? ⟨b, 1, none⟩ = some (.int .i64 y)) (hz : w.cell? ⟨b, 2, none⟩ = some (.int .i64 z)) (hr : r = if x ≠ 0 then x else if y ≠ 0 then y else z) :
    Calls Tryd.prog 36 #[.slice (some ⟨b, 0, none⟩) 3 3] w fun e w' => e = .returned (.int .i64 r) ∧ w' = w := by
  by_cases h1 : x = 0
  · by_cases h2 : y = 0
    · by_cases h3 : z = 0
      · subst h1 h2 h3
        simp at hr
        subst hr
        go_enter Tryd.func36, Tryd.ntmps36
        go_wp2
        refine wp_loop_rounds 4 ?_
        rw [rounds_succ]
        go_wp2
        rw [rounds_succ]
        go_wp2
        rw [rounds_succ]
        go_wp2
        rw [rounds_succ]
        go_wp2
        go_ret
        exact ⟨rfl, rfl⟩
      · have g3 : decide (z = 0) = false := by simpa using h3
        have g4 : (z != 0) = true := by simpa using h3
        subst h1 h2
        simp at hr
        subst hr
        go_enter Tryd.func36, Tryd.ntmps36
        go_wp2
        refine wp_loop_rounds 4 ?_
        rw [rounds_succ]
        go_wp2
        rw [rounds_succ]
        go_wp2
        rw [rounds_succ]
        go_wp2
        go_ret
        exact ⟨rfl, rfl⟩
    · have g3 : decide (y = 0) = false := by simpa using h2
      have g4 : (y != 0) = true := by simpa using h2
      subst h1
      simp [h2] at hr
      subst hr
      go_enter Tryd.func36, Tryd.ntmps36
      go_wp2
      refine wp_loop_rounds 4 ?_
      rw [rounds_succ]
      go_wp2
      rw [rounds_succ]
      go_wp2
      go_ret
      exact ⟨rfl, rfl⟩
  · have g3 : decide (x = 0) = false := by simpa using h1
    have g4 : (x != 0) = true := by simpa using h1
    simp [h1] at hr
    subst hr
    go_enter Tryd.func36, Tryd.ntmps36
    go_wp2
    refine wp_loop_rounds 4 ?_
    rw [rounds_succ]
    go_wp2
    go_ret
    exact ⟨rfl, rfl⟩
end Go.Proofs.YtkigdglipoeaaaaDoor
