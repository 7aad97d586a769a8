/- Values and rows are compared by the reference. -/
import Derived.Test.YtkigdglipoeaaaaDoorOpn
import Derived.BigQuiet
import Derived.Deep.QuietTactic
import Derived.Lib.QuietBelow
namespace Go.Proofs.YtkigdglipoeaaaaDoor
open Go.ChangeShapes Go.WideShapes Go.ChangeAt Go.RowKit Go.ChangeMaps

theorem quiet_add_left {P : Program} {f : FuncId} {args : Array Value} {w : World} {a n : Nat} {v : Value}
    (h : Calls P f args (w.drewN (a + n)) fun e w' => e = .returned v ∧ w.drewN (a + n) = w') :
    Calls P f args (w.drewN (a + n)) fun e w'' => e = .returned v ∧ ∃ m, w'' = w.drewN (a + m) :=
  h.mono fun _ _ ⟨he, hm⟩ => ⟨he, n, hm.symm⟩
theorem below_drewN {w W : World} {n : Nat} (h : Below w.heap.size w W) : Below w.heap.size w (W.drewN n) := ⟨h.os, h.tape, h.output, h.size, h.block⟩

def icmp (a b : Int) : Int := if a < b then -1 else if b < a then 1 else 0
theorem icmp_bd (a b : Int) : -1 ≤ icmp a b ∧ icmp a b ≤ 1 := by unfold icmp; split; omega; split <;> omega
theorem icmp_zero (a b : Int) : icmp a b = 0 ↔ a = b := by unfold icmp; split; omega; split <;> omega
/-- The lexicographic order. -/
def lex {α : Type} (f : α → α → Int) : List α → List α → Int
  | [], [] => 0
  | [], _ :: _ => -1
  | _ :: _, [] => 1
  | a :: l, b :: m => if f a b = 0 then lex f l m else f a b
def ucmp (a b : UInt8) : Int := icmp a.toNat b.toNat
def tcmp (l m : List UInt8) : Int := lex ucmp l m
def vcmp (x y : V3) : Int := if x.k ≠ y.k then icmp x.k y.k else if x.n ≠ y.n then icmp x.n y.n else tcmp x.s.data.toList y.s.data.toList
def rcmp (R S : List V3) : Int := lex vcmp R S
theorem lex_bd {α : Type} (f : α → α → Int) (hf : ∀ a b, -1 ≤ f a b ∧ f a b ≤ 1) : ∀ l m, -1 ≤ lex f l m ∧ lex f l m ≤ 1
  | [], [] => by simp [lex]
  | [], _ :: _ => by simp [lex]
  | _ :: _, [] => by simp [lex]
  | a :: l, b :: m => by unfold lex; split; exact lex_bd f hf l m; exact hf a b
theorem lex_step {α : Type} (f : α → α → Int) (l m : List α) (k : Nat) (h1 : k < l.length) (h2 : k < m.length) : lex f (l.drop k) (m.drop k) = if f l[k] m[k] = 0 then lex f (l.drop (k + 1)) (m.drop (k + 1)) else f l[k] m[k] := by
  rw [List.drop_eq_getElem_cons h1, List.drop_eq_getElem_cons h2]; rfl
theorem lex_end {α : Type} (f : α → α → Int) (l m : List α) (k : Nat) (h1 : k ≤ l.length) (h2 : k ≤ m.length) (h : k = l.length ∨ k = m.length) : lex f (l.drop k) (m.drop k) = icmp l.length m.length := by
  rcases h with h | h
  · subst h
    rw [List.drop_length]
    rcases Nat.lt_or_ge l.length m.length with h3 | h3
    · rw [List.drop_eq_getElem_cons h3]; unfold icmp; rw [if_pos (by omega)]; rfl
    · rw [List.drop_of_length_le h3]; unfold icmp; rw [if_neg (by omega), if_neg (by omega)]; rfl
  · subst h
    rw [List.drop_length]
    rcases Nat.lt_or_ge m.length l.length with h3 | h3
    · rw [List.drop_eq_getElem_cons h3]; unfold icmp; rw [if_neg (by omega), if_pos (by omega)]; rfl
    · rw [List.drop_of_length_le h3]; unfold icmp; rw [if_neg (by omega), if_neg (by omega)]; rfl

theorem ints_any (a b : Int) (w : World) : Calls Tryd.prog 40 #[.int .i64 a, .int .i64 b] w fun e w' => e = .returned (.int .i64 (icmp a b)) ∧ w = w' := by
  rcases Int.lt_trichotomy a b with h | h | h
  · have H := Lib.hid (show -1 = icmp a b by unfold icmp; rw [if_pos h])
    go_enter Tryd.func40, Tryd.ntmps40
    go_wp2
    go_ret
    exact ⟨ret_int H.out, rfl⟩
  · have H := Lib.hid (show 0 = icmp a b by unfold icmp; rw [if_neg (by omega), if_neg (by omega)])
    subst h
    go_enter Tryd.func40, Tryd.ntmps40
    go_wp2
    go_ret
    exact ⟨ret_int H.out, rfl⟩
  · have h' : ¬ a < b := by omega
    have H := Lib.hid (show 1 = icmp a b by unfold icmp; rw [if_neg (by omega), if_pos h])
    go_enter Tryd.func40, Tryd.ntmps40
    go_wp2
    go_ret
    exact ⟨ret_int H.out, rfl⟩

set_option maxHeartbeats 1000000 in
theorem Texts_any (s t : ByteArray) (w : World) (hs : s.size ≤ 9223372036854775807) (_ : t.size ≤ 9223372036854775807) :
    Calls Tryd.prog 41 #[.string s, .string t] w fun e w' => e = .returned (.int .i64 (tcmp s.data.toList t.data.toList)) ∧ Below w.heap.size w w' := by
  have hl : s.data.toList.length = s.size := by simp
  have hm : t.data.toList.length = t.size := by simp
  have HL := Lib.hid hl
  have HM := Lib.hid hm
  clear hl hm
  go_enter Tryd.func41, Tryd.ntmps41
  go_wp2
  go_loopw [5] (fun i wr => ∃ k : Nat, k ≤ s.size ∧ k ≤ t.size ∧ i = .int .i64 k ∧ tcmp s.data.toList t.data.toList = lex ucmp (s.data.toList.drop k) (t.data.toList.drop k) ∧ Below w.heap.size w wr) (fun i _ => s.size - (intOf i).toNat)
  case atStart => exact ⟨0, Nat.zero_le _, Nat.zero_le _, rfl, rfl, Below.refl _ _⟩
  case round =>
    obtain ⟨k, hk, hk2, rfl, hc, hB⟩ := hrel
    by_cases h1 : k < s.size
    · by_cases h2 : k < t.size
      · have H := Lib.hid (hc.trans (lex_step ucmp _ _ k (by rw [HL.out]; exact h1) (by rw [HM.out]; exact h2)))
        have HB := Lib.hid hB
        clear hc hB
        have ex : s.data.toList[k]'(by rw [HL.out]; exact h1) = s[k] := by simp; rfl
        have ey : t.data.toList[k]'(by rw [HM.out]; exact h2) = t[k] := by simp; rfl
        rw [ex, ey] at H
        clear ex ey
        have hx : s[k].toNat < 256 := s[k].toNat_lt
        have hy : t[k].toNat < 256 := t[k].toNat_lt
        by_cases he : (s[k].toNat : Int) = t[k].toNat
        · have H := Lib.hid (H.out.trans (if_pos ((icmp_zero _ _).2 he)))
          have hd : ((s[k].toNat : Int) != t[k].toNat) = false := by simp [he]
          clear he
          go_wp2
          go_quiet (fail)
          go_wp2
          go_roundw
          case rel => exact ⟨k + 1, by omega, by omega, by go_num, H.out, below_drewN HB.out⟩
          case measure => simp [intOf]; omega
        · have H := Lib.hid (H.out.trans (if_neg (fun e => he ((icmp_zero _ _).1 e))))
          have hd : ((s[k].toNat : Int) != t[k].toNat) = true := by simpa using he
          clear he
          go_wp2
          go_quiet (fail)
          go_wp2
          go_quiet ((go_at_call 40; exact quiet_add_left (ints_any _ _ _)))
          go_wp2
          go_ret
          exact ⟨ret_int (by rw [H.out]; rfl), below_drewN (below_drewN HB.out)⟩
      · have H := Lib.hid (hc.trans (lex_end ucmp _ _ k (by rw [HL.out]; exact hk) (by rw [HM.out]; exact hk2) (.inr (by rw [HM.out]; omega))))
        have HB := Lib.hid hB
        clear hc hB
        go_wp2_with (go_at_call 40; refine (ints_any _ _ _).mono ?_; rintro e w' ⟨rfl, rfl⟩)
        go_ret
        exact ⟨ret_int (by rw [H.out, HL.out, HM.out]), HB.out⟩
    · have H := Lib.hid (hc.trans (lex_end ucmp _ _ k (by rw [HL.out]; exact hk) (by rw [HM.out]; exact hk2) (.inl (by rw [HL.out]; omega))))
      have HB := Lib.hid hB
      clear hc hB
      go_wp2_with (go_at_call 40; refine (ints_any _ _ _).mono ?_; rintro e w' ⟨rfl, rfl⟩)
      go_ret
      exact ⟨ret_int (by rw [H.out, HL.out, HM.out]), HB.out⟩

theorem Cmp_any (k n : Int) (s : ByteArray) (k' n' : Int) (t : ByteArray) (w : World) (hs : s.size ≤ 9223372036854775807) (ht : t.size ≤ 9223372036854775807) :
    Calls Tryd.prog 16 #[.agg #[.int .i64 k, .int .i64 n, .string s], .agg #[.int .i64 k', .int .i64 n', .string t]] w fun e w' => e = .returned (.int .i64 (vcmp ⟨k, n, s⟩ ⟨k', n', t⟩)) ∧ Below w.heap.size w w' := by
  by_cases h1 : k = k'
  · by_cases h2 : n = n'
    · have H := Lib.hid (show tcmp s.data.toList t.data.toList = vcmp ⟨k, n, s⟩ ⟨k', n', t⟩ by unfold vcmp; rw [if_neg (by simpa using h1), if_neg (by simpa using h2)])
      have HT := Lib.hid (fun w => Texts_any s t w hs ht)
      subst h1
      subst h2
      go_enter Tryd.func16, Tryd.ntmps16
      go_wp2_with (go_at_call 41; refine (HT.out _).mono ?_; rintro e w' ⟨rfl, hb⟩)
      go_ret
      exact ⟨ret_int H.out, (((Below.refl _ w).alloc (Nat.le_refl _) _).alloc (by simp) _).trans (hb.mono (by simp; omega))⟩
    · have H := Lib.hid (show icmp n n' = vcmp ⟨k, n, s⟩ ⟨k', n', t⟩ by unfold vcmp; rw [if_neg (by simpa using h1), if_pos (by simpa using h2)])
      have h2 : (n != n') = true := by simpa using h2
      have h3 : decide (n = n') = false := by simpa using h2
      subst h1
      go_enter Tryd.func16, Tryd.ntmps16
      go_wp2_with (go_at_call 40; refine (ints_any _ _ _).mono ?_; rintro e w' ⟨rfl, rfl⟩)
      go_ret
      exact ⟨ret_int H.out, ((Below.refl _ w).alloc (Nat.le_refl _) _).alloc (by simp) _⟩
  · have H := Lib.hid (show icmp k k' = vcmp ⟨k, n, s⟩ ⟨k', n', t⟩ by unfold vcmp; rw [if_pos (by simpa using h1)])
    have h2 : (k != k') = true := by simpa using h1
    have h3 : decide (k = k') = false := by simpa using h1
    clear h1
    go_enter Tryd.func16, Tryd.ntmps16
    go_wp2_with (go_at_call 40; refine (ints_any _ _ _).mono ?_; rintro e w' ⟨rfl, rfl⟩)
    go_ret
    exact ⟨ret_int H.out, ((Below.refl _ w).alloc (Nat.le_refl _) _).alloc (by simp) _⟩

set_option maxRecDepth 100000 in
set_option maxHeartbeats 2000000 in
theorem Rows_any (A : Option Addr) (n c : Nat) (R : List V3) (D : Option Addr) (m d : Nat) (S : List V3) (w : World) (hr : RowAt w A n R) (hn : n ≤ 9223372036854775807) (hR : ∀ x ∈ R, x.ok) (hs : RowAt w D m S) (hm : m ≤ 9223372036854775807) (hS : ∀ x ∈ S, x.ok) :
    Calls Tryd.prog 19 #[.slice A n c, .slice D m d] w fun e w' => e = .returned (.int .i64 (rcmp R S)) ∧ Below w.heap.size w w' := by
  have HL := Lib.hid hr.1
  have HM := Lib.hid hs.1
  rcases (show n = 0 ∨ m = 0 ∨ (0 < n ∧ 0 < m) by omega) with h0 | h0 | ⟨h0, h0'⟩
  · subst h0
    have H := Lib.hid (lex_end vcmp R S 0 (by omega) (by omega) (.inl hr.1.symm))
    clear hr hs
    go_enter Tryd.func19, Tryd.ntmps19
    go_wp2
    refine wp_loop_rounds 1 ?_
    rw [rounds_succ]
    go_wp2_with (go_at_call 40; refine (ints_any _ _ _).mono ?_; rintro e w' ⟨rfl, rfl⟩)
    go_ret
    exact ⟨ret_int (by have := H.out; rw [HL.out, HM.out] at this; exact this.symm), Below.refl _ _⟩
  · subst h0
    have H := Lib.hid (lex_end vcmp R S 0 (by omega) (by omega) (.inr hs.1.symm))
    clear hr hs
    go_enter Tryd.func19, Tryd.ntmps19
    go_wp2
    refine wp_loop_rounds 1 ?_
    rw [rounds_succ]
    go_wp2_with (go_at_call 40; refine (ints_any _ _ _).mono ?_; rintro e w' ⟨rfl, rfl⟩)
    all_goals
      go_ret
      exact ⟨ret_int (by have := H.out; rw [HL.out, HM.out] at this; exact this.symm), Below.refl _ _⟩
  · obtain ⟨b, off, rfl, hb, hc⟩ := hr.2 h0
    obtain ⟨g, of2, rfl, hg, hc2⟩ := hs.2 h0'
    clear hr hs
    go_enter Tryd.func19, Tryd.ntmps19
    go_wp2
    go_loopw [5] (fun i wr => ∃ k : Nat, k ≤ n ∧ k ≤ m ∧ i = .int .i64 k ∧ rcmp R S = lex vcmp (R.drop k) (S.drop k) ∧ Below w.heap.size w wr) (fun i _ => n - (intOf i).toNat)
    case atStart => exact ⟨0, Nat.zero_le _, Nat.zero_le _, rfl, rfl, Below.refl _ _⟩
    case round =>
      obtain ⟨k, hk, hk2, rfl, hcm, hB⟩ := hrel
      by_cases h1 : k < n
      · by_cases h2 : k < m
        · have hkR : k < R.length := by rw [HL.out]; exact h1
          have hkS : k < S.length := by rw [HM.out]; exact h2
          have H := Lib.hid (hcm.trans (lex_step vcmp _ _ k hkR hkS))
          obtain ⟨c0, c1, c2⟩ := hc k hkR
          obtain ⟨d0, d1, d2⟩ := hc2 k hkS
          have c0 := fun d os => cell_regrown ((hB.cell (p := ⟨b, off + k * 3, none⟩) hb).trans c0) d os
          have c1 := fun d os => cell_regrown ((hB.cell (p := ⟨b, off + k * 3 + 1, none⟩) hb).trans c1) d os
          have c2 := fun d os => cell_regrown ((hB.cell (p := ⟨b, off + k * 3 + 2, none⟩) hb).trans c2) d os
          have d0 := fun d os => cell_regrown ((hB.cell (p := ⟨g, of2 + k * 3, none⟩) hg).trans d0) d os
          have d1 := fun d os => cell_regrown ((hB.cell (p := ⟨g, of2 + k * 3 + 1, none⟩) hg).trans d1) d os
          have d2 := fun d os => cell_regrown ((hB.cell (p := ⟨g, of2 + k * 3 + 2, none⟩) hg).trans d2) d os
          have hx := (hR R[k] (List.getElem_mem _)).2.2.2.2
          have hy := (hS S[k] (List.getElem_mem _)).2.2.2.2
          have HB := Lib.hid hB
          clear hcm hB
          generalize R[k] = x at *
          generalize S[k] = y at *
          rcases x with ⟨xk, xn, xs⟩
          rcases y with ⟨yk, yn, ys⟩
          simp only at c0 c1 c2 d0 d1 d2 hx hy
          have HC := Lib.hid (fun w => Cmp_any xk xn xs yk yn ys w (by omega) (by omega))
          generalize vcmp ⟨xk, xn, xs⟩ ⟨yk, yn, ys⟩ = z at *
          by_cases hz : z = 0
          · have H := Lib.hid (H.out.trans (if_pos hz))
            subst hz
            go_wp2
            refine wp_region_quiet_below (by kernel_rfl) (by kernel_rfl) ?_
            repeat (go_big_quiet_step ((go_at_call 16; exact Calls.regrown_of (HC.out _))))
            refine wpQuiet_nil ?_
            intro _ hw'
            obtain ⟨⟨dq, osq⟩, hw''⟩ := hw'
            subst hw''
            go_wp2
            go_roundw
            case rel => exact ⟨k + 1, by omega, by omega, by go_num, H.out, HB.out.trans ((below_regrown _ _ _).mono HB.out.size)⟩
            case measure => simp [intOf]; omega
          · have H := Lib.hid (H.out.trans (if_neg hz))
            have hz2 : (z != 0) = true := by simpa using hz
            go_wp2
            refine wp_region_quiet_below (by kernel_rfl) (by kernel_rfl) ?_
            repeat (go_big_quiet_step ((go_at_call 16; exact Calls.regrown_of (HC.out _))))
            refine wpQuiet_nil ?_
            intro _ hw'
            obtain ⟨⟨dq, osq⟩, hw''⟩ := hw'
            subst hw''
            go_wp2
            go_ret
            exact ⟨ret_int H.out.symm, HB.out.trans ((below_regrown _ _ _).mono HB.out.size)⟩
        · have H := Lib.hid (hcm.trans (lex_end vcmp _ _ k (by rw [HL.out]; exact hk) (by rw [HM.out]; exact hk2) (.inr (by rw [HM.out]; omega))))
          have HB := Lib.hid hB
          clear hcm hB
          go_wp2_with (go_at_call 40; refine (ints_any _ _ _).mono ?_; rintro e w' ⟨rfl, rfl⟩)
          go_ret
          exact ⟨ret_int (by rw [H.out, HL.out, HM.out]), HB.out⟩
      · have H := Lib.hid (hcm.trans (lex_end vcmp _ _ k (by rw [HL.out]; exact hk) (by rw [HM.out]; exact hk2) (.inl (by rw [HL.out]; omega))))
        have HB := Lib.hid hB
        clear hcm hB
        go_wp2_with (go_at_call 40; refine (ints_any _ _ _).mono ?_; rintro e w' ⟨rfl, rfl⟩)
        go_ret
        exact ⟨ret_int (by rw [H.out, HL.out, HM.out]), HB.out⟩
end Go.Proofs.YtkigdglipoeaaaaDoor
