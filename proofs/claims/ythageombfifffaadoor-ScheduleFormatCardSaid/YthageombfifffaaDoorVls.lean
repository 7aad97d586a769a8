/- Valid lists of actions. -/
import Derived.Test.YthageombfifffaaDoorVld
namespace Go.Proofs.YthageombfifffaaDoor
open Go.ChangeShapes Go.WideShapes Go.ChangeAt Go.RowKit Go.ChangeMaps

theorem all_step (R : List Act) (S : Int) (k : Nat) (h : k < R.length) : ((R.drop k).all fun a => vA a S) = (vA R[k] S && ((R.drop (k + 1)).all fun a => vA a S)) := by
  rw [List.drop_eq_getElem_cons h]; rfl
set_option maxRecDepth 100000 in
theorem Valid_any (A : Option Addr) (n c : Nat) (R : List Act) (S : Int) (w : World) (hr : Acts w A n R) (hn : n ≤ 9223372036854775807) :
    Calls Tryd.prog 15 #[.slice A n c, .int .i64 S] w fun e w' => e = .returned (.bool (R.all fun a => vA a S)) ∧ Below w.heap.size w w' := by
  have HL := Lib.hid hr.1
  rcases Nat.eq_zero_or_pos n with h0 | h0
  · subst h0
    obtain rfl : R = [] := List.eq_nil_of_length_eq_zero hr.1
    clear hr HL
    go_enter Tryd.func15, Tryd.ntmps15
    go_wp2
    refine wp_loop_rounds 1 ?_
    rw [rounds_succ]
    go_wp2
    go_ret
    exact ⟨rfl, Below.refl _ _⟩
  · obtain ⟨b, off, rfl, hb, hc⟩ := hr.2 h0
    clear hr
    go_enter Tryd.func15, Tryd.ntmps15
    go_wp2
    go_loopw [9] (fun i wr => ∃ k : Nat, k ≤ n ∧ i = .int .i64 k ∧ (R.all fun a => vA a S) = ((R.drop k).all fun a => vA a S) ∧ Below w.heap.size w wr) (fun i _ => n - (intOf i).toNat)
    case atStart => exact ⟨0, Nat.zero_le _, rfl, rfl, Below.refl _ _⟩
    case round =>
      obtain ⟨k, hk, rfl, hv, hB⟩ := hrel
      by_cases hlt : k < n
      · have hkR : k < R.length := by rw [HL.out]; exact hlt
        obtain ⟨c0, c1, c2, c3⟩ := hc k hkR
        have c0 := (hB.cell (p := ⟨b, off + k * 4, none⟩) hb).trans c0
        have c1 := (hB.cell (p := ⟨b, off + k * 4 + 1, none⟩) hb).trans c1
        have c2 := (hB.cell (p := ⟨b, off + k * 4 + 2, none⟩) hb).trans c2
        have c3 := (hB.cell (p := ⟨b, off + k * 4 + 3, none⟩) hb).trans c3
        have H1 := Lib.hid (hv.trans (all_step R S k hkR))
        have HB := Lib.hid hB
        clear hv hB
        generalize R[k] = x at *
        rcases x with ⟨xk, xs, xw, xb⟩
        simp only at c0 c1 c2 c3
        have C := fun w => valid_any xk xs xw xb S w
        have HB1 := Lib.hid (HB.out.alloc HB.out.size (.cells #[.int .i64 xk, .int .i64 xs, .int .i64 xw, .int .i64 xb] 29))
        cases hl : vA ⟨xk, xs, xw, xb⟩ S
        · rw [hl] at C
          have C := Lib.hid C
          have H1 := Lib.hid (H1.out.trans (by rw [hl, Bool.false_and]))
          clear hl
          go_wp2_with (go_at_call 25; refine (C.out _).mono ?_; rintro e w2 ⟨rfl, hb2⟩)
          go_ret
          exact ⟨ret_bool H1.out.symm, HB1.out.trans (hb2.mono HB1.out.size)⟩
        · rw [hl] at C
          have C := Lib.hid C
          have H1 := Lib.hid (H1.out.trans (by rw [hl, Bool.true_and]))
          clear hl
          go_wp2_with (go_at_call 25; refine (C.out _).mono ?_; rintro e w2 ⟨rfl, hb2⟩)
          have HB2 := Lib.hid (HB1.out.trans (hb2.mono HB1.out.size))
          go_roundw
          case rel => exact ⟨k + 1, by omega, by go_num, H1.out, HB2.out⟩
          case measure => simp [intOf]; omega
      · obtain rfl : k = n := by omega
        have HB := Lib.hid hB
        have q : (R.all fun a => vA a S) = true := by rw [hv, List.drop_of_length_le (by rw [HL.out]; exact Nat.le_refl _)]; rfl
        have Q := Lib.hid q
        clear hv hB q
        go_wp2
        go_ret
        exact ⟨ret_bool Q.out.symm, HB.out⟩
set_option maxRecDepth 100000 in
theorem rValid_any (A : Option Addr) (n c : Nat) (R : List Act) (S : Int) (w : World) (hr : Acts w A n R) (hn : n ≤ 9223372036854775807) :
    Calls Tryd.prog 18 #[.slice A n c, .int .i64 S] w fun e w' => e = .returned (.bool (R.all fun a => vA a S)) ∧ Below w.heap.size w w' := by
  have HL := Lib.hid hr.1
  rcases Nat.eq_zero_or_pos n with h0 | h0
  · subst h0
    obtain rfl : R = [] := List.eq_nil_of_length_eq_zero hr.1
    clear hr HL
    go_enter Tryd.func18, Tryd.ntmps18
    go_wp2
    refine wp_loop_rounds 1 ?_
    rw [rounds_succ]
    go_wp2
    go_ret
    exact ⟨rfl, Below.refl _ _⟩
  · obtain ⟨b, off, rfl, hb, hc⟩ := hr.2 h0
    clear hr
    go_enter Tryd.func18, Tryd.ntmps18
    go_wp2
    go_loopw [5] (fun i wr => ∃ k : Nat, k ≤ n ∧ i = .int .i64 k ∧ (R.all fun a => vA a S) = ((R.drop k).all fun a => vA a S) ∧ Below w.heap.size w wr) (fun i _ => n - (intOf i).toNat)
    case atStart => exact ⟨0, Nat.zero_le _, rfl, rfl, Below.refl _ _⟩
    case round =>
      obtain ⟨k, hk, rfl, hv, hB⟩ := hrel
      by_cases hlt : k < n
      · have hkR : k < R.length := by rw [HL.out]; exact hlt
        obtain ⟨c0, c1, c2, c3⟩ := hc k hkR
        have c0 := (hB.cell (p := ⟨b, off + k * 4, none⟩) hb).trans c0
        have c1 := (hB.cell (p := ⟨b, off + k * 4 + 1, none⟩) hb).trans c1
        have c2 := (hB.cell (p := ⟨b, off + k * 4 + 2, none⟩) hb).trans c2
        have c3 := (hB.cell (p := ⟨b, off + k * 4 + 3, none⟩) hb).trans c3
        have H1 := Lib.hid (hv.trans (all_step R S k hkR))
        have HB := Lib.hid hB
        clear hv hB
        generalize R[k] = x at *
        rcases x with ⟨xk, xs, xw, xb⟩
        simp only at c0 c1 c2 c3
        have C := fun w => Right_any xk xs xw xb S w
        have HB1 := Lib.hid (HB.out)
        cases hl : vA ⟨xk, xs, xw, xb⟩ S
        · rw [hl] at C
          have C := Lib.hid C
          have H1 := Lib.hid (H1.out.trans (by rw [hl, Bool.false_and]))
          clear hl
          go_wp2_with (go_at_call 28; refine (C.out _).mono ?_; rintro e w2 ⟨rfl, hb2⟩)
          go_ret
          exact ⟨ret_bool H1.out.symm, HB1.out.trans (hb2.mono HB1.out.size)⟩
        · rw [hl] at C
          have C := Lib.hid C
          have H1 := Lib.hid (H1.out.trans (by rw [hl, Bool.true_and]))
          clear hl
          go_wp2_with (go_at_call 28; refine (C.out _).mono ?_; rintro e w2 ⟨rfl, hb2⟩)
          have HB2 := Lib.hid (HB1.out.trans (hb2.mono HB1.out.size))
          go_roundw
          case rel => exact ⟨k + 1, by omega, by go_num, H1.out, HB2.out⟩
          case measure => simp [intOf]; omega
      · obtain rfl : k = n := by omega
        have HB := Lib.hid hB
        have q : (R.all fun a => vA a S) = true := by rw [hv, List.drop_of_length_le (by rw [HL.out]; exact Nat.le_refl _)]; rfl
        have Q := Lib.hid q
        clear hv hB q
        go_wp2
        go_ret
        exact ⟨ret_bool Q.out.symm, HB.out⟩
end Go.Proofs.YthageombfifffaaDoor
