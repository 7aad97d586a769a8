/- Long rows. -/
import Derived.Test.YtkigdglipoeaaaaDoorAwk
namespace Go.Proofs.YtkigdglipoeaaaaDoor
open Go.ChangeShapes Go.WideShapes Go.ChangeAt Go.RowKit Go.ChangeMaps

def lrow (R : List V3) : Bool := R.any (fun x => decide (100 < x.s.size)) || decide (40 < R.length)
theorem lng_step (R : List V3) (k : Nat) (h : k < R.length) : (R.drop k).any (fun x => decide (100 < x.s.size)) = (decide (100 < R[k].s.size) || (R.drop (k + 1)).any (fun x => decide (100 < x.s.size))) := by
  rw [List.drop_eq_getElem_cons h]; rfl
set_option maxRecDepth 100000 in
theorem longRow_any (A : Option Addr) (n c : Nat) (R : List V3) (w : World) (hr : RowAt w A n R) (hn : n ≤ 9223372036854775807) :
    Calls Tryd.prog 17 #[.slice A n c] w fun e w' => e = .returned (.bool (lrow R)) ∧ Below w.heap.size w w' := by
  have HL := Lib.hid hr.1
  have HF : Hid (R.any (fun x => decide (100 < x.s.size)) = false → lrow R = decide (40 < n)) := Lib.hid fun h => by unfold lrow; rw [h, Bool.false_or, HL.out]
  have HT : Hid (R.any (fun x => decide (100 < x.s.size)) = true → lrow R = true) := Lib.hid fun h => by unfold lrow; rw [h]; rfl
  have H40 : (decide ((n : Int) > 40)) = decide (40 < n) := by
    rcases Nat.lt_or_ge 40 n with h | h
    · rw [decide_eq_true h, decide_eq_true (by omega)]
    · rw [decide_eq_false (by omega), decide_eq_false (by omega)]
  generalize lrow R = r at *
  rcases Nat.eq_zero_or_pos n with h0 | h0
  · subst h0
    obtain rfl : R = [] := List.eq_nil_of_length_eq_zero hr.1
    have q := HF.out rfl
    subst q
    clear HF HT hr HL H40
    go_enter Tryd.func17, Tryd.ntmps17
    go_wp2
    refine wp_loop_rounds 1 ?_
    rw [rounds_succ]
    go_wp2
    go_ret
    exact ⟨rfl, Below.refl _ _⟩
  · obtain ⟨b, off, rfl, hb, hc⟩ := hr.2 h0
    clear hr
    go_enter Tryd.func17, Tryd.ntmps17
    go_wp2
    go_loopw [7] (fun i wr => ∃ k : Nat, k ≤ n ∧ i = .int .i64 k ∧ R.any (fun x => decide (100 < x.s.size)) = (R.drop k).any (fun x => decide (100 < x.s.size)) ∧ Below w.heap.size w wr) (fun i _ => n - (intOf i).toNat)
    case atStart => exact ⟨0, Nat.zero_le _, rfl, rfl, Below.refl _ _⟩
    case round =>
      obtain ⟨k, hk, rfl, hv, hB⟩ := hrel
      by_cases hlt : k < n
      · have hkR : k < R.length := by rw [HL.out]; exact hlt
        obtain ⟨c0, c1, c2⟩ := hc k hkR
        have c0 := (hB.cell (p := ⟨b, off + k * 3, none⟩) hb).trans c0
        have c1 := (hB.cell (p := ⟨b, off + k * 3 + 1, none⟩) hb).trans c1
        have c2 := (hB.cell (p := ⟨b, off + k * 3 + 2, none⟩) hb).trans c2
        have H1 := Lib.hid (hv.trans (lng_step R k hkR))
        have HB := Lib.hid hB
        clear hv hB
        generalize R[k] = x at *
        rcases x with ⟨xk, xn, xs⟩
        simp only at c0 c1 c2
        have C := fun w => long_any xk xn xs w
        cases hl : decide (100 < xs.size)
        · rw [hl] at C
          have C := Lib.hid C
          have H1 := Lib.hid (H1.out.trans (by show (decide (100 < xs.size) || _) = _; rw [hl, Bool.false_or]))
          have hB1 := Lib.hid (HB.out.alloc HB.out.size (.cells #[.int .i64 xk, .int .i64 xn, .string xs] 23))
          clear hl
          go_wp2_with (go_at_call 12; refine (C.out _).mono ?_; rintro e w2 ⟨rfl, hb2⟩)
          have hs2 := hB1.out.size
          go_roundw
          case rel => exact ⟨k + 1, by omega, by go_num, H1.out, hB1.out.trans (hb2.mono hs2)⟩
          case measure => simp [intOf]; omega
        · rw [hl] at C
          have C := Lib.hid C
          have q := HT.out (H1.out.trans (by show (decide (100 < xs.size) || _) = _; rw [hl, Bool.true_or]))
          have hB1 := Lib.hid (HB.out.alloc HB.out.size (.cells #[.int .i64 xk, .int .i64 xn, .string xs] 23))
          clear hl
          subst q
          go_wp2_with (go_at_call 12; refine (C.out _).mono ?_; rintro e w2 ⟨rfl, hb2⟩)
          have hs2 := hB1.out.size
          go_ret
          exact ⟨rfl, hB1.out.trans (hb2.mono hs2)⟩
      · obtain rfl : k = n := by omega
        have HB := Lib.hid hB
        have q := HF.out (by rw [hv, List.drop_of_length_le (by rw [HL.out]; exact Nat.le_refl _)]; rfl)
        rw [← H40] at q
        subst q
        clear hv hB H40 HF HT
        rcases h4 : decide ((k : Int) > 40) with _ | _
        all_goals
          go_wp2
          go_ret
          exact ⟨by rw [h4]; rfl, HB.out⟩
end Go.Proofs.YtkigdglipoeaaaaDoor
