/- Whether a box is good. -/
import Derived.Test.YtgenpldldgplhaaBsa
import Derived.Deep.Cut
import Derived.Deep.CutRange
namespace Go.Proofs.Ytgenpldldgplhaa
open Go.ChangeShapes Go.WideShapes Go.ChangeAt Go.RowKit Go.ChangeMaps

def IsB (v : Value) : Prop := ∃ q : Bool, v = .bool q
theorem isB (q : Bool) : IsB (.bool q) := ⟨q, rfl⟩
def GdP (n : Nat) (t : Int) (w : World) (e : Ending) (w' : World) : Prop := ∃ q : Bool, e = .returned (.bool q) ∧ (q = true → n ≤ 4 ∧ 0 ≤ t ∧ t ≤ 3) ∧ Below w.heap.size w w'
theorem gdF {n : Nat} {t : Int} {w w' : World} (h : Below w.heap.size w w') : GdP n t w (.returned (.bool false)) w' := ⟨false, rfl, fun h => (by cases h), h⟩
set_option maxRecDepth 100000 in
set_option maxHeartbeats 4000000 in
theorem Good_any (t : Int) (A : Option Addr) (n c : Nat) (R : List Sd) (w : World) (h : Sds w A n R) (hn : n ≤ 9223372036854775807) : Calls Try.prog 24 #[.agg #[.int .i64 t, .slice A n c]] w (GdP n t w) := by
  have HL := Lib.hid h.len
  have HA := Lib.hid h.at
  clear h
  by_cases h4 : n ≤ 4
  · have h41 : ¬ (n : Int) > 4 := by omega
    by_cases ht0 : t < 0
    · go_enter Try.func24, Try.ntmps24
      go_wp2
      go_ret
      exact gdF ((Below.refl _ w).alloc (Nat.le_refl _) _)
    · by_cases ht3 : t > 3
      · go_enter Try.func24, Try.ntmps24
        go_wp2
        go_ret
        exact gdF ((Below.refl _ w).alloc (Nat.le_refl _) _)
      · have HT := Lib.hid (show n ≤ 4 ∧ 0 ≤ t ∧ t ≤ 3 from ⟨h4, by omega, by omega⟩)
        go_enter Try.func24, Try.ntmps24
        go_wp2
        go_loopw [23] (fun s wr => ∃ (k : Nat), s = .int .i64 (k : Int) ∧ k ≤ n ∧ Below w.heap.size w wr) (fun s _ => n - (intOf s).toNat)
        case atStart => exact ⟨0, rfl, Nat.zero_le _, (Below.refl _ w).alloc (Nat.le_refl _) _⟩
        case round =>
          obtain ⟨k, rfl, hkn, hB⟩ := hrel
          have HB := Lib.hid hB
          have hsz := hB.size
          clear hB
          by_cases hlt : k < n
          · have hki : (k : Int) < n := by omega
            have hk0 : (0 : Int) ≤ (k : Int) := by omega
            obtain ⟨b, off, rfl, hbl, hc⟩ := HA.out (by omega)
            have hi' : k < R.length := by rw [HL.out]; exact hlt
            obtain ⟨c0, c1, c2, c3, c4, c5⟩ := hc wr HB.out k hi'
            clear hc hbl
            generalize R[k] = y at *
            obtain ⟨nu, ot, lo, hi, sf, st⟩ := y
            simp only at c0 c1 c2 c3 c4 c5
            obtain ⟨W2, hW2⟩ : ∃ W2, W2 = wr.alloc (.cells #[.bool nu, .bool ot, .int .i64 lo, .int .i64 hi, .string sf, .string st] 67) := ⟨_, rfl⟩
            have HB2 := Lib.hid (show Below w.heap.size w W2 by rw [hW2]; exact HB.out.alloc HB.out.size _)
            have hbk : Blk W2 wr.heap.size 67 #[.bool nu, .bool ot, .int .i64 lo, .int .i64 hi, .string sf, .string st] := by rw [hW2]; exact Blk.new_ rfl rfl
            have d0 : W2.cell? ⟨wr.heap.size, 0, none⟩ = some (.bool nu) := hbk.cell 0
            have d1 : W2.cell? ⟨wr.heap.size, 1, none⟩ = some (.bool ot) := hbk.cell 1
            have d2 : W2.cell? ⟨wr.heap.size, 2, none⟩ = some (.int .i64 lo) := hbk.cell 2
            have d3 : W2.cell? ⟨wr.heap.size, 3, none⟩ = some (.int .i64 hi) := hbk.cell 3
            have d4 : W2.cell? ⟨wr.heap.size, 4, none⟩ = some (.string sf) := hbk.cell 4
            have d5 : W2.cell? ⟨wr.heap.size, 5, none⟩ = some (.string st) := hbk.cell 5
            go_upto_region 6 with fail
            rw [← hW2]
            clear hW2 hbk c0 c1 c2 c3 c4 c5
            go_cut [5] from 27 to 34 (fun s5 wx => IsB s5 ∧ wx = W2)
            case first =>
              go_wp2
              all_goals (go_meet; exact ⟨isB _, rfl⟩)
            case rest =>
              obtain ⟨⟨q, rfl⟩, rfl⟩ := hcut
              cases q
              all_goals go_wp2
              all_goals first
                | (go_ret; exact gdF HB2.out)
                | (go_roundw; (case rel => exact ⟨k + 1, by go_num, hlt, HB2.out⟩); (case measure => simp [intOf]; omega))
          · obtain rfl : k = n := by omega
            have hlt2 : ¬ ((k : Int) < (k : Int)) := by omega
            go_wp2
            go_ret
            exact ⟨true, rfl, fun _ => HT.out, HB.out⟩
  · have h41 : (n : Int) > 4 := by omega
    go_enter Try.func24, Try.ntmps24
    go_wp2
    go_ret
    exact gdF ((Below.refl _ w).alloc (Nat.le_refl _) _)
end Go.Proofs.Ytgenpldldgplhaa
