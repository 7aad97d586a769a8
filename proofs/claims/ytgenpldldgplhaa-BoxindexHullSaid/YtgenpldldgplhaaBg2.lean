/- Whether a box is good: what it then is. -/
import Derived.Test.YtgenpldldgplhaaBgd
import Derived.Test.YtgenpldldgplhaaBky
import Derived.Deep.Cut
import Derived.Deep.CutRange
namespace Go.Proofs.Ytgenpldldgplhaa
open Go.ChangeShapes Go.WideShapes Go.ChangeAt Go.RowKit Go.ChangeMaps

def SdOk (s : Sd) : Prop := (s.nu = true ∨ s.ot = true) ∧ s.lo ≤ s.hi ∧ tle s.fr s.to = true
theorem tle_of {a b : ByteArray} (h : (!Op.bytesLess a.toList b.toList) = false ∨ (!a.toList == b.toList) = false) : tle a b = true := by
  unfold tle
  rcases h with h | h <;> simp_all
def GdQ (n : Nat) (t : Int) (R : List Sd) (w : World) (e : Ending) (w' : World) : Prop := ∃ q : Bool, e = .returned (.bool q) ∧ (q = true → n ≤ 4 ∧ 0 ≤ t ∧ t ≤ 3 ∧ ∀ s ∈ R, SdOk s) ∧ Below w.heap.size w w'
theorem gdQ {n : Nat} {t : Int} {R : List Sd} {w w' : World} (h : Below w.heap.size w w') : GdQ n t R w (.returned (.bool false)) w' := ⟨false, rfl, fun h => (by cases h), h⟩
set_option maxRecDepth 100000 in
set_option maxHeartbeats 4000000 in
theorem Good_all (t : Int) (A : Option Addr) (n c : Nat) (R : List Sd) (w : World) (h : Sds w A n R) (hn : n ≤ 9223372036854775807) : Calls Try.prog 24 #[.agg #[.int .i64 t, .slice A n c]] w (GdQ n t R w) := by
  have HL := Lib.hid h.len
  have HA := Lib.hid h.at
  clear h
  by_cases h4 : n ≤ 4
  · have h41 : ¬ (n : Int) > 4 := by omega
    by_cases ht0 : t < 0
    · go_enter Try.func24, Try.ntmps24
      go_wp2
      go_ret
      exact gdQ ((Below.refl _ w).alloc (Nat.le_refl _) _)
    · by_cases ht3 : t > 3
      · go_enter Try.func24, Try.ntmps24
        go_wp2
        go_ret
        exact gdQ ((Below.refl _ w).alloc (Nat.le_refl _) _)
      · have HT := Lib.hid (show n ≤ 4 ∧ 0 ≤ t ∧ t ≤ 3 from ⟨h4, by omega, by omega⟩)
        go_enter Try.func24, Try.ntmps24
        go_wp2
        go_loopw [23] (fun s wr => ∃ (k : Nat), s = .int .i64 (k : Int) ∧ k ≤ n ∧ (∀ s ∈ R.take k, SdOk s) ∧ Below w.heap.size w wr) (fun s _ => n - (intOf s).toNat)
        case atStart => exact ⟨0, rfl, Nat.zero_le _, (fun s hs => (by cases hs)), (Below.refl _ w).alloc (Nat.le_refl _) _⟩
        case round =>
          obtain ⟨k, rfl, hkn, hal, hB⟩ := hrel
          have HB := Lib.hid hB
          have hsz := hB.size
          have HAL := Lib.hid hal
          clear hB hal
          by_cases hlt : k < n
          · have hki : (k : Int) < n := by omega
            have hk0 : (0 : Int) ≤ (k : Int) := by omega
            obtain ⟨b, off, rfl, hbl, hc⟩ := HA.out (by omega)
            have hi' : k < R.length := by rw [HL.out]; exact hlt
            obtain ⟨c0, c1, c2, c3, c4, c5⟩ := hc wr HB.out k hi'
            clear hc hbl
            have HST := Lib.hid (show SdOk R[k] → ∀ s ∈ R.take (k + 1), SdOk s from fun h s hs => by
              rw [List.take_succ_eq_append_getElem hi'] at hs
              rcases List.mem_append.1 hs with hs | hs
              · exact HAL.out s hs
              · rw [List.mem_singleton.1 hs]; exact h)
            generalize R[k] = y at *
            obtain ⟨nu, ot, lo, hi, sf, st⟩ := y
            simp only at c0 c1 c2 c3 c4 c5
            obtain ⟨W2, hW2⟩ : ∃ W2, W2 = wr.alloc (.cells #[.bool nu, .bool ot, .int .i64 lo, .int .i64 hi, .string sf, .string st] 67) := ⟨_, rfl⟩
            have HB2 := Lib.hid (show Below w.heap.size w W2 by rw [hW2]; exact HB.out.alloc HB.out.size _)
            have hbk : Blk W2 wr.heap.size 67 #[.bool nu, .bool ot, .int .i64 lo, .int .i64 hi, .string sf, .string st] := by rw [hW2]; exact Blk.new_ rfl rfl
            have d0 : W2.cell? ⟨wr.heap.size, 0, none⟩ = some (.bool nu) := hbk.cell 0
            have d1 : W2.cell? ⟨wr.heap.size, 1, none⟩ = some (.bool ot) := hbk.cell 1
            have d2 : W2.cell? ⟨wr.heap.size, 2, none⟩ = some (.int .i64 lo) := hbk.cell 2
            have d3 : W2.cell? ⟨wr.heap.size, 3, none⟩ = some (.int .i64 hi) := hbk.cell 3
            have d4 : W2.cell? ⟨wr.heap.size, 4, none⟩ = some (.string sf) := hbk.cell 4
            have d5 : W2.cell? ⟨wr.heap.size, 5, none⟩ = some (.string st) := hbk.cell 5
            go_upto_region 6 with fail
            rw [← hW2]
            clear hW2 hbk c0 c1 c2 c3 c4 c5
            go_cut [5] from 27 to 34 (fun s5 wx => IsB s5 ∧ wx = W2)
            case first =>
              go_wp2
              all_goals (go_meet; exact ⟨isB _, rfl⟩)
            case rest =>
              obtain ⟨⟨q, rfl⟩, rfl⟩ := hcut
              cases q
              all_goals go_wp2
              all_goals first
                | (go_ret; exact gdQ HB2.out)
                | (go_roundw; (case rel => exact ⟨k + 1, by go_num, hlt, HST.out (by (rename_i hlast; exact ⟨(show nu = true ∨ ot = true from by first | (left; assumption) | (right; assumption) | (left; simp_all; done) | (right; simp_all; done)), (show lo ≤ hi from by have := hlast.1; omega), tle_of hlast.2⟩)), HB2.out⟩); (case measure => simp [intOf]; omega))
          · obtain rfl : k = n := by omega
            have hlt2 : ¬ ((k : Int) < (k : Int)) := by omega
            go_wp2
            go_ret
            have HFU := HAL.out
            rw [List.take_of_length_le (by rw [HL.out]; exact Nat.le_refl _)] at HFU
            exact ⟨true, rfl, fun _ => ⟨HT.out.1, HT.out.2.1, HT.out.2.2, HFU⟩, HB.out⟩
  · have h41 : (n : Int) > 4 := by omega
    go_enter Try.func24, Try.ntmps24
    go_wp2
    go_ret
    exact gdQ ((Below.refl _ w).alloc (Nat.le_refl _) _)
end Go.Proofs.Ytgenpldldgplhaa
