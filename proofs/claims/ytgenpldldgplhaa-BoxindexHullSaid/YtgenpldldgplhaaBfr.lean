/- Whether operations are fair. -/
import Derived.Test.YtgenpldldgplhaaBgd
import Derived.Test.YtgenpldldgplhaaBot
namespace Go.Proofs.Ytgenpldldgplhaa
open Go.ChangeShapes Go.WideShapes Go.ChangeAt Go.RowKit Go.ChangeMaps

def FrP (L : List Ot) (m : Nat) (most : Int) (w : World) (e : Ending) (w' : World) : Prop := ∃ q : Bool, e = .returned (.bool q) ∧ (q = true → (m : Int) ≤ most ∧ ∀ o ∈ L, o.n ≤ 4) ∧ Below w.heap.size w w'
theorem frF {L : List Ot} {m : Nat} {most : Int} {w w' : World} (h : Below w.heap.size w w') : FrP L m most w (.returned (.bool false)) w' := ⟨false, rfl, fun h => (by cases h), h⟩
def Four (cs : Array Value) : Prop := cs.size = 4 ∧ ∀ i, i < 4 → ∃ v, cs[i]? = some (.int .i64 v)
theorem Four.set {cs : Array Value} (h : Four cs) (j : Nat) (v : Int) : Four (cs.setIfInBounds j (.int .i64 v)) := by
  refine ⟨by simp [h.1], fun i hi => ?_⟩
  by_cases e : j = i
  · subst e
    exact ⟨v, by rw [Array.getElem?_setIfInBounds_self_of_lt (by rw [h.1]; exact hi)]⟩
  · rw [Array.getElem?_setIfInBounds_ne e]
    exact h.2 i hi
set_option maxRecDepth 100000 in
set_option maxHeartbeats 4000000 in
theorem Fair_any (A : Option Addr) (n c : Nat) (L : List Ot) (most : Int) (w : World) (h : Ots w A n L) (hmo : most ≤ 1000) (hsd : ∀ o ∈ L, Sds w o.A o.n o.R ∧ o.n ≤ 9223372036854775807) : Calls Try.prog 10 #[.slice A n c, .int .i64 most] w (FrP L n most w) := by
  have HL := Lib.hid h.len
  have HA := Lib.hid h.at
  have HSD := Lib.hid hsd
  clear h hsd
  by_cases hm : (n : Int) > most
  · go_enter Try.func10, Try.ntmps10
    go_wp2
    go_ret
    exact frF (Below.refl _ w)
  · have hn : n ≤ 1000 := by omega
    have HM := Lib.hid (show (n : Int) ≤ most by omega)
    go_enter Try.func10, Try.ntmps10
    go_wp2
    go_loopw [15] (fun s wr => ∃ (k : Nat) (cs : Array Value), s = .int .i64 (k : Int) ∧ k ≤ n ∧ (∀ o ∈ L.take k, o.n ≤ 4) ∧ Blk wr w.heap.size 58 cs ∧ Four cs ∧ Below w.heap.size w wr) (fun s _ => n - (intOf s).toNat)
    case atStart => exact ⟨0, _, rfl, Nat.zero_le _, fun o ho => (by cases ho), Blk.new _ _ _, ⟨rfl, fun i hi => ⟨0, by match i, hi with | 0, _ => rfl | 1, _ => rfl | 2, _ => rfl | 3, _ => rfl⟩⟩, (Below.refl _ w).alloc (Nat.le_refl _) _⟩
    case round =>
      obtain ⟨k, cs, rfl, hkn, hal, hK, hF, hB⟩ := hrel
      have HAL := Lib.hid hal
      have HK := Lib.hid hK
      have HF := Lib.hid hF
      have HB := Lib.hid hB
      have hwl : w.heap.size < wr.heap.size := hK.lt
      clear hal hK hF hB
      by_cases hlt : k < n
      · have hki : (k : Int) < n := by omega
        have hk0 : (0 : Int) ≤ (k : Int) := by omega
        obtain ⟨b, off, rfl, hbl, hc⟩ := HA.out (by omega)
        have hi' : k < L.length := by rw [HL.out]; exact hlt
        obtain ⟨c0, c1, c2, c3⟩ := hc wr HB.out k hi'
        have HT := Lib.hid (show L.take (k + 1) = L.take k ++ [L[k]] from List.take_succ_eq_append_getElem hi')
        obtain ⟨hs9, hn9⟩ := HSD.out L[k] (List.getElem_mem hi')
        have HS9 := Lib.hid hs9
        clear hc hbl hs9
        generalize L[k] = y at *
        obtain ⟨W2, hW2⟩ : ∃ W2, W2 = wr.alloc (.cells #[.int .u8 y.kd, .int .i64 y.id, .int .i64 y.t, .slice y.A y.n y.c] 34) := ⟨_, rfl⟩
        have hb2 : Below wr.heap.size wr W2 := by rw [hW2]; exact (Below.refl _ wr).alloc (Nat.le_refl _) _
        have HB2 := Lib.hid (HB.out.trans (hb2.mono HB.out.size))
        have HK2 := Lib.hid (Blk.below hb2 HK.out)
        have hbk : Blk W2 wr.heap.size 34 #[.int .u8 y.kd, .int .i64 y.id, .int .i64 y.t, .slice y.A y.n y.c] := by rw [hW2]; exact Blk.new_ rfl rfl
        have HBK := Lib.hid hbk
        have d2 : W2.cell? ⟨wr.heap.size, 2, none⟩ = some (.int .i64 y.t) := hbk.cell 2
        have d3 : W2.cell? ⟨wr.heap.size, 3, none⟩ = some (.slice y.A y.n y.c) := hbk.cell 3
        have HGD := Lib.hid (Good_any y.t y.A y.n y.c y.R W2 (HS9.out.below HB2.out) hn9)
        clear hb2 hbk
        go_upto_region 7 with fail
        rw [← hW2]
        clear hW2 c0 c1 c2 c3
        go_wp2_with fail
        refine HGD.out.mono ?_
        rintro e3 W3 ⟨q, rfl, hq, hb3⟩
        have HB3 := Lib.hid (HB2.out.trans (hb3.mono HB2.out.size))
        have HK3 := Lib.hid (Blk.below hb3 HK2.out)
        have hbk := Blk.below hb3 HBK.out
        have d2 : W3.cell? ⟨wr.heap.size, 2, none⟩ = some (.int .i64 y.t) := hbk.cell 2
        have d3 : W3.cell? ⟨wr.heap.size, 3, none⟩ = some (.slice y.A y.n y.c) := hbk.cell 3
        have hw3 : w.heap.size < W3.heap.size := HK3.out.lt
        clear hb3 hbk HGD
        cases q
        · go_wp2
          go_ret
          exact frF HB3.out
        · obtain ⟨q4, q0, q3⟩ := hq rfl
          obtain ⟨j, hj⟩ : ∃ j : Nat, y.t = (j : Int) := ⟨y.t.toNat, by omega⟩
          rw [hj] at d2
          have hj4 : j < 4 := by omega
          obtain ⟨v, hv⟩ := HF.out.2 j hj4
          have dj : W3.cell? ⟨w.heap.size, j, none⟩ = some (.int .i64 v) := (HK3.out.cell j).trans hv
          have fj : W3.frozen? ⟨w.heap.size, j, none⟩ = false := Joins.unfrozen_of_block HK3.out j
          have HAL2 := Lib.hid (show ∀ o ∈ L.take (k + 1), o.n ≤ 4 from fun o ho => by
            rw [HT.out] at ho
            rcases List.mem_append.1 ho with ho | ho
            · exact HAL.out o ho
            · rw [List.mem_singleton.1 ho]; exact q4)
          have hj0 : ¬ ((j : Int) < 0) := by omega
          have hj4i : (j : Int) < 4 := by omega
          clear hq hv q0 q3
          have HSET := Lib.hid (show ∀ z : Int, Blk (W3.setCell ⟨w.heap.size, j, none⟩ (.int .i64 z)) w.heap.size 58 (cs.setIfInBounds j (.int .i64 z)) ∧ Four (cs.setIfInBounds j (.int .i64 z)) ∧ Below w.heap.size w (W3.setCell ⟨w.heap.size, j, none⟩ (.int .i64 z)) from fun z => ⟨Joins.block_setCell HK3.out _, HF.out.set j z, HB3.out.setCell (Nat.le_refl _) _⟩)
          by_cases hn0 : (y.n : Int) > 0
          · by_cases hv0 : v = 0
            · go_wp2
              go_roundw
              case rel => exact ⟨k + 1, _, by go_num, hlt, HAL2.out, (HSET.out _).1, (HSET.out _).2.1, (HSET.out _).2.2⟩
              case measure => simp [intOf]; omega
            · by_cases hvn : v = (y.n : Int)
              · go_wp2
                go_roundw
                case rel => exact ⟨k + 1, _, by go_num, hlt, HAL2.out, (HSET.out _).1, (HSET.out _).2.1, (HSET.out _).2.2⟩
                case measure => simp [intOf]; omega
              · have e1 : (v != 0) = true := by simpa using hv0
                have e2 : (v != (y.n : Int)) = true := by simpa using hvn
                go_wp2
                go_ret
                exact frF HB3.out
          · go_wp2
            go_roundw
            case rel => exact ⟨k + 1, cs, by go_num, hlt, HAL2.out, HK3.out, HF.out, HB3.out⟩
            case measure => simp [intOf]; omega
      · obtain rfl : k = n := by omega
        have hlt2 : ¬ ((k : Int) < (k : Int)) := by omega
        have HF2 := Lib.hid (show L.take k = L from List.take_of_length_le (by rw [HL.out]; exact Nat.le_refl _))
        go_wp2
        go_ret
        rw [HF2.out] at HAL
        exact ⟨true, rfl, fun _ => ⟨HM.out, HAL.out⟩, HB.out⟩
end Go.Proofs.Ytgenpldldgplhaa
