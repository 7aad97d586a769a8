/- The reference's least fresh epoch. -/
import Derived.Test.YtgpofkabidginaaWfr
import Derived.Test.YtgpofkabidginaaWly
namespace Go.Proofs.Ytgpofkabidginaa
open Go.ChangeShapes Go.WideShapes Go.ChangeAt Go.RowKit Go.ChangeMaps

set_option maxRecDepth 100000 in
set_option maxHeartbeats 2000000 in
theorem RFresh_any (F : Nat → Prop) (w : World) (r t : Nat) (s : St) (h : Rk F w r t s) (f c e : Nat) (hfc : f + c ≤ s.R.length) (he1 : 1 ≤ e) (he : e < 4294967296) (hn : s.R.length ≤ 65536) :
    Calls Try.prog 32 #[.pointer (some ⟨r, 0, none⟩), .int .i64 (f : Int), .int .i64 (c : Int), .int .u32 (e : Int)] w fun e' w' => e' = .returned (.int .u32 (freshM (((s.R.drop f).take c).map ends) e : Nat)) ∧ Below w.heap.size w w' := by
  have HK := Lib.hid h
  obtain ⟨LL, hLL⟩ : ∃ x, ((s.R.drop f).take c).map ends = x := ⟨_, rfl⟩
  have HLL := Lib.hid hLL
  rw [hLL]
  have HLN : Hid (LL.length = c) := Lib.hid (by rw [← hLL, List.length_map, List.length_take, List.length_drop]; omega)
  obtain ⟨x, hx⟩ : ∃ x, freshM LL e = x := ⟨_, rfl⟩
  rw [hx]
  have HX := Lib.hid hx
  clear h hLL hx
  go_enter Try.func32, Try.ntmps32
  go_wp2_with fail
  go_loopw [3] (fun ev wq => ∃ (a : Nat), ev = .int .u32 (a : Int) ∧ 1 ≤ a ∧ a ≤ 4294967295 ∧ freshM LL a = x ∧ Below w.heap.size w wq) (fun ev _ => 4294967295 - (intOf ev).toNat)
  case atStart => exact ⟨e, rfl, he1, by omega, HX.out, Below.refl _ _⟩
  case round =>
    obtain ⟨wq, rfl⟩ : ∃ x, x = wr := ⟨_, rfl⟩
    obtain ⟨a, rfl, ha1, ha2, har, hB⟩ := hrel
    have HA := Lib.hid har
    have HB := Lib.hid hB
    clear har hB
    go_wp2_with fail
    go_loopw [9, 10] (fun uv iv wr => ∃ (i : Nat), uv = .bool (decide (a ∈ LL.take i)) ∧ iv = .int .i64 ((f : Int) + (i : Int)) ∧ i ≤ c ∧ Below w.heap.size w wr) (fun _ iv _ => f + c - (intOf iv).toNat)
    case atStart => exact ⟨0, by simp, by simp, Nat.zero_le _, HB.out⟩
    case round =>
      clear HB
      obtain ⟨i, rfl, rfl, hic, hB⟩ := hrel
      have HB := Lib.hid hB
      clear hB
      by_cases hlt : i < c
      · have hlti : (f : Int) + (i : Int) < (f : Int) + (c : Int) := by omega
        have hk : f + i < s.R.length := by omega
        have HSG := Lib.hid (seg_ends (R := s.R) hlt hfc)
        rw [HLL.out] at HSG
        obtain ⟨b1, hb1⟩ : ∃ b, decide (ends (s.R.getD (f + i) []) = a) = b := ⟨_, rfl⟩
        have hen := Ends_any F wr r t s (HK.out.below HB.out) (f + i) hk a b1 hb1
        rw [show ((f + i : Nat) : Int) = (f : Int) + (i : Int) by omega] at hen
        have HEN := Lib.hid hen
        have HU := Lib.hid (show ∀ b0, decide (a ∈ LL.take i) = b0 → decide (a ∈ LL.take (i + 1)) = (b0 || b1) from fun b0 h0 => by
          rw [HSG.out, ← h0, ← hb1, Bool.eq_iff_iff, decide_eq_true_iff, Bool.or_eq_true, decide_eq_true_iff, decide_eq_true_iff, List.mem_append, List.mem_singleton, eq_comm (a := a)])
        clear hen hb1
        obtain ⟨b0, hb0⟩ : ∃ b, decide (a ∈ LL.take i) = b := ⟨_, rfl⟩
        have HU2 := Lib.hid (HU.out b0 hb0)
        rw [hb0]
        clear hb0 HU
        cases b0
        · go_wp2_with fail
          refine HEN.out.mono ?_
          rintro e' w3 ⟨rfl, hw3⟩
          have HB3 := Lib.hid (HB.out.trans ((below_dn hw3).mono HB.out.size))
          clear hw3
          go_wp2
          go_roundw
          case rel => exact ⟨i + 1, by rw [HU2.out]; simp, by go_num, by omega, HB3.out⟩
          case measure => simp [intOf]; omega
        · go_wp2
          go_roundw
          case rel => exact ⟨i + 1, by rw [HU2.out]; simp, by go_num, by omega, HB.out⟩
          case measure => simp [intOf]; omega
      · obtain rfl : i = c := by omega
        rw [List.take_of_length_le (by rw [HLN.out]; omega)]
        by_cases hm : a ∈ LL
        · rw [decide_eq_true hm]
          by_cases hmax : a < 4294967295
          · have hne : ((a : Int) == 4294967295) = false := by simp; omega
            have HA2 := Lib.hid (show freshM LL (a + 1) = x from by rw [← fresh_go hm hmax]; exact HA.out)
            clear hm
            go_wp2
            go_roundw
            case rel => exact ⟨a + 1, by go_num, by omega, by omega, HA2.out, HB.out⟩
            case measure => simp [intOf]; omega
          · obtain rfl : a = 4294967295 := by omega
            have HA2 := Lib.hid (show x = 0 from by rw [← fresh_end hm hmax]; exact HA.out.symm)
            clear hm
            go_wp2
            go_ret
            exact ⟨by rw [HA2.out]; rfl, HB.out⟩
        · rw [decide_eq_false hm]
          have HA2 := Lib.hid (show x = a from by rw [← fresh_no hm]; exact HA.out.symm)
          clear hm
          go_wp2
          go_ret
          exact ⟨by rw [HA2.out]; rfl, HB.out⟩
end Go.Proofs.Ytgpofkabidginaa
