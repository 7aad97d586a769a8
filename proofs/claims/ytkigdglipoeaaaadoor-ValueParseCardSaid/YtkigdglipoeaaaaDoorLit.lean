/- The literal, as the reference writes it. -/
import Derived.Test.YtkigdglipoeaaaaDoorNm
namespace Go.Proofs.YtkigdglipoeaaaaDoor
open Go.ChangeShapes Go.WideShapes Go.ChangeAt Go.RowKit Go.ChangeMaps

theorem dbl_step (l : List UInt8) (k : Nat) (h : k < l.length) : dbl (l.take (k + 1)) = dbl (l.take k) ++ (if l[k] = 39 then [39, 39] else [l[k]]) := by
  unfold dbl; rw [List.take_succ_eq_append_getElem h, List.flatMap_append]; simp
theorem one_byte (s : ByteArray) (k : Nat) (h : k < s.size) : (s.extract k (k + 1)).data.toList = [s[k]] := by
  have hl : k < s.data.toList.length := by simpa using h
  have e : s.data.toList[k] = s[k] := by simp; rfl
  rw [ByteArray.data_extract, Array.toList_extract, List.extract_eq_take_drop, List.drop_eq_getElem_cons hl, e]
  rw [show k + 1 - k = 1 by omega]
  rfl
set_option maxHeartbeats 1000000 in
theorem Literal_any (k n : Int) (s : ByteArray) (w : World) (h0 : -9223372036854775808 ≤ n) (h1 : n ≤ 9223372036854775807) (hs : s.size ≤ 9223372036854775807) :
    Calls Tryd.prog 28 #[.agg #[.int .i64 k, .int .i64 n, .string s]] w fun e w' => e = .returned (.string ⟨(fmtV ⟨k, n, s⟩).toArray⟩) ∧ Below w.heap.size w w' := by
  have HV := Lib.hid (fun w => Valid_any k n s w hs)
  have HX := Lib.hid (fmtV_eq ⟨k, n, s⟩)
  have HZ : Hid (V3.valid ⟨k, n, s⟩ = true → s.size ≤ 16) := Lib.hid valid_size
  have HK : Hid (V3.valid ⟨k, n, s⟩ = true → k = 0 ∨ k = 1 ∨ k = 2) := Lib.hid valid_kind
  have B0 := (Below.refl w.heap.size w).alloc (Nat.le_refl _) (.cells #[.int .i64 k, .int .i64 n, .string s] 23)
  have HB := Lib.hid B0
  generalize hv : V3.valid ⟨k, n, s⟩ = v at *
  generalize hf : fmtV ⟨k, n, s⟩ = f at *
  clear hv hf B0
  cases v
  · rw [HX.out, if_pos rfl]
    clear HX
    go_enter Tryd.func28, Tryd.ntmps28
    go_wp2_with (go_at_call 14; refine (HV.out _).mono ?_; rintro e w1 ⟨rfl, hb⟩)
    go_ret
    exact ⟨rfl, HB.out.trans (hb.mono (by simp))⟩
  · have HX := Lib.hid (HX.out.trans (if_neg (by decide)))
    rcases HK.out rfl with hk | hk | hk
    · subst hk
      rw [(HX.out.trans rfl : f = [78, 85, 76, 76])]
      clear HX
      go_enter Tryd.func28, Tryd.ntmps28
      go_wp2_with fail
      refine (HV.out _).mono ?_
      rintro e w1 ⟨rfl, hb⟩
      have e0 := keepcell hb (newcell (g := w.heap.size) 0 (.int .i64 0) rfl rfl)
      go_wp2
      go_ret
      exact ⟨rfl, HB.out.trans (hb.mono (by simp))⟩
    · subst hk
      rw [(HX.out.trans rfl : f = Lib.itoa n)]
      clear HX
      have HN := Lib.hid (fun w => Num_any n w h0 h1)
      go_enter Tryd.func28, Tryd.ntmps28
      go_wp2_with fail
      refine (HV.out _).mono ?_
      rintro e w1 ⟨rfl, hb⟩
      have e0 := keepcell hb (newcell (g := w.heap.size) 0 (.int .i64 1) rfl rfl)
      have e1 := keepcell hb (newcell (g := w.heap.size) 1 (.int .i64 n) rfl rfl)
      go_wp2_with (go_at_call 47; refine (HN.out _).mono ?_; rintro e w2 ⟨rfl, hb2⟩)
      go_ret
      exact ⟨rfl, (HB.out.trans (hb.mono (by simp))).trans (hb2.mono (HB.out.trans (hb.mono (by simp))).size)⟩
    · subst hk
      have HF := Lib.hid (HX.out.trans rfl : f = 39 :: (dbl s.data.toList ++ [39]))
      clear HX
      have hz := HZ.out rfl
      have hd := dbl_len s.data.toList
      have hsl : s.data.toList.length = s.size := by simp
      have HL := Lib.hid hsl
      go_enter Tryd.func28, Tryd.ntmps28
      go_wp2_with fail
      refine (HV.out _).mono ?_
      rintro e w1 ⟨rfl, hb⟩
      have e0 := keepcell hb (newcell (g := w.heap.size) 0 (.int .i64 2) rfl rfl)
      have e2 := keepcell hb (newcell (g := w.heap.size) 2 (.string s) rfl rfl)
      have HB2 := Lib.hid (HB.out.trans (hb.mono (by simp)))
      clear hsl hd
      go_wp2
      go_loop [3, 4] (fun a i => ∃ (k : Nat) (acc : ByteArray), k ≤ s.size ∧ a = .string acc ∧ i = .int .i64 k ∧ acc.data.toList = 39 :: dbl (s.data.toList.take k)) (fun _ i => s.size - (intOf i).toNat)
      case atStart => exact ⟨0, ⟨#[39]⟩, Nat.zero_le _, rfl, rfl, rfl⟩
      case round =>
        obtain ⟨k, acc, hk, rfl, rfl, hc⟩ := hrel
        have ha : acc.size ≤ 33 := by
          have e : acc.data.toList.length = acc.size := by simp
          have := dbl_len (s.data.toList.take k)
          have := List.length_take_le k s.data.toList
          rw [← e, hc, List.length_cons]; have := HL.out; omega
        by_cases hlt : k < s.size
        · have hkl : k < s.data.toList.length := by rw [HL.out]; exact hlt
          have H := dbl_step s.data.toList k hkl
          have ex : s.data.toList[k]'hkl = s[k] := by simp; rfl
          rw [ex] at H
          have HC := Lib.hid hc
          have HD := Lib.hid H
          clear hc H ex
          have h1b := one_byte s k hlt
          have hxs : (s.extract k (k + 1)).size = 1 := by rw [ByteArray.size_extract]; omega
          have hxs2 : (acc ++ s.extract k (k + 1)).size ≤ 34 := by rw [ByteArray.size_append]; omega
          have s39 : (⟨#[39]⟩ : ByteArray).size = 1 := rfl
          have H1 := Lib.hid h1b
          clear h1b
          by_cases h39 : s[k] = 39
          · have q : ((s[k].toNat : Int) == 39) = true := by rw [h39]; rfl
            have HE : Hid ((acc ++ s.extract k (k + 1) ++ (⟨#[39]⟩ : ByteArray)).data.toList = 39 :: dbl (s.data.toList.take (k + 1))) := by
              refine Lib.hid ?_
              rw [HD.out, if_pos h39, ByteArray.data_append, Array.toList_append, ByteArray.data_append, Array.toList_append, H1.out, HC.out, h39]
              simp
            clear h39
            go_wp2
            go_round
            case rel => exact ⟨k + 1, acc ++ s.extract k (k + 1) ++ (⟨#[39]⟩ : ByteArray), by omega, by first | rfl | simp, by go_num, HE.out⟩
            case measure => simp [intOf]; omega
          · have q : ((s[k].toNat : Int) == 39) = false := by
              rw [beq_eq_false_iff_ne]; intro e
              exact h39 (UInt8.toNat_inj.1 (by have : (39 : UInt8).toNat = 39 := rfl; omega))
            have HE : Hid ((acc ++ s.extract k (k + 1)).data.toList = 39 :: dbl (s.data.toList.take (k + 1))) := by
              refine Lib.hid ?_
              rw [HD.out, if_neg h39, ByteArray.data_append, Array.toList_append, H1.out, HC.out]
              simp
            clear h39
            go_wp2
            go_round
            case rel => exact ⟨k + 1, acc ++ s.extract k (k + 1), by omega, rfl, by go_num, HE.out⟩
            case measure => simp [intOf]; omega
        · obtain rfl : k = s.size := by omega
          have s39 : (⟨#[39]⟩ : ByteArray).size = 1 := rfl
          have HE : Hid ((⟨f.toArray⟩ : ByteArray) = acc ++ ⟨#[39]⟩) := by
            refine Lib.hid ?_
            rw [List.take_of_length_le (by rw [HL.out]; exact Nat.le_refl _)] at hc
            rw [HF.out]
            apply ByteArray.ext
            rw [ByteArray.data_append]
            apply Array.toList_inj.1
            rw [Array.toList_append, hc]
            simp
          clear hc
          go_wp2
          go_ret
          exact ⟨by rw [HE.out]; rfl, HB2.out⟩
end Go.Proofs.YtkigdglipoeaaaaDoor
