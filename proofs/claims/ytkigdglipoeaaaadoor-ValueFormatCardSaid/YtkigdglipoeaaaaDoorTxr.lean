/- The text of a row, as the reference writes it. -/
import Derived.Test.YtkigdglipoeaaaaDoorLit
namespace Go.Proofs.YtkigdglipoeaaaaDoor
open Go.ChangeShapes Go.WideShapes Go.ChangeAt Go.RowKit Go.ChangeMaps

theorem join_snoc (l : List (List UInt8)) (x : List UInt8) (h : l ≠ []) : Lib.join (l ++ [x]) [44, 32] = Lib.join l [44, 32] ++ [44, 32] ++ x := by
  unfold Lib.join
  induction l with
  | nil => exact absurd rfl h
  | cons a l ih =>
    cases l with
    | nil => simp [List.intercalate]
    | cons b l =>
      have ih := ih (by simp)
      rw [show (a :: b :: l) ++ [x] = a :: ((b :: l) ++ [x]) from rfl]
      have e1 : ∀ m : List (List UInt8), m ≠ [] → ([44, 32] : List UInt8).intercalate (a :: m) = a ++ [44, 32] ++ ([44, 32] : List UInt8).intercalate m := by
        intro m hm
        cases m with
        | nil => exact absurd rfl hm
        | cons c m => simp [List.intercalate, List.intersperse]
      rw [e1 _ (by simp), e1 _ (by simp), ih]
      simp
theorem join_one (x : List UInt8) : Lib.join [x] [44, 32] = x := by simp [Lib.join, List.intercalate]
theorem take_ne (R : List V3) (k : Nat) (h : k < R.length) (h0 : 0 < k) : (R.take k).map fmtV ≠ [] := by
  intro e
  have := congrArg List.length e
  rw [List.length_map, List.length_take, List.length_nil] at this
  omega
theorem map_step (R : List V3) (k : Nat) (h : k < R.length) : (R.take (k + 1)).map fmtV = (R.take k).map fmtV ++ [fmtV R[k]] := by
  rw [List.take_succ_eq_append_getElem h, List.map_append]; rfl
set_option maxRecDepth 100000 in
set_option maxHeartbeats 1000000 in
theorem Text30_any (A : Option Addr) (n c : Nat) (R : List V3) (w : World) (hr : RowAt w A n R) (hn : n ≤ 1000000) (hR : ∀ x ∈ R, x.ok) :
    Calls Tryd.prog 30 #[.slice A n c] w fun e w' => e = .returned (.string ⟨(rowT R).toArray⟩) ∧ Below w.heap.size w w' := by
  rcases Nat.eq_zero_or_pos n with h0 | h0
  · subst h0
    obtain rfl : R = [] := List.eq_nil_of_length_eq_zero hr.1
    go_enter Tryd.func30, Tryd.ntmps30
    go_wp2
    refine wp_loop_rounds 1 ?_
    rw [rounds_succ]
    go_wp2
    go_ret
    exact ⟨rfl, Below.refl _ _⟩
  · obtain ⟨b, off, rfl, hb, hc⟩ := hr.2 h0
    have HL := Lib.hid hr.1
    clear hr
    go_enter Tryd.func30, Tryd.ntmps30
    go_wp2
    go_loopw [3, 4] (fun a i wr => ∃ (k : Nat) (acc : ByteArray), k ≤ n ∧ a = .string acc ∧ i = .int .i64 k ∧ acc.data.toList = Lib.join ((R.take k).map fmtV) [44, 32] ∧ (R.take k).all V3.valid = true ∧ Below w.heap.size w wr) (fun _ i _ => n - (intOf i).toNat)
    case atStart => exact ⟨0, ⟨#[]⟩, Nat.zero_le _, rfl, rfl, rfl, rfl, Below.refl _ _⟩
    case round =>
      obtain ⟨k, acc, hk, rfl, rfl, ha, hv, hB⟩ := hrel
      have has : acc.size ≤ 36000000 := by
        have e : acc.data.toList.length = acc.size := by simp
        have h1 := join_len ((R.take k).map fmtV) 34 (by
          intro x hx
          obtain ⟨y, hy, rfl⟩ := List.mem_map.1 hx
          exact fmtV_len y (hR y (List.mem_of_mem_take hy)))
        rw [List.length_map, List.length_take] at h1
        rw [← e, ha]
        have : min k R.length ≤ k := Nat.min_le_left _ _
        have : 36 * min k R.length ≤ 36 * k := Nat.mul_le_mul_left _ this
        omega
      by_cases hlt : k < n
      · have hkR : k < R.length := by rw [HL.out]; exact hlt
        obtain ⟨c0, c1, c2⟩ := hc k hkR
        have c0 := (hB.cell (p := ⟨b, off + k * 3, none⟩) hb).trans c0
        have c1 := (hB.cell (p := ⟨b, off + k * 3 + 1, none⟩) hb).trans c1
        have c2 := (hB.cell (p := ⟨b, off + k * 3 + 2, none⟩) hb).trans c2
        have hx := hR R[k] (List.getElem_mem _)
        have H1 := Lib.hid (all_step R k hkR hv)
        have H2 := Lib.hid (all_no R k hkR)
        have H5 := Lib.hid (fmtV_nil R[k])
        have H6 := Lib.hid (fmtV_len R[k] hx)
        have H7 := Lib.hid (map_step R k hkR)
        have H8 := Lib.hid (take_ne R k hkR)
        have H9 : Hid (k = 0 → (R.take k).map fmtV = []) := Lib.hid (fun h => by subst h; rfl)
        have HA := Lib.hid ha
        have HB := Lib.hid hB
        clear hv hB ha
        generalize R[k] = x at *
        rcases x with ⟨xk, xn, xs⟩
        simp only at c0 c1 c2
        have hx : -9223372036854775808 ≤ xn ∧ xn ≤ 9223372036854775807 ∧ xs.size ≤ 140737488351232 := ⟨hx.2.2.1, hx.2.2.2.1, hx.2.2.2.2⟩
        have HF := Lib.hid (fun w => Literal_any xk xn xs w hx.1 hx.2.1 (by omega))
        obtain ⟨f, hf⟩ : ∃ f : ByteArray, (⟨(fmtV ⟨xk, xn, xs⟩).toArray⟩ : ByteArray) = f := ⟨_, rfl⟩
        have hfl : f.data.toList = fmtV ⟨xk, xn, xs⟩ := by rw [← hf]
        have hfs : f.size ≤ 34 := by
          have e : f.data.toList.length = f.size := by simp
          rw [← e, hfl]; exact H6.out
        rw [hf] at HF
        have E := empty_list f
        have HFL := Lib.hid hfl
        clear hf hfl
        cases hv : (V3.valid ⟨xk, xn, xs⟩)
        · have hz : f.size = 0 := by
            have e : f.data.toList.length = f.size := by simp
            rw [← e, HFL.out, H5.out.2 hv]; rfl
          rw [decide_eq_true hz] at E
          have HR := H2.out hv
          have hn2 : Hid (rowT R = []) := Lib.hid (by unfold rowT; rw [HR]; rfl)
          clear HR hv
          go_wp2_with (go_at_call 28; refine (HF.out _).mono ?_; rintro e w2 ⟨rfl, hb2⟩)
          go_ret
          exact ⟨by rw [hn2.out]; rfl, HB.out.trans (hb2.mono HB.out.size)⟩
        · have hz : ¬ f.size = 0 := by
            intro h
            have e : f.data.toList.length = f.size := by simp
            have : fmtV ⟨xk, xn, xs⟩ = [] := by rw [← HFL.out]; exact List.eq_nil_of_length_eq_zero (by omega)
            rw [H5.out.1 this] at hv; cases hv
          rw [decide_eq_false hz] at E
          have R2 := Lib.hid (H1.out.trans hv)
          have s2 : (⟨#[44, 32]⟩ : ByteArray).size = 2 := rfl
          have s3 : (acc ++ (⟨#[44, 32]⟩ : ByteArray)).size ≤ 36000002 := by rw [ByteArray.size_append]; omega
          clear hv
          by_cases hk0 : k = 0
          · have q : decide ((k : Int) > 0) = false := decide_eq_false (by omega)
            have q2 : decide (0 < k) = false := decide_eq_false (by omega)
            have q3 : ¬ 0 < k := by omega
            have HE : Hid ((acc ++ f).data.toList = Lib.join ((R.take (k + 1)).map fmtV) [44, 32]) := by
              refine Lib.hid ?_
              rw [H7.out, ByteArray.data_append, Array.toList_append, HA.out, H9.out hk0, HFL.out, List.nil_append, join_one]; rfl
            clear hk0
            go_wp2_with (go_at_call 28; refine (HF.out _).mono ?_; rintro e w2 ⟨rfl, hb2⟩)
            have HB2 := Lib.hid (HB.out.trans (hb2.mono HB.out.size))
            go_roundw
            case rel => exact ⟨k + 1, acc ++ f, by omega, rfl, by go_num, HE.out, R2.out, HB2.out⟩
            case measure => simp [intOf]; omega
          · have q : decide ((k : Int) > 0) = true := decide_eq_true (by omega)
            have q2 : decide (0 < k) = true := decide_eq_true (by omega)
            have q3 : 0 < k := by omega
            have HE : Hid ((acc ++ (⟨#[44, 32]⟩ : ByteArray) ++ f).data.toList = Lib.join ((R.take (k + 1)).map fmtV) [44, 32]) := by
              refine Lib.hid ?_
              rw [H7.out, join_snoc _ _ (H8.out (by omega)), ByteArray.data_append, Array.toList_append, ByteArray.data_append, Array.toList_append, HA.out, HFL.out]
            go_wp2_with (go_at_call 28; refine (HF.out _).mono ?_; rintro e w2 ⟨rfl, hb2⟩)
            have HB2 := Lib.hid (HB.out.trans (hb2.mono HB.out.size))
            go_roundw
            case rel => exact ⟨k + 1, acc ++ (⟨#[44, 32]⟩ : ByteArray) ++ f, by omega, by first | rfl | simp, by go_num, HE.out, R2.out, HB2.out⟩
            case measure => simp [intOf]; omega
      · obtain rfl : k = n := by omega
        have HB := Lib.hid hB
        have hall : R.all V3.valid = true := by rw [← hv, List.take_of_length_le (by rw [HL.out]; exact Nat.le_refl _)]
        rw [List.take_of_length_le (by rw [HL.out]; exact Nat.le_refl _)] at ha
        have HT : Hid ((⟨(rowT R).toArray⟩ : ByteArray) = (⟨#[40]⟩ : ByteArray) ++ acc ++ ⟨#[41]⟩) := by
          refine Lib.hid ?_
          unfold rowT
          rw [if_pos hall]
          apply ByteArray.ext
          rw [ByteArray.data_append, ByteArray.data_append]
          apply Array.toList_inj.1
          rw [Array.toList_append, Array.toList_append, ha]
          simp
        have s1 : (⟨#[40]⟩ : ByteArray).size = 1 := rfl
        have s4 : (⟨#[41]⟩ : ByteArray).size = 1 := rfl
        have s2 : ((⟨#[40]⟩ : ByteArray) ++ acc).size ≤ 36000001 := by rw [ByteArray.size_append]; omega
        clear ha hv hall hB
        go_wp2
        go_ret
        exact ⟨by rw [HT.out]; first | rfl | simp [ByteArray.append_assoc], HB.out⟩
end Go.Proofs.YtkigdglipoeaaaaDoor
