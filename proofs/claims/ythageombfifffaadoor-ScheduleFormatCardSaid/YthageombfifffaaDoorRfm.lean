/- The text of a schedule, as the reference writes it. -/
import Derived.Test.YthageombfifffaaDoorDig
namespace Go.Proofs.YthageombfifffaaDoor
open Go.ChangeShapes Go.WideShapes Go.ChangeAt Go.RowKit Go.ChangeMaps

set_option maxRecDepth 100000 in
set_option maxHeartbeats 1000000 in
theorem rline_any (a : Act) (w : World) (h : vA a 8 = true) : Calls Tryd.prog 35 #[a.agg] w fun e w' => e = .returned (.string ⟨(lineS a ++ [10]).toArray⟩) ∧ Below w.heap.size w w' := by
  rcases vA_cases a h with ⟨n, hn, rfl⟩ | rfl | rfl | rfl | ⟨n, m, h0, h1, h2, rfl⟩
  · have HB := Lib.hid ((Below.refl w.heap.size w).alloc (Nat.le_refl _) (.cells #[.int .i64 1, .int .i64 n, .int .i64 0, .int .i64 0] 29))
    have q := lineS_step n 0 0
    obtain ⟨f, hf, hl, hs⟩ := digB n (by omega)
    have C := Lib.hid (digits_any n (by omega))
    rw [hf] at C
    have HV : Hid ((⟨(lineS ⟨1, n, 0, 0⟩ ++ [10]).toArray⟩ : ByteArray) = (⟨#[115, 116, 101, 112, 32]⟩ : ByteArray) ++ f ++ ⟨#[10]⟩) := Lib.hid (bytes_eq _ _ (by rw [q]; simp only [ByteArray.data_append, Array.toList_append, hl]; simp [tStep]))
    have s1 : (⟨#[115, 116, 101, 112, 32]⟩ : ByteArray).size = 5 := rfl
    have s2 : (⟨#[10]⟩ : ByteArray).size = 1 := rfl
    have s3 : ((⟨#[115, 116, 101, 112, 32]⟩ : ByteArray) ++ f).size ≤ 26 := by rw [ByteArray.size_append]; omega
    clear h hf hl q
    show Calls Tryd.prog 35 #[.agg #[.int .i64 1, .int .i64 n, .int .i64 0, .int .i64 0]] w _
    generalize lineS ⟨1, n, 0, 0⟩ = l at *
    go_enter Tryd.func35, Tryd.ntmps35
    go_wp2_with (go_at_call 43; refine (C.out _).mono ?_; rintro e w2 ⟨rfl, hb2⟩)
    go_ret
    exact ⟨by rw [HV.out]; first | rfl | simp [ByteArray.append_assoc], more_below HB.out hb2⟩
  · have HB := Lib.hid ((Below.refl w.heap.size w).alloc (Nat.le_refl _) (.cells #[.int .i64 2, .int .i64 0, .int .i64 0, .int .i64 0] 29))
    show Calls Tryd.prog 35 #[.agg #[.int .i64 2, .int .i64 0, .int .i64 0, .int .i64 0]] w _
    go_enter Tryd.func35, Tryd.ntmps35
    go_wp2
    go_ret
    exact ⟨rfl, HB.out⟩
  · have HB := Lib.hid ((Below.refl w.heap.size w).alloc (Nat.le_refl _) (.cells #[.int .i64 4, .int .i64 0, .int .i64 0, .int .i64 0] 29))
    show Calls Tryd.prog 35 #[.agg #[.int .i64 4, .int .i64 0, .int .i64 0, .int .i64 0]] w _
    go_enter Tryd.func35, Tryd.ntmps35
    go_wp2
    go_ret
    exact ⟨rfl, HB.out⟩
  · have HB := Lib.hid ((Below.refl w.heap.size w).alloc (Nat.le_refl _) (.cells #[.int .i64 3, .int .i64 0, .int .i64 0, .int .i64 0] 29))
    show Calls Tryd.prog 35 #[.agg #[.int .i64 3, .int .i64 0, .int .i64 0, .int .i64 0]] w _
    go_enter Tryd.func35, Tryd.ntmps35
    go_wp2
    go_ret
    exact ⟨rfl, HB.out⟩
  · have HB := Lib.hid ((Below.refl w.heap.size w).alloc (Nat.le_refl _) (.cells #[.int .i64 3, .int .i64 0, .int .i64 n, .int .i64 m] 29))
    have q := lineS_crash n m h0 0
    obtain ⟨f, hf, hl, hs⟩ := digB n (by omega)
    obtain ⟨g, hg, hm, ht⟩ := digB m (by omega)
    have C1 := Lib.hid (digits_any n (by omega))
    have C2 := Lib.hid (digits_any m (by omega))
    rw [hf] at C1
    rw [hg] at C2
    have HV : Hid ((⟨(lineS ⟨3, 0, n, m⟩ ++ [10]).toArray⟩ : ByteArray) = (⟨#[99, 114, 97, 115, 104, 32]⟩ : ByteArray) ++ f ++ (⟨#[32]⟩ : ByteArray) ++ g ++ (⟨#[10]⟩ : ByteArray)) := Lib.hid (bytes_eq _ _ (by rw [q]; simp only [ByteArray.data_append, Array.toList_append, hl, hm]; simp [tCrash]))
    have s1 : (⟨#[99, 114, 97, 115, 104, 32]⟩ : ByteArray).size = 6 := rfl
    have s2 : (⟨#[32]⟩ : ByteArray).size = 1 := rfl
    have s0 : (⟨#[10]⟩ : ByteArray).size = 1 := rfl
    have s3 : ((⟨#[99, 114, 97, 115, 104, 32]⟩ : ByteArray) ++ f).size ≤ 27 := by rw [ByteArray.size_append]; omega
    have s4 : ((⟨#[99, 114, 97, 115, 104, 32]⟩ : ByteArray) ++ f ++ (⟨#[32]⟩ : ByteArray)).size ≤ 28 := by rw [ByteArray.size_append]; omega
    have s5 : ((⟨#[99, 114, 97, 115, 104, 32]⟩ : ByteArray) ++ f ++ (⟨#[32]⟩ : ByteArray) ++ g).size ≤ 49 := by rw [ByteArray.size_append]; omega
    have b1 : ((n : Int) == 0) = false := by simp; omega
    clear h hf hl hg hm q
    show Calls Tryd.prog 35 #[.agg #[.int .i64 3, .int .i64 0, .int .i64 n, .int .i64 m]] w _
    generalize lineS ⟨3, 0, n, m⟩ = l at *
    have c2 := fun d os => cell_regrown (newcell (w := w) (T := 29) (cs := #[.int .i64 3, .int .i64 0, .int .i64 n, .int .i64 m]) (g := w.heap.size) 2 (.int .i64 n) rfl rfl) d os
    have c3 := fun d os => cell_regrown (newcell (w := w) (T := 29) (cs := #[.int .i64 3, .int .i64 0, .int .i64 n, .int .i64 m]) (g := w.heap.size) 3 (.int .i64 m) rfl rfl) d os
    go_enter Tryd.func35, Tryd.ntmps35
    go_wp2
    refine wp_region_quiet_below (by kernel_rfl) (by kernel_rfl) ?_
    repeat (first | go_big_quiet_step ((go_at_call 43; first | with_reducible exact Calls.regrown_of (C1.out _) | with_reducible exact Calls.regrown_of (C2.out _))) | quiet_step ((go_at_call 43; first | with_reducible exact Calls.regrown_of (C1.out _) | with_reducible exact Calls.regrown_of (C2.out _))))
    refine wpQuiet_nil ?_
    intro _ hw'
    obtain ⟨⟨dq, osq⟩, hw''⟩ := hw'
    subst hw''
    go_wp2
    go_ret
    exact ⟨by rw [HV.out]; first | rfl | simp [ByteArray.append_assoc], HB.out.trans ((below_regrown _ _ _).mono HB.out.size)⟩
set_option maxRecDepth 100000 in
set_option maxHeartbeats 1000000 in
theorem rFormat_any (A : Option Addr) (n c : Nat) (R : List Act) (w : World) (hr : Acts w A n R) (hn : n ≤ 1000000) (hR : ∀ x ∈ R, x.ok) (hv : (R.all fun a => vA a 8) = true) :
    Calls Tryd.prog 21 #[.slice A n c] w fun e w' => e = .returned (.string ⟨(fmtL R).toArray⟩) ∧ Below w.heap.size w w' := by
  have HV : Hid (∀ x ∈ R, vA x 8 = true) := Lib.hid (by simpa using hv)
  have HL := Lib.hid hr.1
  have HR := Lib.hid hr
  clear hr hv
  go_enter Tryd.func21, Tryd.ntmps21
  go_wp2
  go_loopw [3, 4] (fun a i wr => ∃ (k : Nat) (acc : ByteArray), k ≤ n ∧ a = .string acc ∧ i = .int .i64 k ∧ acc.data.toList = fmtL (R.take k) ∧ Below w.heap.size w wr) (fun _ i _ => n - (intOf i).toNat)
  case atStart => exact ⟨0, ⟨#[]⟩, Nat.zero_le _, rfl, rfl, rfl, Below.refl _ _⟩
  case round =>
    obtain ⟨k, acc, hk, rfl, rfl, ha, hB⟩ := hrel
    have has : acc.size ≤ 50000000 := by
      have e : acc.data.toList.length = acc.size := by simp
      have h1 := fmtL_len (R.take k) (fun x hx => hR x (List.mem_of_mem_take hx))
      rw [List.length_take] at h1
      rw [← e, ha]
      omega
    by_cases hlt : k < n
    · obtain ⟨b, off, rfl, hb, hc⟩ := HR.out.2 (by omega)
      have hkR : k < R.length := by rw [HL.out]; exact hlt
      obtain ⟨c0, c1, c2, c3⟩ := hc k hkR
      have c0 := (hB.cell (p := ⟨b, off + k * 4, none⟩) hb).trans c0
      have c1 := (hB.cell (p := ⟨b, off + k * 4 + 1, none⟩) hb).trans c1
      have c2 := (hB.cell (p := ⟨b, off + k * 4 + 2, none⟩) hb).trans c2
      have c3 := (hB.cell (p := ⟨b, off + k * 4 + 3, none⟩) hb).trans c3
      have H1 := Lib.hid (fmtL_step R k hkR)
      have C := Lib.hid (fun w => rline_any R[k] w (HV.out _ (List.getElem_mem _)))
      have hll := lineS_len R[k] (hR R[k] (List.getElem_mem _))
      have HA := Lib.hid ha
      have HB := Lib.hid hB
      clear hB ha hc
      generalize R[k] = x at *
      obtain ⟨l, hl⟩ : ∃ l : ByteArray, (⟨(lineS x ++ [10]).toArray⟩ : ByteArray) = l := ⟨_, rfl⟩
      have hld : l.data.toList = lineS x ++ [10] := by rw [← hl]
      have hls : l.size ≤ 50 := by
        have e : l.data.toList.length = l.size := by simp
        rw [← e, hld, List.length_append]; simp; exact hll
      rw [hl] at C
      have HF : Hid ((acc ++ l).data.toList = fmtL (R.take (k + 1))) := Lib.hid (by rw [ByteArray.data_append, Array.toList_append, HA.out, hld, H1.out, List.append_assoc])
      clear hl hld hll
      rcases x with ⟨xk, xs, xw, xb⟩
      simp only at c0 c1 c2 c3
      replace C : Hid (∀ w, Calls Tryd.prog 35 #[.agg #[.int .i64 xk, .int .i64 xs, .int .i64 xw, .int .i64 xb]] w fun e w' => e = .returned (.string l) ∧ Below w.heap.size w w') := C
      clear H1
      go_wp2_with (go_at_call 35; refine (C.out _).mono ?_; rintro e w2 ⟨rfl, hb2⟩)
      go_roundw
      case rel => exact ⟨k + 1, acc ++ l, by omega, rfl, by go_num, HF.out, more_below HB.out hb2⟩
      case measure => simp [intOf]; omega
    · obtain rfl : k = n := by omega
      have e : R.take k = R := List.take_of_length_le (by rw [HL.out]; exact Nat.le_refl _)
      rw [e] at ha
      have HA := Lib.hid (bytes_eq acc _ ha)
      clear ha e
      go_wp2
      go_ret
      exact ⟨by rw [HA.out]; first | done | rfl, hB⟩
end Go.Proofs.YthageombfifffaaDoor
