/- An action, as the reference reads it. -/
import Derived.Test.YthageombfifffaaDoorRsh
import Derived.StillTailTactics
namespace Go.Proofs.YthageombfifffaaDoor
open Go.ChangeShapes Go.WideShapes Go.ChangeAt Go.RowKit Go.ChangeMaps

theorem ext_list (s : ByteArray) (i j : Nat) : (s.extract i j).data.toList = (s.data.toList.drop i).take (j - i) := by
  rw [ByteArray.data_extract, Array.toList_extract, List.extract_eq_take_drop]
theorem ok_ints {k s v b : Int} (h1 : 0 ≤ k ∧ k ≤ 4) (h2 : -1 ≤ s ∧ s ≤ 10000009) (h3 : -1 ≤ v ∧ v ≤ 10000009) (h4 : -1 ≤ b ∧ b ≤ 10000009) : (⟨k, s, v, b⟩ : Act).ok := by
  unfold Act.ok; simp only; omega
theorem to_eq {s : ByteArray} {l : List UInt8} (h : (s.toList == l) = true) : s.data.toList = l := by rw [← ByteArray.toList_eq]; exact beq_iff_eq.1 h
theorem to_ne {s : ByteArray} {l : List UInt8} (h : (s.toList == l) = false) : s.data.toList ≠ l := by rw [← ByteArray.toList_eq]; simpa using h
theorem wrap_dig (n : Int) (h : -1 ≤ n ∧ n ≤ 10000009) : IntKind.i64.wrap n = n := by simp [IntKind.wrap, IntKind.bits, IntKind.signed]; omega
theorem wrap_in (n : Int) (h0 : 0 ≤ n) (h1 : n ≤ 100000) : IntKind.i64.wrap n = n := by simp [IntKind.wrap, IntKind.bits, IntKind.signed]; omega
def Acted (L : List UInt8) (w : World) (e : Ending) (w' : World) : Prop := ∃ a : Act, e = .returned a.agg ∧ a.ok ∧ Serves L a ∧ Below w.heap.size w w'
set_option maxRecDepth 100000 in
set_option maxHeartbeats 2000000 in
theorem raction_any (s : ByteArray) (t : List UInt8) (w : World) (hs : s.size ≤ 10000) (ht : s.data.toList = t ++ [10]) : Calls Tryd.prog 36 #[.string s] w (Acted s.data.toList w) := by
  have HB := Lib.hid ((Below.refl w.heap.size w).alloc (Nat.le_refl _) (.cells #[.int .i64 0, .int .i64 0, .int .i64 0, .int .i64 0] 29))
  have hlen : s.data.toList.length = s.size := by simp
  have hpos : s.size = t.length + 1 := by rw [← hlen, ht]; simp
  have HT := Lib.hid ht
  have HL := Lib.hid hlen
  have NUM := Lib.hid (fun x w h => number_any x w h)
  clear ht hlen
  rcases h1 : (s.toList == [99, 104, 101, 99, 107, 112, 111, 105, 110, 116, 10]) with _ | _
  rotate_left 1
  · have q := Lib.hid (serves_check (to_eq h1))
    go_enter Tryd.func36, Tryd.ntmps36
    go_wp2
    exact bodyPost_ret (v := .agg #[.int .i64 2, .int .i64 0, .int .i64 0, .int .i64 0]) (by simp [results, Tryd.results36, go_sem]) rfl ⟨⟨2, 0, 0, 0⟩, rfl, ok_ints (by omega) (by omega) (by omega) (by omega), q.out, ((Below.refl w.heap.size w).alloc (Nat.le_refl _) _)⟩
  rcases h2 : (s.toList == [114, 101, 99, 111, 118, 101, 114, 10]) with _ | _
  rotate_left 1
  · have q := Lib.hid (serves_recov (to_eq h2))
    go_enter Tryd.func36, Tryd.ntmps36
    go_wp2
    exact bodyPost_ret (v := .agg #[.int .i64 4, .int .i64 0, .int .i64 0, .int .i64 0]) (by simp [results, Tryd.results36, go_sem]) rfl ⟨⟨4, 0, 0, 0⟩, rfl, ok_ints (by omega) (by omega) (by omega) (by omega), q.out, ((Below.refl w.heap.size w).alloc (Nat.le_refl _) _)⟩
  rcases h3 : (s.toList == [99, 114, 97, 115, 104, 10]) with _ | _
  rotate_left 1
  · have q := Lib.hid (serves_crash (to_eq h3))
    go_enter Tryd.func36, Tryd.ntmps36
    go_wp2
    exact bodyPost_ret (v := .agg #[.int .i64 3, .int .i64 0, .int .i64 0, .int .i64 0]) (by simp [results, Tryd.results36, go_sem]) rfl ⟨⟨3, 0, 0, 0⟩, rfl, ok_ints (by omega) (by omega) (by omega) (by omega), q.out, ((Below.refl w.heap.size w).alloc (Nat.le_refl _) _)⟩
  by_cases h6 : 6 < s.size
  rotate_left 1
  · have q : Hid (Serves s.data.toList ⟨0, 0, 0, 0⟩) := Lib.hid (serves_other (to_ne h1) (to_ne h2) (to_ne h3) (fun h => by have := HL.out; omega) (fun h => by have := HL.out; omega) _)
    go_enter Tryd.func36, Tryd.ntmps36
    go_wp2
    exact bodyPost_ret (v := .agg #[.int .i64 0, .int .i64 0, .int .i64 0, .int .i64 0]) (by simp [results, Tryd.results36, go_sem]) rfl ⟨⟨0, 0, 0, 0⟩, rfl, ok_ints (by omega) (by omega) (by omega) (by omega), q.out, ((Below.refl w.heap.size w).alloc (Nat.le_refl _) _)⟩
  have x5 := ext_list s 0 5
  have x6 := ext_list s 0 6
  simp only [List.drop_zero, Nat.sub_zero] at x5 x6
  rcases h4 : ((s.extract 0 5).toList == [115, 116, 101, 112, 32]) with _ | _
  rotate_left 1
  · have e5 := x5.symm.trans (to_eq h4)
    have q := Lib.hid (serves_step e5 (x := (s.extract 5 t.length).data.toList) (by rw [ext_list, HL.out, hpos, Nat.add_sub_cancel]))
    have C := fun w => NUM.out (s.extract 5 t.length) w (by rw [ByteArray.size_extract]; omega)
    have hb := numF_bd (s.extract 5 t.length).data.toList 0 (by omega) (by omega)
    obtain ⟨v, hv⟩ : ∃ v, numF 0 (s.extract 5 t.length).data.toList = v := ⟨_, rfl⟩
    rw [hv] at q hb
    simp only [hv] at C
    have C := Lib.hid C
    clear hv x5 x6 e5
    go_enter Tryd.func36, Tryd.ntmps36
    go_wp2_with (go_at_call 44; with_reducible refine (C.out _).mono ?_; rintro e w2 ⟨rfl, rfl⟩)
    exact bodyPost_ret (v := .agg #[.int .i64 1, .int .i64 v, .int .i64 0, .int .i64 0]) (by simp [results, Tryd.results36, go_sem]) rfl ⟨⟨1, v, 0, 0⟩, rfl, ok_ints (by omega) hb (by omega) (by omega), q.out, ((Below.refl w.heap.size w).alloc (Nat.le_refl _) _)⟩
  have n5 : s.data.toList.take 5 ≠ [115, 116, 101, 112, 32] := fun h => to_ne h4 (x5.trans h)
  rcases h5 : ((s.extract 0 6).toList == [99, 114, 97, 115, 104, 32]) with _ | _
  · have n6 : s.data.toList.take 6 ≠ [99, 114, 97, 115, 104, 32] := fun h => to_ne h5 (x6.trans h)
    have q : Hid (Serves s.data.toList ⟨0, 0, 0, 0⟩) := Lib.hid (serves_other (to_ne h1) (to_ne h2) (to_ne h3) (fun h => n5 h.2) (fun h => n6 h.2) _)
    clear n5 n6 x5 x6
    go_enter Tryd.func36, Tryd.ntmps36
    go_wp2
    exact bodyPost_ret (v := .agg #[.int .i64 0, .int .i64 0, .int .i64 0, .int .i64 0]) (by simp [results, Tryd.results36, go_sem]) rfl ⟨⟨0, 0, 0, 0⟩, rfl, ok_ints (by omega) (by omega) (by omega) (by omega), q.out, ((Below.refl w.heap.size w).alloc (Nat.le_refl _) _)⟩
  have E6 := Lib.hid (x6.symm.trans (to_eq h5))
  clear n5 x5 x6
  go_enter Tryd.func36, Tryd.ntmps36
  go_wp2
  go_loop [3] (fun i => ∃ k : Nat, i = .int .i64 k ∧ 6 ≤ k ∧ k ≤ s.size ∧ (32 : UInt8) ∉ (s.data.toList.drop 6).take (k - 6)) (fun i => s.size - (intOf i).toNat)
  case atStart => exact ⟨6, rfl, Nat.le_refl _, by omega, by simp⟩
  case round =>
    obtain ⟨k, rfl, hk6, hk, hno⟩ := hrel
    by_cases hlt : k < s.size
    · have hkl : k < s.data.toList.length := by rw [HL.out]; exact hlt
      have ex : s.data.toList[k]'hkl = s[k] := by simp; rfl
      by_cases h32 : s[k] = 32
      · have q0 : ((s[k].toNat : Int) == 32) = true := by rw [h32]; rfl
        have hk2 : k + 1 ≤ s.size - 1 := by
          have : k ≠ s.size - 1 := fun h => by
            have : s.data.toList[k]? = some 10 := by rw [HT.out, List.getElem?_append_right (by omega), show k - t.length = 0 by omega]; rfl
            rw [List.getElem?_eq_getElem hkl, ex, h32] at this
            simp at this
          omega
        have q := Lib.hid (serves_two E6.out k hk6 hno (by rw [List.getElem?_eq_getElem hkl, ex, h32]) (x := (s.extract 6 k).data.toList) (y := (s.extract (k + 1) t.length).data.toList) (by rw [ext_list]) (by rw [ext_list, HL.out, hpos, Nat.add_sub_cancel]))
        have C1 := fun w => NUM.out (s.extract 6 k) w (by rw [ByteArray.size_extract]; omega)
        have C2 := fun w => NUM.out (s.extract (k + 1) t.length) w (by rw [ByteArray.size_extract]; omega)
        have b1 := numF_bd (s.extract 6 k).data.toList 0 (by omega) (by omega)
        have b2 := numF_bd (s.extract (k + 1) t.length).data.toList 0 (by omega) (by omega)
        obtain ⟨v1, hv1⟩ : ∃ v, numF 0 (s.extract 6 k).data.toList = v := ⟨_, rfl⟩
        obtain ⟨v2, hv2⟩ : ∃ v, numF 0 (s.extract (k + 1) t.length).data.toList = v := ⟨_, rfl⟩
        rw [hv1] at b1
        rw [hv2] at b2
        rw [hv1, hv2] at q
        simp only [hv1] at C1
        simp only [hv2] at C2
        have C1 := Lib.hid C1
        have C2 := Lib.hid C2
        clear hv1 hv2 ex hno
        have i1 : (k : Int) ≤ (t.length : Int) + 1 := by omega
        have i2 : (6 : Int) ≤ (k : Int) := by omega
        have i3 : (k : Int) + 1 ≤ (t.length : Int) := by omega
        have i4 : (t.length : Int) ≤ (t.length : Int) + 1 := by omega
        have i5 : (0 : Int) ≤ (k : Int) + 1 := by omega
        have j1 : IntKind.i64.wrap (t.length : Int) = (t.length : Int) := wrap_in _ (by omega) (by omega)
        have j2 : IntKind.i64.wrap ((k : Int) + 1) = (k : Int) + 1 := wrap_in _ (by omega) (by omega)
        go_wp2
        have hb0 : (w.alloc (.cells #[.int .i64 0, .int .i64 0, .int .i64 0, .int .i64 0] 29)).heap[w.heap.size]? = some (.cells #[.int .i64 0, .int .i64 0, .int .i64 0, .int .i64 0] 29 (0, 0)) := heap_alloc_new w _
        have HB0 := HB.out
        generalize hW : w.alloc (.cells #[.int .i64 0, .int .i64 0, .int .i64 0, .int .i64 0] 29) = W at *
        clear hW HB
        refine wp_region_still_tail 13 (by kernel_rfl) (by kernel_rfl) ?_
        simp only [List.take_succ_cons, List.take_zero, List.drop_succ_cons, List.drop_zero]
        have B1 : Below w.heap.size w { heap := W.heap, tape := W.tape, drawn := W.drawn + 1, os := W.os, output := W.output } := ⟨HB0.os, HB0.tape, HB0.output, HB0.size, HB0.block⟩
        obtain ⟨D, hD⟩ : ∃ D : World, ({ heap := W.heap, tape := W.tape, drawn := W.drawn + 1, os := W.os, output := W.output } : World) = D := ⟨_, rfl⟩
        have hb : D.heap[w.heap.size]? = some (.cells #[.int .i64 0, .int .i64 0, .int .i64 0, .int .i64 0] 29 (0, 0)) := by rw [← hD]; exact hb0
        rw [hD] at B1 ⊢
        clear hD HB0 hb0
        repeat still_step
        still_call ((C1.out _).mono fun _ _ h => ⟨h.1, h.2.symm⟩)
        repeat still_step
        still_call ((C2.out _).mono fun _ _ h => ⟨h.1, h.2.symm⟩)
        repeat still_step
        refine wpStill_nil ?_
        have c0 := Joins.cell_of_block hb 0
        have c1 := Joins.cell_of_block hb 1
        have c2 := Joins.cell_of_block hb 2
        have c3 := Joins.cell_of_block hb 3
        have f0 := Joins.unfrozen_of_block hb 0
        have f1 := Joins.unfrozen_of_block hb 1
        have f2 := Joins.unfrozen_of_block hb 2
        have f3 := Joins.unfrozen_of_block hb 3
        obtain ⟨X, hX, x0, x1, x2, x3, xb⟩ := set4 hb (.int .i64 3) (.int .i64 0) (.int .i64 v1) (.int .i64 v2) B1 (Nat.le_refl _)
        have HXB := Lib.hid xb
        have HX := Lib.hid hX
        clear hb hX xb B1
        go_wp2_with fail
        rw [HX.out]
        clear c0 c1 c2 c3 f0 f1 f2 f3
        exact bodyPost_ret (v := .agg #[.int .i64 3, .int .i64 0, .int .i64 v1, .int .i64 v2]) (by simp [results, Tryd.results36, go_sem, x0, x1, x2, x3]) rfl ⟨⟨3, 0, v1, v2⟩, rfl, ok_ints (by omega) (by omega) b1 b2, q.out, HXB.out⟩
      · have q0 : ((s[k].toNat : Int) == 32) = false := by
          have : s[k].toNat ≠ 32 := fun h => h32 (UInt8.toNat_inj.1 h)
          simp; omega
        have HN : Hid ((32 : UInt8) ∉ (s.data.toList.drop 6).take (k + 1 - 6)) := Lib.hid (by
          rw [show k + 1 - 6 = k - 6 + 1 by omega, List.take_succ_eq_append_getElem (by rw [List.length_drop]; omega), List.mem_append, not_or]
          refine ⟨hno, ?_⟩
          rw [List.mem_singleton, List.getElem_drop]
          simp only [show 6 + (k - 6) = k by omega]
          rw [ex]; exact fun h => h32 h.symm)
        clear ex hno
        go_wp2
        go_round
        case rel => exact ⟨k + 1, by go_num, by omega, by omega, HN.out⟩
        case measure => simp [intOf]; omega
    · obtain rfl : k = s.size := by omega
      have q : Hid (Serves s.data.toList ⟨0, 0, 0, 0⟩) := Lib.hid (serves_none E6.out (by rw [List.take_of_length_le (by rw [List.length_drop, HL.out]; exact Nat.le_refl _)] at hno; exact hno) _)
      clear hno
      go_wp2
      exact bodyPost_ret (v := .agg #[.int .i64 0, .int .i64 0, .int .i64 0, .int .i64 0]) (by simp [results, Tryd.results36, go_sem]) rfl ⟨⟨0, 0, 0, 0⟩, rfl, ok_ints (by omega) (by omega) (by omega) (by omega), q.out, ((Below.refl w.heap.size w).alloc (Nat.le_refl _) _)⟩
end Go.Proofs.YthageombfifffaaDoor
