/- The literals of a row. -/
import Derived.Test.YtkigdglipoeaaaaDoorFmt
import Derived.Deep.OwnRows
namespace Go.Proofs.YtkigdglipoeaaaaDoor
open Go.ChangeShapes Go.WideShapes Go.ChangeAt Go.RowKit Go.ChangeMaps

theorem Tryd.info9 : (Tryd.prog.info? 9).map (fun i => (i.zero, i.size, i.bytes)) = some (some (.string ⟨#[]⟩), 1, 16) := by kernel_rfl
def fs (R : List V3) (j : Nat) : ByteArray := ⟨(fmtV (R.getD j ⟨0, 0, ⟨#[]⟩⟩)).toArray⟩
theorem fs_at (R : List V3) (j : Nat) (h : j < R.length) : fs R j = ⟨(fmtV R[j]).toArray⟩ := by
  unfold fs; simp [List.getD, List.getElem?_eq_getElem h]
/-- The first k strings are there. -/
def rowL (R : List V3) (n k : Nat) : Array Value := ((List.range n).map fun j => if j < k then Value.string (fs R j) else .string ⟨#[]⟩).toArray
theorem rowL_size (R : List V3) (n k : Nat) : (rowL R n k).size = n := by simp [rowL]
theorem rowL_get (R : List V3) (n k j : Nat) (h : j < n) : (rowL R n k)[j]? = some (if j < k then Value.string (fs R j) else .string ⟨#[]⟩) := by
  simp [rowL, h]
theorem rowL_zero (R : List V3) (n : Nat) : madeCells #[Value.string ⟨#[]⟩] n = rowL R n 0 := by
  have hs : (madeCells #[Value.string ⟨#[]⟩] n).size = n := by simp [madeCells]
  apply Array.ext
  · rw [hs, rowL_size]
  · intro i h1 h2
    simp [madeCells, rowL, Nat.mod_one]
theorem rowL_set (R : List V3) (n k : Nat) (h : k < n) : (rowL R n k).setIfInBounds k (.string (fs R k)) = rowL R n (k + 1) := by
  apply Array.ext
  · simp [rowL_size]
  · intro i h1 h2
    have hi : i < n := by rw [rowL_size] at h2; exact h2
    rw [Array.getElem_setIfInBounds (by rw [rowL_size]; exact hi)]
    simp only [rowL, List.getElem_toArray, List.getElem_map, List.getElem_range]
    by_cases hk : k = i
    · subst hk; simp
    · rw [if_neg hk]
      by_cases h3 : i < k
      · rw [if_pos h3, if_pos (by omega)]
      · rw [if_neg h3, if_neg (by omega)]
theorem decDigits_ne (u : Nat) : Lib.decDigits u ≠ [] := by
  unfold Lib.decDigits; split <;> simp
theorem itoa_ne (n : Int) : Lib.itoa n ≠ [] := by
  unfold Lib.itoa; split
  · simp
  · exact decDigits_ne _
theorem fmtV_nil (x : V3) : fmtV x = [] ↔ x.valid = false := by
  rw [fmtV_eq]
  cases hv : x.valid
  · simp
  · rw [if_neg (by decide)]
    split
    · simp [itoa_ne]
    · split <;> simp
theorem fmtV_len (x : V3) (hx : x.ok) : (fmtV x).length ≤ 34 := by
  rw [fmtV_eq]
  cases hv : x.valid
  · simp
  · rw [if_neg (by decide)]
    have h1 := valid_size hv
    split
    · have := Lib.itoa_length_le x.n (by have := hx.2.2.1; omega) (by have := hx.2.2.2.1; omega); omega
    · split
      · have := dbl_len x.s.data.toList
        have e : x.s.data.toList.length = x.s.size := by simp
        rw [List.length_cons, List.length_append, List.length_singleton]; omega
      · simp
/-- The text of a row. -/
def rowT (R : List V3) : List UInt8 := if R.all V3.valid then 40 :: (Lib.join (R.map fmtV) [44, 32] ++ [41]) else []
theorem join_len (l : List (List UInt8)) (m : Nat) (h : ∀ x ∈ l, x.length ≤ m) : (Lib.join l [44, 32]).length ≤ (m + 2) * l.length := by
  unfold Lib.join
  induction l with
  | nil => simp [List.intercalate]
  | cons a l ih =>
    have ih := ih fun x hx => h x (List.mem_cons_of_mem _ hx)
    have ha := h a (List.mem_cons_self ..)
    cases l with
    | nil => simp [List.intercalate]; omega
    | cons b l =>
      rw [show ([44, 32] : List UInt8).intercalate (a :: b :: l) = a ++ [44, 32] ++ ([44, 32] : List UInt8).intercalate (b :: l) by simp [List.intercalate, List.intersperse]]
      rw [List.length_append, List.length_append, List.length_cons (a := a), Nat.mul_add, Nat.mul_one]
      have : ([44, 32] : List UInt8).length = 2 := rfl
      omega
theorem all_step (R : List V3) (k : Nat) (h : k < R.length) (hp : (R.take k).all V3.valid = true) : (R.take (k + 1)).all V3.valid = R[k].valid := by
  rw [List.take_succ_eq_append_getElem h, List.all_append, hp]; simp
theorem all_no (R : List V3) (k : Nat) (h : k < R.length) (hv : R[k].valid = false) : R.all V3.valid = false := by
  rw [Bool.eq_false_iff]; intro ha
  have := List.all_eq_true.1 ha R[k] (List.getElem_mem _); rw [hv] at this; cases this
set_option maxRecDepth 100000 in
set_option maxHeartbeats 1000000 in
theorem VFormatRow_any (A : Option Addr) (n c : Nat) (R : List V3) (w : World) (hE : Env w) (hr : RowAt w A n R) (hn : n ≤ 1000000) (hR : ∀ x ∈ R, x.ok) :
    Calls Tryd.prog 29 #[.slice A n c] w fun e w' => e = .returned (.string ⟨(rowT R).toArray⟩) ∧ Below w.heap.size w w' := by
  have hmk := fun w => run_make_row' (P := Tryd.prog) 57 9 (.string ⟨#[]⟩) 16 Tryd.underlying57 Tryd.info9 rfl .i64 .i64 n (by omega) (by omega) w
  rw [rowL_zero R n] at hmk
  have HE := Lib.hid hE
  clear hE
  rcases Nat.eq_zero_or_pos n with h0 | h0
  · subst h0
    obtain rfl : R = [] := List.eq_nil_of_length_eq_zero hr.1
    have hmk0 : ∀ w, (Instr.makeSlice 57 (.int .i64 0) (.int .i64 0)).run Tryd.prog w = .ok (.slice (some ⟨w.heap.size, 0, none⟩) 0 0) (w.alloc (.cells (rowL [] 0 0) 9)) := hmk
    clear hmk
    go_enter Tryd.func29, Tryd.ntmps29
    go_wp2
    refine wp_loop_rounds 1 ?_
    rw [rounds_succ]
    go_wp2_with (go_at_call 48; refine (Tryd.strings_Join_none _ _ _ _).mono ?_; rintro e w' ⟨rfl, rfl⟩)
    go_ret
    exact ⟨rfl, (Below.refl _ _).alloc (Nat.le_refl _) _⟩
  · obtain ⟨b, off, rfl, hb, hc⟩ := hr.2 h0
    have HL := Lib.hid hr.1
    clear hr
    go_enter Tryd.func29, Tryd.ntmps29
    go_wp2
    go_loopw [11] (fun i wr => ∃ k : Nat, k ≤ n ∧ i = .int .i64 k ∧ wr.heap[w.heap.size]? = some (.cells (rowL R n k) 9 (0, 0)) ∧ (R.take k).all V3.valid = true ∧ Below w.heap.size w wr) (fun i _ => n - (intOf i).toNat)
    case atStart => exact ⟨0, Nat.zero_le _, rfl, by show (w.heap.push _)[w.heap.size]? = _; simp, rfl, (Below.refl _ _).alloc (Nat.le_refl _) _⟩
    case round =>
      obtain ⟨k, hk, rfl, hh, hv, hB⟩ := hrel
      by_cases hlt : k < n
      · have hkR : k < R.length := by rw [HL.out]; exact hlt
        obtain ⟨c0, c1, c2⟩ := hc k hkR
        have c0 := (hB.cell (p := ⟨b, off + k * 3, none⟩) hb).trans c0
        have c1 := (hB.cell (p := ⟨b, off + k * 3 + 1, none⟩) hb).trans c1
        have c2 := (hB.cell (p := ⟨b, off + k * 3 + 2, none⟩) hb).trans c2
        have hx := hR R[k] (List.getElem_mem _)
        have H1 := Lib.hid (all_step R k hkR hv)
        have H2 := Lib.hid (all_no R k hkR)
        have H3 := Lib.hid (rowL_set R n k hlt)
        have H4 := Lib.hid (fs_at R k hkR)
        have H5 := Lib.hid (fmtV_nil R[k])
        have HB := Lib.hid hB
        have HH := Lib.hid hh
        clear hv hB hh
        generalize R[k] = x at *
        rcases x with ⟨xk, xn, xs⟩
        simp only at c0 c1 c2
        have hx : -9223372036854775808 ≤ xn ∧ xn ≤ 9223372036854775807 ∧ xs.size ≤ 140737488351232 := ⟨hx.2.2.1, hx.2.2.2.1, hx.2.2.2.2⟩
        have HF := Lib.hid (fun w hE => VFormat_any xk xn xs w hE hx.1 hx.2.1 (by omega))
        obtain ⟨f, hf⟩ : ∃ f : ByteArray, (⟨(fmtV ⟨xk, xn, xs⟩).toArray⟩ : ByteArray) = f := ⟨_, rfl⟩
        rw [hf] at HF H4
        go_wp2_with fail
        have hB1 := Lib.hid (HB.out.alloc HB.out.size (.cells #[.int .i64 xk, .int .i64 xn, .string xs] 23))
        refine (HF.out _ (HE.out.below hB1.out)).mono ?_
        rintro e w2 ⟨rfl, hb2⟩
        have hs2 := hB1.out.size
        have hh2 : w2.heap[w.heap.size]? = some (.cells (rowL R n k) 9 (0, 0)) := by
          have hlt2 : w.heap.size < wr.heap.size := (Array.getElem?_eq_some_iff.1 HH.out).1
          rw [hb2.block _ (by simp; omega)]
          show (wr.heap.push _)[w.heap.size]? = _
          rw [Array.getElem?_push, if_neg (by omega)]
          exact HH.out
        have hf2 := Joins.unfrozen_of_block hh2
        have p1 := (Joins.cell_of_block hh2 k).trans (rowL_get R n k k hlt)
        rw [if_neg (Nat.lt_irrefl _)] at p1
        have q1 := (Joins.cell_of_block (Joins.block_setCell hh2 (i := k) (.string f)) k).trans (by rw [Array.getElem?_setIfInBounds_self_of_lt (by rw [rowL_size]; exact hlt)])
        have hh3 := (Joins.block_setCell hh2 (i := k) (.string f))
        have HH3 := Lib.hid hh3
        have HB2 := Lib.hid ((hB1.out.trans (hb2.mono hs2)).setCell (p := ⟨w.heap.size, k, none⟩) (Nat.le_refl _) (.string f))
        have E := empty_list f
        clear hh2 hh3 hb2
        cases hv : (V3.valid ⟨xk, xn, xs⟩)
        · have hz : f.size = 0 := by
            rw [← hf, H5.out.2 hv]; rfl
          rw [decide_eq_true hz] at E
          have HR := H2.out hv
          have hn2 : rowT R = [] := by unfold rowT; rw [HR]; rfl
          go_wp2
          go_ret
          exact ⟨by rw [hn2]; rfl, HB2.out⟩
        · have hz : ¬ f.size = 0 := by
            rw [← hf]; intro h
            have : fmtV ⟨xk, xn, xs⟩ = [] := by simpa [ByteArray.size] using h
            rw [H5.out.1 this] at hv; cases hv
          rw [decide_eq_false hz] at E
          have R1 : (w2.setCell ⟨w.heap.size, k, none⟩ (.string f)).heap[w.heap.size]? = some (.cells (rowL R n (k + 1)) 9 (0, 0)) := by
            rw [HH3.out, ← H3.out, H4.out]
          have R2 := H1.out.trans hv
          have R3 := Lib.hid R1
          clear R1
          go_wp2
          go_roundw
          case rel => exact ⟨k + 1, by omega, by go_num, R3.out, R2, HB2.out⟩
          case measure => simp [intOf]; omega
      · obtain rfl : k = n := by omega
        have HB := Lib.hid hB
        have hall : R.all V3.valid = true := by rw [← hv, List.take_of_length_le (by rw [HL.out]; exact Nat.le_refl _)]
        have hcells : ∀ (j : Nat) x, (R.map fun x => (⟨(fmtV x).toArray⟩ : ByteArray))[j]? = some x → wr.cell? ⟨w.heap.size, 0 + j, none⟩ = some (.string x) := by
          intro j x hx
          rw [List.getElem?_map, Option.map_eq_some_iff] at hx
          obtain ⟨y, hy, rfl⟩ := hx
          obtain ⟨hj, rfl⟩ := List.getElem?_eq_some_iff.1 hy
          rw [Nat.zero_add, Joins.cell_of_block hh, rowL_get R k k j (by rw [← HL.out]; exact hj), if_pos (by rw [← HL.out]; exact hj), fs_at R j hj]
        have hlt2 : w.heap.size < wr.heap.size := (Array.getElem?_eq_some_iff.1 hh).1
        have hmap : ((R.map fun x => (⟨(fmtV x).toArray⟩ : ByteArray)).map (·.data.toList)) = R.map fmtV := by
          rw [List.map_map]; rfl
        have hjl := join_len (R.map fmtV) 34 (by
          intro x hx
          obtain ⟨y, hy, rfl⟩ := List.mem_map.1 hx
          exact fmtV_len y (hR y hy))
        rw [List.length_map, HL.out] at hjl
        have hj48 := Tryd.strings_Join w.heap.size 0 k (R.map fun x => (⟨(fmtV x).toArray⟩ : ByteArray)) ⟨#[44, 32]⟩ wr hcells hlt2 (by rw [List.length_map, HL.out]; omega) (by rw [List.length_map, HL.out]; exact Nat.le_refl _) (by
          rw [hmap]; show (Lib.join (R.map fmtV) [44, 32]).length ≤ _; omega)
        rw [hmap, List.length_map, HL.out] at hj48
        change Calls Tryd.prog 48 #[.slice (some ⟨w.heap.size, 0, none⟩) k k, .string ⟨#[44, 32]⟩] wr fun e w' => e = .returned (.string ⟨(Lib.join (R.map fmtV) [44, 32]).toArray⟩) ∧ Below wr.heap.size wr w' at hj48
        obtain ⟨j, hj⟩ : ∃ j : ByteArray, (⟨(Lib.join (R.map fmtV) [44, 32]).toArray⟩ : ByteArray) = j := ⟨_, rfl⟩
        have hjs : j.size ≤ 36000000 := by rw [← hj]; show (Lib.join (R.map fmtV) [44, 32]).toArray.size ≤ _; rw [List.size_toArray]; omega
        have HT : Hid ((⟨(rowT R).toArray⟩ : ByteArray) = (⟨#[40]⟩ : ByteArray) ++ j ++ ⟨#[41]⟩) := by
          refine Lib.hid ?_
          rw [← hj]
          unfold rowT
          rw [if_pos hall]
          apply ByteArray.ext
          simp
        rw [hj] at hj48
        have HJ := Lib.hid hj48
        have s1 : (⟨#[40]⟩ : ByteArray).size = 1 := rfl
        have s2 : ((⟨#[40]⟩ : ByteArray) ++ j).size ≤ 36000001 := by rw [ByteArray.size_append]; omega
        clear hj48 hj hjl hmap hcells hh hB hv hall
        go_wp2_with (go_at_call 48; refine HJ.out.mono ?_; rintro e w2 ⟨rfl, hb2⟩)
        go_ret
        exact ⟨by rw [HT.out]; first | rfl | simp [ByteArray.append_assoc], HB.out.trans (hb2.mono HB.out.size)⟩
end Go.Proofs.YtkigdglipoeaaaaDoor
