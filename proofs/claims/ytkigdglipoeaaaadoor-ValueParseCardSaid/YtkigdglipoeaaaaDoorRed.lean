/- A literal read by the reference. -/
import Derived.Test.YtkigdglipoeaaaaDoorPse
namespace Go.Proofs.YtkigdglipoeaaaaDoor
open Go.ChangeShapes Go.WideShapes Go.ChangeAt Go.RowKit Go.ChangeMaps

def redV (l : List UInt8) : V3 × Bool := if fmtV (readC l) = l then (readC l, true) else (z3, false)
def redE (x : V3 × Bool) : Ending := .returned (.tuple #[aggV x.1, .bool x.2])
theorem Read_null (w : World) : Calls Tryd.prog 31 #[.string ⟨#[78, 85, 76, 76]⟩] w fun e w' => e = redE (z3, true) ∧ Below w.heap.size w w' := by
  have C : ∀ w, Calls Tryd.prog 28 #[.agg #[.int .i64 0, .int .i64 0, .string ⟨#[]⟩]] w fun e w' => e = .returned (.string ⟨#[78, 85, 76, 76]⟩) ∧ Below w.heap.size w w' := fun w => by
    have := Literal_any 0 0 ⟨#[]⟩ w (by decide) (by decide) (by decide)
    rw [show fmtV ⟨0, 0, ⟨#[]⟩⟩ = [78, 85, 76, 76] by rw [fmtV_eq]; rfl] at this
    exact this
  have C := Lib.hid C
  have HB1 := Lib.hid (((Below.refl w.heap.size w).alloc (Nat.le_refl _) (.cells #[.int .i64 0, .int .i64 0, .string ⟨#[]⟩] 23)).alloc (by simp) (.cells #[.int .i64 0, .int .i64 0, .string ⟨#[]⟩] 23))
  go_enter Tryd.func31, Tryd.ntmps31
  go_wp2_with fail
  refine (C.out _).mono ?_
  rintro e w9 ⟨rfl, hb⟩
  have e0 := keepcell hb (pastcell (x := .cells #[.int .i64 0, .int .i64 0, .string ⟨#[]⟩] 23) (newcell (w := w) (cs := #[.int .i64 0, .int .i64 0, .string ⟨#[]⟩]) (T := 23) (g := w.heap.size) 0 (.int .i64 0) rfl rfl))
  have e1 := keepcell hb (pastcell (x := .cells #[.int .i64 0, .int .i64 0, .string ⟨#[]⟩] 23) (newcell (w := w) (cs := #[.int .i64 0, .int .i64 0, .string ⟨#[]⟩]) (T := 23) (g := w.heap.size) 1 (.int .i64 0) rfl rfl))
  have e2 := keepcell hb (pastcell (x := .cells #[.int .i64 0, .int .i64 0, .string ⟨#[]⟩] 23) (newcell (w := w) (cs := #[.int .i64 0, .int .i64 0, .string ⟨#[]⟩]) (T := 23) (g := w.heap.size) 2 (.string ⟨#[]⟩) rfl rfl))
  have d0 := keepcell hb (newcell (w := w.alloc (.cells #[.int .i64 0, .int .i64 0, .string ⟨#[]⟩] 23)) (cs := #[.int .i64 0, .int .i64 0, .string ⟨#[]⟩]) (T := 23) (g := w.heap.size + 1) 0 (.int .i64 0) (by simp) rfl)
  have d1 := keepcell hb (newcell (w := w.alloc (.cells #[.int .i64 0, .int .i64 0, .string ⟨#[]⟩] 23)) (cs := #[.int .i64 0, .int .i64 0, .string ⟨#[]⟩]) (T := 23) (g := w.heap.size + 1) 1 (.int .i64 0) (by simp) rfl)
  have d2 := keepcell hb (newcell (w := w.alloc (.cells #[.int .i64 0, .int .i64 0, .string ⟨#[]⟩] 23)) (cs := #[.int .i64 0, .int .i64 0, .string ⟨#[]⟩]) (T := 23) (g := w.heap.size + 1) 2 (.string ⟨#[]⟩) (by simp) rfl)
  have f0 := keepfree (by simp; omega) hb (keepfree (by simp) (Joins.below_alloc1 (w.alloc (.cells #[.int .i64 0, .int .i64 0, .string ⟨#[]⟩] 23)) (.cells #[.int .i64 0, .int .i64 0, .string ⟨#[]⟩] 23)) (newfree (w := w) (cs := #[.int .i64 0, .int .i64 0, .string ⟨#[]⟩]) (T := 23) (g := w.heap.size) rfl))
  have HB9 := Lib.hid (HB1.out.trans (hb.mono HB1.out.size))
  go_wp2
  refine bodyPost_ret (v := .tuple #[.agg #[.int .i64 0, .int .i64 0, .string ⟨#[]⟩], .bool true]) (by simp [results, Tryd.results31, go_sem, e0, e1, e2]) rfl ⟨rfl, ?_⟩
  exact ((HB9.out.setCell (by exact Nat.le_refl _) _).setCell (by exact Nat.le_refl _) _).setCell (by exact Nat.le_refl _) _
theorem strip_step (l : List UInt8) (j : Nat) (h : j + 1 < l.length) : strip (l.drop j) = if l[j] = 39 then l[j] :: strip (l.drop (j + 2)) else l[j] :: strip (l.drop (j + 1)) := by
  rw [List.drop_eq_getElem_cons (show j < l.length by omega), List.drop_eq_getElem_cons h, strip]
theorem strip_end (l : List UInt8) (j : Nat) (h : l.length ≤ j + 1) : strip (l.drop j) = [] := by
  rcases hd : l.drop j with _ | ⟨a, _ | ⟨b, m⟩⟩
  · rfl
  · rfl
  · have := congrArg List.length hd
    rw [List.length_drop] at this
    simp at this
    omega
theorem strip_len (l : List UInt8) : (strip l).length ≤ l.length := by
  match l with
  | [] => exact Nat.le_refl _
  | [a] => exact Nat.zero_le _
  | a :: b :: m =>
    rw [strip]
    split
    · have := strip_len m; simp only [List.length_cons]; omega
    · have := strip_len (b :: m); simp only [List.length_cons] at this ⊢; omega
theorem alloc2_new (w : World) (x y : Obj) : ((w.alloc x).alloc y).heap[w.heap.size + 1]? = some y := by
  show ((w.heap.push x).push y)[w.heap.size + 1]? = _
  have e : w.heap.size + 1 = (w.heap.push x).size := by simp
  rw [e, Array.getElem?_push_size]
theorem alloc2_old (w : World) (x y : Obj) : ((w.alloc x).alloc y).heap[w.heap.size]? = some x := by
  show ((w.heap.push x).push y)[w.heap.size]? = _
  simp [Array.getElem?_push]
set_option maxHeartbeats 2000000 in
set_option maxRecDepth 100000 in
theorem Read_text (s : ByteArray) (w : World) (h39 : s.data.toList.head? = some 39) (hs : s.size ≤ 1000) :
    Calls Tryd.prog 31 #[.string s] w fun e w' => e = redE (redV s.data.toList) ∧ Below w.heap.size w w' := by
  have hlen : s.data.toList.length = s.size := by simp
  have hl0 : 0 < s.data.toList.length := by
    rcases hd : s.data.toList with _ | ⟨a, l⟩
    · rw [hd] at h39; cases h39
    · simp
  have h00 : 0 < s.size := by omega
  have ex : ∀ (j : Nat) (h : j < s.size), s.data.toList[j]'(by rw [hlen]; exact h) = s[j] := fun j h => by simp; rfl
  have e39 : s[0] = 39 := by
    rw [← ex 0 h00]; rw [List.head?_eq_getElem?, List.getElem?_eq_getElem hl0] at h39; exact Option.some.inj h39
  have q : ((s[0].toNat : Int) == 39) = true := by rw [e39]; rfl
  have q2 : decide ((s.size : Int) > 0) = true := decide_eq_true (by omega)
  have nn : (s.toList == [78, 85, 76, 76]) = false := by
    rw [beq_eq_false_iff_ne, ByteArray.toList_eq]; intro h; rw [h] at h39; exact absurd h39 (by decide)
  have HX := Lib.hid ex
  have HLn := Lib.hid hlen
  have hc : readC s.data.toList = ⟨2, 0, ⟨(strip (s.data.toList.drop 1)).toArray⟩⟩ := by
    unfold readC
    rw [if_neg (by intro h; rw [h] at h39; exact absurd h39 (by decide)), if_pos h39]
  have hsl := strip_len (s.data.toList.drop 1)
  rw [List.length_drop] at hsl
  obtain ⟨r, hr⟩ : ∃ r : ByteArray, (⟨(strip (s.data.toList.drop 1)).toArray⟩ : ByteArray) = r := ⟨_, rfl⟩
  have hrl : r.data.toList = strip (s.data.toList.drop 1) := by rw [← hr]
  have hrs : r.size ≤ 1000 := by
    have e : r.data.toList.length = r.size := by simp
    rw [← e, hrl]; omega
  rw [hr] at hc
  have HLi := fun w => Literal_any 2 0 r w (by decide) (by decide) (by omega)
  obtain ⟨f, hf⟩ : ∃ f : ByteArray, (⟨(fmtV ⟨2, 0, r⟩).toArray⟩ : ByteArray) = f := ⟨_, rfl⟩
  have hfl : fmtV ⟨2, 0, r⟩ = f.data.toList := by rw [← hf]
  have hq : redV s.data.toList = if f.data.toList = s.data.toList then (⟨2, 0, r⟩, true) else (z3, false) := by
    unfold redV; rw [hc, hfl]
  rw [← show f.toList = f.data.toList from ByteArray.toList_eq .., ← show s.toList = s.data.toList from ByteArray.toList_eq ..] at hq
  rw [hf] at HLi
  have HQ := Lib.hid hq
  have HLi := Lib.hid HLi
  have HR := Lib.hid hrl
  rw [← show s.toList = s.data.toList from ByteArray.toList_eq ..]
  generalize redV s.toList = rv at *
  clear hq hf hfl hrl hr hc hsl ex
  have HB1 := Lib.hid (((Below.refl w.heap.size w).alloc (Nat.le_refl _) (.cells #[.int .i64 0, .int .i64 0, .string ⟨#[]⟩] 23)).alloc (by simp) (.cells #[.int .i64 0, .int .i64 0, .string ⟨#[]⟩] 23))
  go_enter Tryd.func31, Tryd.ntmps31
  go_wp2
  go_loopw [5] (fun i wr => ∃ (j : Nat) (acc : ByteArray), i = .int .i64 j ∧ 1 ≤ j ∧ j ≤ s.size + 1 ∧ wr.heap[w.heap.size + 1]? = some (.cells #[.int .i64 2, .int .i64 0, .string acc] 23 (0, 0)) ∧ wr.heap[w.heap.size]? = some (.cells #[.int .i64 0, .int .i64 0, .string ⟨#[]⟩] 23 (0, 0)) ∧ r.data.toList = acc.data.toList ++ strip (s.data.toList.drop j) ∧ acc.size ≤ j ∧ Below w.heap.size w wr) (fun i _ => s.size + 1 - (intOf i).toNat)
  case atStart =>
    refine ⟨1, ⟨#[]⟩, rfl, by omega, by omega, ?_, ?_, HR.out, by decide, ?_⟩
    · exact alloc2_new _ _ _
    · exact alloc2_old _ _ _
    · exact ((Below.refl w.heap.size w).alloc (Nat.le_refl _) _).alloc (by simp) _
  case round =>
    obtain ⟨j, acc, rfl, h1, h2, hg1, hg0, hst, hac, hB⟩ := hrel
    have d0 := Joins.cell_of_block hg1 0
    have d1 := Joins.cell_of_block hg1 1
    have d2 : wr.cell? ⟨w.heap.size + 1, 2, none⟩ = some (.string acc) := Joins.cell_of_block hg1 2
    have g0f := Joins.unfrozen_of_block hg1
    by_cases hlt : j + 1 < s.size
    · have t1 : decide ((j : Int) + 1 < s.size) = true := decide_eq_true (by omega)
      have hjs : j < s.size := by omega
      have hxs : (s.extract j (j + 1)).size = 1 := by rw [ByteArray.size_extract]; omega
      have hxs2 : (acc ++ s.extract j (j + 1)).size ≤ 1003 := by rw [ByteArray.size_append]; omega
      have h1b := one_byte s j hjs
      have hst2 := hst.trans (by rw [strip_step s.data.toList j (by omega), HX.out j hjs])
      have hblk := Joins.block_setCell hg1 (i := 2) (.string (acc ++ s.extract j (j + 1)))
      have hoth : (wr.setCell ⟨w.heap.size + 1, 2, none⟩ (.string (acc ++ s.extract j (j + 1)))).heap[w.heap.size]? = some (.cells #[.int .i64 0, .int .i64 0, .string ⟨#[]⟩] 23 (0, 0)) := by
        rw [heap_setCell_other _ _ _ _ (by simp)]; exact hg0
      have HBL := Lib.hid hblk
      have HOT := Lib.hid hoth
      have HB2 := Lib.hid (hB.setCell (p := ⟨w.heap.size + 1, 2, none⟩) (by simp) (.string (acc ++ s.extract j (j + 1))))
      have H1B := Lib.hid h1b
      clear hblk hoth h1b hst hB hg0 hg1
      by_cases h39b : s[j] = 39
      · have q3 : ((s[j].toNat : Int) == 39) = true := by rw [h39b]; rfl
        rw [if_pos h39b] at hst2
        have HS : Hid (r.data.toList = (acc ++ s.extract j (j + 1)).data.toList ++ strip (s.data.toList.drop (j + 2))) := Lib.hid (by
          rw [hst2, ByteArray.data_append, Array.toList_append, H1B.out, List.append_assoc]; rfl)
        clear hst2 h39b
        go_wp2
        go_region
        all_goals
          go_wp2
          go_roundw
          case rel => exact ⟨j + 2, acc ++ s.extract j (j + 1), by go_num, by omega, by omega, HBL.out, HOT.out, HS.out, by rw [ByteArray.size_append]; omega, ⟨HB2.out.os, HB2.out.tape, HB2.out.output, HB2.out.size, HB2.out.block⟩⟩
          case measure => simp [intOf]; omega
      · have q3 : ((s[j].toNat : Int) == 39) = false := by
          rw [beq_eq_false_iff_ne]; intro e
          exact h39b (UInt8.toNat_inj.1 (by have : (39 : UInt8).toNat = 39 := rfl; omega))
        rw [if_neg h39b] at hst2
        have HS : Hid (r.data.toList = (acc ++ s.extract j (j + 1)).data.toList ++ strip (s.data.toList.drop (j + 1))) := Lib.hid (by
          rw [hst2, ByteArray.data_append, Array.toList_append, H1B.out, List.append_assoc]; rfl)
        clear hst2 h39b
        go_wp2
        go_region
        all_goals
          go_wp2
          go_roundw
          case rel => exact ⟨j + 1, acc ++ s.extract j (j + 1), by go_num, by omega, by omega, HBL.out, HOT.out, HS.out, by rw [ByteArray.size_append]; omega, ⟨HB2.out.os, HB2.out.tape, HB2.out.output, HB2.out.size, HB2.out.block⟩⟩
          case measure => simp [intOf]; omega
    · have t1 : decide ((j : Int) + 1 < s.size) = false := decide_eq_false (by omega)
      have hrac : r = acc := by
        rw [strip_end s.data.toList j (by omega), List.append_nil] at hst
        exact ByteArray.ext (Array.toList_inj.1 hst)
      subst hrac
      have e0 : wr.cell? ⟨w.heap.size, 0, none⟩ = some (.int .i64 0) := Joins.cell_of_block hg0 0
      have e1 : wr.cell? ⟨w.heap.size, 1, none⟩ = some (.int .i64 0) := Joins.cell_of_block hg0 1
      have e2 : wr.cell? ⟨w.heap.size, 2, none⟩ = some (.string ⟨#[]⟩) := Joins.cell_of_block hg0 2
      have f0 := Joins.unfrozen_of_block hg0
      have glt : w.heap.size < wr.heap.size := (Array.getElem?_eq_some_iff.1 hg0).1
      have HBc := Lib.hid hB
      clear hg0 hg1 hst hB
      go_wp2_with fail
      refine (HLi.out _).mono ?_
      rintro e w9 ⟨rfl, hb⟩
      have e0 := keepcell hb e0
      have e1 := keepcell hb e1
      have e2 := keepcell hb e2
      have d0 := keepcell hb d0
      have d1 := keepcell hb d1
      have d2 := keepcell hb d2
      have f0 := keepfree glt hb f0
      have HB9 := Lib.hid (HBc.out.trans (hb.mono HBc.out.size))
      clear hb
      by_cases hq : f.toList = s.toList
      · have q := HQ.out.trans (if_pos hq)
        have h2 : (f.toList == s.toList) = true := by simpa using hq
        have h3 : (f.toList != s.toList) = false := by simpa using hq
        clear hq
        go_wp2
        refine bodyPost_ret (v := .tuple #[.agg #[.int .i64 2, .int .i64 0, .string r], .bool true]) (by simp [results, Tryd.results31, go_sem, e0, e1, e2]) rfl ⟨by rw [q]; rfl, ?_⟩
        exact ((HB9.out.setCell (by exact Nat.le_refl _) _).setCell (by exact Nat.le_refl _) _).setCell (by exact Nat.le_refl _) _
      · have q := HQ.out.trans (if_neg hq)
        have h2 : (f.toList == s.toList) = false := by simpa using hq
        have h3 : (f.toList != s.toList) = true := by simpa using hq
        clear hq
        go_wp2
        refine bodyPost_ret (v := .tuple #[.agg #[.int .i64 0, .int .i64 0, .string ⟨#[]⟩], .bool false]) (by simp [results, Tryd.results31, go_sem, e0, e1, e2]) rfl ⟨by rw [q]; rfl, ?_⟩
        exact ((HB9.out.setCell (by exact Nat.le_refl _) _).setCell (by exact Nat.le_refl _) _).setCell (by exact Nat.le_refl _) _

theorem rd_take (l : List UInt8) (k : Nat) (h : k < l.length) : (l.take (k + 1)).foldl rdStep 0 = rdStep ((l.take k).foldl rdStep 0) l[k] := by
  rw [List.take_succ_eq_append_getElem h, List.foldl_append]; rfl
theorem rd_bd (l : List UInt8) : ∀ u : Int, 0 ≤ u → u < 18446744073709551616 → 0 ≤ l.foldl rdStep u ∧ l.foldl rdStep u < 18446744073709551616 := by
  induction l with
  | nil => intro u h0 h1; exact ⟨h0, h1⟩
  | cons c l ih =>
    intro u h0 h1
    rw [List.foldl_cons]
    refine ih _ ?_ ?_
    · unfold rdStep; split
      · exact h0
      · omega
    · unfold rdStep; split
      · exact h1
      · omega
set_option maxHeartbeats 4000000 in
set_option maxRecDepth 100000 in
theorem Read_num (s : ByteArray) (w : World) (h39 : ¬ s.data.toList.head? = some 39) (hnn : s.data.toList ≠ nullL) (hs : s.size ≤ 1000) :
    Calls Tryd.prog 31 #[.string s] w fun e w' => e = redE (redV s.data.toList) ∧ Below w.heap.size w w' := by
  have hlen : s.data.toList.length = s.size := by simp
  have ex : ∀ (j : Nat) (h : j < s.size), s.data.toList[j]'(by rw [hlen]; exact h) = s[j] := fun j h => by simp; rfl
  have HX := Lib.hid ex
  have nn : (s.toList == [78, 85, 76, 76]) = false := by
    rw [beq_eq_false_iff_ne, ByteArray.toList_eq]; exact hnn
  obtain ⟨v, hv⟩ : ∃ v, (if s.data.toList.head? = some 45 then IntKind.i64.wrap (IntKind.u64.wrap (-rdN s.data.toList)) else IntKind.i64.wrap (rdN s.data.toList)) = v := ⟨_, rfl⟩
  have hc : readC s.data.toList = ⟨1, v, ⟨#[]⟩⟩ := by
    unfold readC
    rw [if_neg hnn, if_neg h39, hv]
  have hvb := read_bd s.data.toList
  rw [hc] at hvb
  simp only at hvb
  have HLi := fun w => Literal_any 1 v ⟨#[]⟩ w hvb.1 hvb.2 (by decide)
  obtain ⟨f, hf⟩ : ∃ f : ByteArray, (⟨(fmtV ⟨1, v, ⟨#[]⟩⟩).toArray⟩ : ByteArray) = f := ⟨_, rfl⟩
  have hfl : fmtV ⟨1, v, ⟨#[]⟩⟩ = f.data.toList := by rw [← hf]
  have hq : redV s.data.toList = if f.data.toList = s.data.toList then (⟨1, v, ⟨#[]⟩⟩, true) else (z3, false) := by
    unfold redV; rw [hc, hfl]
  rw [← show f.toList = f.data.toList from ByteArray.toList_eq .., ← show s.toList = s.data.toList from ByteArray.toList_eq ..] at hq
  rw [hf] at HLi
  have HQ := Lib.hid hq
  have HLi := Lib.hid HLi
  have HV := Lib.hid hv
  rw [← show s.toList = s.data.toList from ByteArray.toList_eq ..]
  generalize redV s.toList = rv at *
  have hz : ∀ (h : 0 < s.size), s[0] ≠ 39 := fun h e => h39 (by
    rw [List.head?_eq_getElem?, List.getElem?_eq_getElem (by rw [hlen]; exact h), HX.out 0 h, e])
  clear hq hf hfl hc ex
  have HB1 := Lib.hid (((Below.refl w.heap.size w).alloc (Nat.le_refl _) (.cells #[.int .i64 0, .int .i64 0, .string ⟨#[]⟩] 23)).alloc (by simp) (.cells #[.int .i64 0, .int .i64 0, .string ⟨#[]⟩] 23))
  rcases Nat.eq_zero_or_pos s.size with h0 | h0
  · have hs0 := empty_of s h0
    subst hs0
    have hv0 : v = 0 := by rw [← HV.out]; rfl
    subst hv0
    clear hz hlen HX nn HV
    have QE1 : f.toList = (⟨#[]⟩ : ByteArray).toList → f.toList.isEmpty = true := fun h => by rw [h, ByteArray.toList_eq]; rfl
    have QE2 : ¬ f.toList = (⟨#[]⟩ : ByteArray).toList → f.toList.isEmpty = false := fun h => by
      cases hh : f.toList with
      | nil => exact absurd (hh.trans (by rw [ByteArray.toList_eq])) h
      | cons a l => rfl
    have QE1 := Lib.hid QE1
    have QE2 := Lib.hid QE2
    go_enter Tryd.func31, Tryd.ntmps31
    go_wp2
    refine wp_loop_rounds 1 ?_
    rw [rounds_succ]
    have e0 := pastcell (x := .cells #[.int .i64 1, .int .i64 0, .string ⟨#[]⟩] 23) (newcell (w := w) (cs := #[.int .i64 0, .int .i64 0, .string ⟨#[]⟩]) (T := 23) (g := w.heap.size) 0 (.int .i64 0) rfl rfl)
    have e1 := pastcell (x := .cells #[.int .i64 1, .int .i64 0, .string ⟨#[]⟩] 23) (newcell (w := w) (cs := #[.int .i64 0, .int .i64 0, .string ⟨#[]⟩]) (T := 23) (g := w.heap.size) 1 (.int .i64 0) rfl rfl)
    have e2 := pastcell (x := .cells #[.int .i64 1, .int .i64 0, .string ⟨#[]⟩] 23) (newcell (w := w) (cs := #[.int .i64 0, .int .i64 0, .string ⟨#[]⟩]) (T := 23) (g := w.heap.size) 2 (.string ⟨#[]⟩) rfl rfl)
    have d0 := newcell (w := w.alloc (.cells #[.int .i64 0, .int .i64 0, .string ⟨#[]⟩] 23)) (cs := #[.int .i64 1, .int .i64 0, .string ⟨#[]⟩]) (T := 23) (g := w.heap.size + 1) 0 (.int .i64 1) (by simp) rfl
    have d1 := newcell (w := w.alloc (.cells #[.int .i64 0, .int .i64 0, .string ⟨#[]⟩] 23)) (cs := #[.int .i64 1, .int .i64 0, .string ⟨#[]⟩]) (T := 23) (g := w.heap.size + 1) 1 (.int .i64 0) (by simp) rfl
    have d2 := newcell (w := w.alloc (.cells #[.int .i64 0, .int .i64 0, .string ⟨#[]⟩] 23)) (cs := #[.int .i64 1, .int .i64 0, .string ⟨#[]⟩]) (T := 23) (g := w.heap.size + 1) 2 (.string ⟨#[]⟩) (by simp) rfl
    have f0 := keepfree (by simp) (Joins.below_alloc1 (w.alloc (.cells #[.int .i64 0, .int .i64 0, .string ⟨#[]⟩] 23)) (.cells #[.int .i64 1, .int .i64 0, .string ⟨#[]⟩] 23)) (newfree (w := w) (cs := #[.int .i64 0, .int .i64 0, .string ⟨#[]⟩]) (T := 23) (g := w.heap.size) rfl)
    have glt : w.heap.size < ((w.alloc (.cells #[.int .i64 0, .int .i64 0, .string ⟨#[]⟩] 23)).alloc (.cells #[.int .i64 1, .int .i64 0, .string ⟨#[]⟩] 23)).heap.size := by simp; omega
    have HBc := Lib.hid (((Below.refl w.heap.size w).alloc (Nat.le_refl _) (.cells #[.int .i64 0, .int .i64 0, .string ⟨#[]⟩] 23)).alloc (by simp) (.cells #[.int .i64 1, .int .i64 0, .string ⟨#[]⟩] 23))
    go_wp2_with fail
    refine (HLi.out _).mono ?_
    rintro e w9 ⟨rfl, hb⟩
    have e0 := keepcell hb e0
    have e1 := keepcell hb e1
    have e2 := keepcell hb e2
    have d0 := keepcell hb d0
    have d1 := keepcell hb d1
    have d2 := keepcell hb d2
    have f0 := keepfree glt hb f0
    have HB9 := Lib.hid (HBc.out.trans (hb.mono HBc.out.size))
    clear hb
    by_cases hq : f.toList = (⟨#[]⟩ : ByteArray).toList
    · have q := HQ.out.trans (if_pos hq)
      have h4 := QE1.out hq
      have h2 : (f.toList == (⟨#[]⟩ : ByteArray).toList) = true := by simpa using hq
      have h3 : (f.toList != (⟨#[]⟩ : ByteArray).toList) = false := by simpa using hq
      clear hq
      go_wp2
      refine bodyPost_ret (v := .tuple #[.agg #[.int .i64 1, .int .i64 0, .string ⟨#[]⟩], .bool true]) (by simp [results, Tryd.results31, go_sem, e0, e1, e2]) rfl ⟨by rw [q]; rfl, ?_⟩
      exact ((HB9.out.setCell (by exact Nat.le_refl _) _).setCell (by exact Nat.le_refl _) _).setCell (by exact Nat.le_refl _) _
    · have q := HQ.out.trans (if_neg hq)
      have h4 := QE2.out hq
      have h2 : (f.toList == (⟨#[]⟩ : ByteArray).toList) = false := by simpa using hq
      have h3 : (f.toList != (⟨#[]⟩ : ByteArray).toList) = true := by simpa using hq
      clear hq
      go_wp2
      refine bodyPost_ret (v := .tuple #[.agg #[.int .i64 0, .int .i64 0, .string ⟨#[]⟩], .bool false]) (by simp [results, Tryd.results31, go_sem, e0, e1, e2]) rfl ⟨by rw [q]; rfl, ?_⟩
      exact ((HB9.out.setCell (by exact Nat.le_refl _) _).setCell (by exact Nat.le_refl _) _).setCell (by exact Nat.le_refl _) _
  · have HM : Hid (s.data.toList.head? = some 45 ↔ s[0] = 45) := Lib.hid (by
      rw [List.head?_eq_getElem?, List.getElem?_eq_getElem (by rw [hlen]; exact h0), HX.out 0 h0]
      exact ⟨fun h => Option.some.inj h, fun h => by rw [h]⟩)
    have q2 : decide ((s.size : Int) > 0) = true := decide_eq_true (by omega)
    have q1 : ((s[0].toNat : Int) == 39) = false := by
      rw [beq_eq_false_iff_ne]; intro e
      exact hz h0 (UInt8.toNat_inj.1 (by have : (39 : UInt8).toNat = 39 := rfl; omega))
    go_enter Tryd.func31, Tryd.ntmps31
    go_wp2
    go_loop [6, 7] (fun u i => ∃ (k : Nat) (x : Int), i = .int .i64 k ∧ k ≤ s.size ∧ k ≤ 20 ∧ u = .int .u64 x ∧ x = (s.data.toList.take k).foldl rdStep 0) (fun _ i => 20 - (intOf i).toNat)
    case atStart => exact ⟨0, 0, rfl, Nat.zero_le _, Nat.zero_le _, rfl, rfl⟩
    case round =>
      obtain ⟨k, x, rfl, hk, hk2, rfl, hx⟩ := hrel
      have hxb := rd_bd (s.data.toList.take k) 0 (by omega) (by omega)
      rw [← hx] at hxb
      by_cases hlt : k < s.size ∧ k < 20
      · obtain ⟨hl1, hl2⟩ := hlt
        have t1 : decide ((k : Int) < s.size) = true := decide_eq_true (by omega)
        have t2 : decide ((k : Int) < 20) = true := decide_eq_true (by omega)
        have hst := rd_take s.data.toList k (by rw [hlen]; exact hl1)
        rw [HX.out k hl1, ← hx] at hst
        unfold rdStep at hst
        have hcb : s[k].toNat < 256 := s[k].toNat_lt
        by_cases h45 : s[k].toNat = 45
        · rw [if_pos h45] at hst
          have t3 : ((s[k].toNat : Int) == 45) = true := by rw [h45]; rfl
          have t4 : ((s[k].toNat : Int) != 45) = false := by rw [h45]; rfl
          have HS := Lib.hid hst.symm
          clear hst hx h45
          go_wp2
          go_round
          case rel => exact ⟨k + 1, x, by go_num, by omega, by omega, rfl, HS.out⟩
          case measure => first | (simp [intOf]; done) | (simp [intOf]; omega)
        · rw [if_neg h45] at hst
          have t3 : ((s[k].toNat : Int) == 45) = false := by rw [beq_eq_false_iff_ne]; omega
          have t4 : ((s[k].toNat : Int) != 45) = true := by rw [bne_iff_ne]; omega
          have hw : IntKind.u64.wrap (IntKind.u64.wrap (IntKind.u64.wrap (10 * x) + (s[k].toNat : Int)) - 48) = (10 * x + (s[k].toNat : Int) - 48) % 18446744073709551616 := by
            first | (simp [IntKind.wrap, IntKind.bits, IntKind.signed]; done) | (simp [IntKind.wrap, IntKind.bits, IntKind.signed]; omega)
          have HS := Lib.hid hst.symm
          clear hst hx h45
          go_wp2
          go_round
          case rel => exact ⟨k + 1, _, by go_num, by omega, by omega, rfl, HS.out⟩
          case measure => first | (simp [intOf]; done) | (simp [intOf]; omega)
      · have hxr : rdN s.data.toList = x := by
          rw [hx]; unfold rdN
          rcases (show k = 20 ∨ (k = s.size ∧ k ≤ 20) by omega) with h | ⟨h, h'⟩
          · rw [h]
          · rw [List.take_of_length_le (by rw [hlen]; omega), List.take_of_length_le (by rw [hlen]; omega)]
        clear hx
        rcases (show ¬ k < s.size ∨ (k < s.size ∧ ¬ k < 20) by omega) with hl | ⟨hl, hl'⟩
        · have t1 : decide ((k : Int) < s.size) = false := decide_eq_false (by omega)
          by_cases hm : s[0] = 45
          · have q4 : ((s[0].toNat : Int) == 45) = true := by rw [hm]; rfl
            have hvx : IntKind.i64.wrap (IntKind.u64.wrap (-x)) = v := by
              rw [← HV.out, if_pos (HM.out.2 hm), hxr]
            clear hm hxr
            have e0 := pastcell (x := .cells #[.int .i64 1, .int .i64 v, .string ⟨#[]⟩] 23) (newcell (w := w) (cs := #[.int .i64 0, .int .i64 0, .string ⟨#[]⟩]) (T := 23) (g := w.heap.size) 0 (.int .i64 0) rfl rfl)
            have e1 := pastcell (x := .cells #[.int .i64 1, .int .i64 v, .string ⟨#[]⟩] 23) (newcell (w := w) (cs := #[.int .i64 0, .int .i64 0, .string ⟨#[]⟩]) (T := 23) (g := w.heap.size) 1 (.int .i64 0) rfl rfl)
            have e2 := pastcell (x := .cells #[.int .i64 1, .int .i64 v, .string ⟨#[]⟩] 23) (newcell (w := w) (cs := #[.int .i64 0, .int .i64 0, .string ⟨#[]⟩]) (T := 23) (g := w.heap.size) 2 (.string ⟨#[]⟩) rfl rfl)
            have d0 := newcell (w := w.alloc (.cells #[.int .i64 0, .int .i64 0, .string ⟨#[]⟩] 23)) (cs := #[.int .i64 1, .int .i64 v, .string ⟨#[]⟩]) (T := 23) (g := w.heap.size + 1) 0 (.int .i64 1) (by simp) rfl
            have d1 := newcell (w := w.alloc (.cells #[.int .i64 0, .int .i64 0, .string ⟨#[]⟩] 23)) (cs := #[.int .i64 1, .int .i64 v, .string ⟨#[]⟩]) (T := 23) (g := w.heap.size + 1) 1 (.int .i64 v) (by simp) rfl
            have d2 := newcell (w := w.alloc (.cells #[.int .i64 0, .int .i64 0, .string ⟨#[]⟩] 23)) (cs := #[.int .i64 1, .int .i64 v, .string ⟨#[]⟩]) (T := 23) (g := w.heap.size + 1) 2 (.string ⟨#[]⟩) (by simp) rfl
            have f0 := keepfree (by simp) (Joins.below_alloc1 (w.alloc (.cells #[.int .i64 0, .int .i64 0, .string ⟨#[]⟩] 23)) (.cells #[.int .i64 1, .int .i64 v, .string ⟨#[]⟩] 23)) (newfree (w := w) (cs := #[.int .i64 0, .int .i64 0, .string ⟨#[]⟩]) (T := 23) (g := w.heap.size) rfl)
            have glt : w.heap.size < ((w.alloc (.cells #[.int .i64 0, .int .i64 0, .string ⟨#[]⟩] 23)).alloc (.cells #[.int .i64 1, .int .i64 v, .string ⟨#[]⟩] 23)).heap.size := by simp; omega
            have HBc := Lib.hid (((Below.refl w.heap.size w).alloc (Nat.le_refl _) (.cells #[.int .i64 0, .int .i64 0, .string ⟨#[]⟩] 23)).alloc (by simp) (.cells #[.int .i64 1, .int .i64 v, .string ⟨#[]⟩] 23))
            go_wp2_with fail
            refine (HLi.out _).mono ?_
            rintro e w9 ⟨rfl, hb⟩
            have e0 := keepcell hb e0
            have e1 := keepcell hb e1
            have e2 := keepcell hb e2
            have d0 := keepcell hb d0
            have d1 := keepcell hb d1
            have d2 := keepcell hb d2
            have f0 := keepfree glt hb f0
            have HB9 := Lib.hid (HBc.out.trans (hb.mono HBc.out.size))
            clear hb
            by_cases hq : f.toList = s.toList
            · have q := HQ.out.trans (if_pos hq)
              have h2 : (f.toList == s.toList) = true := by simpa using hq
              have h3 : (f.toList != s.toList) = false := by simpa using hq
              clear hq
              go_wp2
              refine bodyPost_ret (v := .tuple #[.agg #[.int .i64 1, .int .i64 v, .string ⟨#[]⟩], .bool true]) (by simp [results, Tryd.results31, go_sem, e0, e1, e2]) rfl ⟨by rw [q]; rfl, ?_⟩
              exact ((HB9.out.setCell (by exact Nat.le_refl _) _).setCell (by exact Nat.le_refl _) _).setCell (by exact Nat.le_refl _) _
            · have q := HQ.out.trans (if_neg hq)
              have h2 : (f.toList == s.toList) = false := by simpa using hq
              have h3 : (f.toList != s.toList) = true := by simpa using hq
              clear hq
              go_wp2
              refine bodyPost_ret (v := .tuple #[.agg #[.int .i64 0, .int .i64 0, .string ⟨#[]⟩], .bool false]) (by simp [results, Tryd.results31, go_sem, e0, e1, e2]) rfl ⟨by rw [q]; rfl, ?_⟩
              exact ((HB9.out.setCell (by exact Nat.le_refl _) _).setCell (by exact Nat.le_refl _) _).setCell (by exact Nat.le_refl _) _
          · have q4 : ((s[0].toNat : Int) == 45) = false := by
              rw [beq_eq_false_iff_ne]; intro e
              exact hm (UInt8.toNat_inj.1 (by have : (45 : UInt8).toNat = 45 := rfl; omega))
            have hvx : IntKind.i64.wrap x = v := by
              rw [← HV.out, if_neg (fun h => hm (HM.out.1 h)), hxr]
            clear hm hxr
            have e0 := pastcell (x := .cells #[.int .i64 1, .int .i64 v, .string ⟨#[]⟩] 23) (newcell (w := w) (cs := #[.int .i64 0, .int .i64 0, .string ⟨#[]⟩]) (T := 23) (g := w.heap.size) 0 (.int .i64 0) rfl rfl)
            have e1 := pastcell (x := .cells #[.int .i64 1, .int .i64 v, .string ⟨#[]⟩] 23) (newcell (w := w) (cs := #[.int .i64 0, .int .i64 0, .string ⟨#[]⟩]) (T := 23) (g := w.heap.size) 1 (.int .i64 0) rfl rfl)
            have e2 := pastcell (x := .cells #[.int .i64 1, .int .i64 v, .string ⟨#[]⟩] 23) (newcell (w := w) (cs := #[.int .i64 0, .int .i64 0, .string ⟨#[]⟩]) (T := 23) (g := w.heap.size) 2 (.string ⟨#[]⟩) rfl rfl)
            have d0 := newcell (w := w.alloc (.cells #[.int .i64 0, .int .i64 0, .string ⟨#[]⟩] 23)) (cs := #[.int .i64 1, .int .i64 v, .string ⟨#[]⟩]) (T := 23) (g := w.heap.size + 1) 0 (.int .i64 1) (by simp) rfl
            have d1 := newcell (w := w.alloc (.cells #[.int .i64 0, .int .i64 0, .string ⟨#[]⟩] 23)) (cs := #[.int .i64 1, .int .i64 v, .string ⟨#[]⟩]) (T := 23) (g := w.heap.size + 1) 1 (.int .i64 v) (by simp) rfl
            have d2 := newcell (w := w.alloc (.cells #[.int .i64 0, .int .i64 0, .string ⟨#[]⟩] 23)) (cs := #[.int .i64 1, .int .i64 v, .string ⟨#[]⟩]) (T := 23) (g := w.heap.size + 1) 2 (.string ⟨#[]⟩) (by simp) rfl
            have f0 := keepfree (by simp) (Joins.below_alloc1 (w.alloc (.cells #[.int .i64 0, .int .i64 0, .string ⟨#[]⟩] 23)) (.cells #[.int .i64 1, .int .i64 v, .string ⟨#[]⟩] 23)) (newfree (w := w) (cs := #[.int .i64 0, .int .i64 0, .string ⟨#[]⟩]) (T := 23) (g := w.heap.size) rfl)
            have glt : w.heap.size < ((w.alloc (.cells #[.int .i64 0, .int .i64 0, .string ⟨#[]⟩] 23)).alloc (.cells #[.int .i64 1, .int .i64 v, .string ⟨#[]⟩] 23)).heap.size := by simp; omega
            have HBc := Lib.hid (((Below.refl w.heap.size w).alloc (Nat.le_refl _) (.cells #[.int .i64 0, .int .i64 0, .string ⟨#[]⟩] 23)).alloc (by simp) (.cells #[.int .i64 1, .int .i64 v, .string ⟨#[]⟩] 23))
            go_wp2_with fail
            refine (HLi.out _).mono ?_
            rintro e w9 ⟨rfl, hb⟩
            have e0 := keepcell hb e0
            have e1 := keepcell hb e1
            have e2 := keepcell hb e2
            have d0 := keepcell hb d0
            have d1 := keepcell hb d1
            have d2 := keepcell hb d2
            have f0 := keepfree glt hb f0
            have HB9 := Lib.hid (HBc.out.trans (hb.mono HBc.out.size))
            clear hb
            by_cases hq : f.toList = s.toList
            · have q := HQ.out.trans (if_pos hq)
              have h2 : (f.toList == s.toList) = true := by simpa using hq
              have h3 : (f.toList != s.toList) = false := by simpa using hq
              clear hq
              go_wp2
              refine bodyPost_ret (v := .tuple #[.agg #[.int .i64 1, .int .i64 v, .string ⟨#[]⟩], .bool true]) (by simp [results, Tryd.results31, go_sem, e0, e1, e2]) rfl ⟨by rw [q]; rfl, ?_⟩
              exact ((HB9.out.setCell (by exact Nat.le_refl _) _).setCell (by exact Nat.le_refl _) _).setCell (by exact Nat.le_refl _) _
            · have q := HQ.out.trans (if_neg hq)
              have h2 : (f.toList == s.toList) = false := by simpa using hq
              have h3 : (f.toList != s.toList) = true := by simpa using hq
              clear hq
              go_wp2
              refine bodyPost_ret (v := .tuple #[.agg #[.int .i64 0, .int .i64 0, .string ⟨#[]⟩], .bool false]) (by simp [results, Tryd.results31, go_sem, e0, e1, e2]) rfl ⟨by rw [q]; rfl, ?_⟩
              exact ((HB9.out.setCell (by exact Nat.le_refl _) _).setCell (by exact Nat.le_refl _) _).setCell (by exact Nat.le_refl _) _
        · have t1 : decide ((k : Int) < s.size) = true := decide_eq_true (by omega)
          have t2 : decide ((k : Int) < 20) = false := decide_eq_false (by omega)
          by_cases hm : s[0] = 45
          · have q4 : ((s[0].toNat : Int) == 45) = true := by rw [hm]; rfl
            have hvx : IntKind.i64.wrap (IntKind.u64.wrap (-x)) = v := by
              rw [← HV.out, if_pos (HM.out.2 hm), hxr]
            clear hm hxr
            have e0 := pastcell (x := .cells #[.int .i64 1, .int .i64 v, .string ⟨#[]⟩] 23) (newcell (w := w) (cs := #[.int .i64 0, .int .i64 0, .string ⟨#[]⟩]) (T := 23) (g := w.heap.size) 0 (.int .i64 0) rfl rfl)
            have e1 := pastcell (x := .cells #[.int .i64 1, .int .i64 v, .string ⟨#[]⟩] 23) (newcell (w := w) (cs := #[.int .i64 0, .int .i64 0, .string ⟨#[]⟩]) (T := 23) (g := w.heap.size) 1 (.int .i64 0) rfl rfl)
            have e2 := pastcell (x := .cells #[.int .i64 1, .int .i64 v, .string ⟨#[]⟩] 23) (newcell (w := w) (cs := #[.int .i64 0, .int .i64 0, .string ⟨#[]⟩]) (T := 23) (g := w.heap.size) 2 (.string ⟨#[]⟩) rfl rfl)
            have d0 := newcell (w := w.alloc (.cells #[.int .i64 0, .int .i64 0, .string ⟨#[]⟩] 23)) (cs := #[.int .i64 1, .int .i64 v, .string ⟨#[]⟩]) (T := 23) (g := w.heap.size + 1) 0 (.int .i64 1) (by simp) rfl
            have d1 := newcell (w := w.alloc (.cells #[.int .i64 0, .int .i64 0, .string ⟨#[]⟩] 23)) (cs := #[.int .i64 1, .int .i64 v, .string ⟨#[]⟩]) (T := 23) (g := w.heap.size + 1) 1 (.int .i64 v) (by simp) rfl
            have d2 := newcell (w := w.alloc (.cells #[.int .i64 0, .int .i64 0, .string ⟨#[]⟩] 23)) (cs := #[.int .i64 1, .int .i64 v, .string ⟨#[]⟩]) (T := 23) (g := w.heap.size + 1) 2 (.string ⟨#[]⟩) (by simp) rfl
            have f0 := keepfree (by simp) (Joins.below_alloc1 (w.alloc (.cells #[.int .i64 0, .int .i64 0, .string ⟨#[]⟩] 23)) (.cells #[.int .i64 1, .int .i64 v, .string ⟨#[]⟩] 23)) (newfree (w := w) (cs := #[.int .i64 0, .int .i64 0, .string ⟨#[]⟩]) (T := 23) (g := w.heap.size) rfl)
            have glt : w.heap.size < ((w.alloc (.cells #[.int .i64 0, .int .i64 0, .string ⟨#[]⟩] 23)).alloc (.cells #[.int .i64 1, .int .i64 v, .string ⟨#[]⟩] 23)).heap.size := by simp; omega
            have HBc := Lib.hid (((Below.refl w.heap.size w).alloc (Nat.le_refl _) (.cells #[.int .i64 0, .int .i64 0, .string ⟨#[]⟩] 23)).alloc (by simp) (.cells #[.int .i64 1, .int .i64 v, .string ⟨#[]⟩] 23))
            go_wp2_with fail
            refine (HLi.out _).mono ?_
            rintro e w9 ⟨rfl, hb⟩
            have e0 := keepcell hb e0
            have e1 := keepcell hb e1
            have e2 := keepcell hb e2
            have d0 := keepcell hb d0
            have d1 := keepcell hb d1
            have d2 := keepcell hb d2
            have f0 := keepfree glt hb f0
            have HB9 := Lib.hid (HBc.out.trans (hb.mono HBc.out.size))
            clear hb
            by_cases hq : f.toList = s.toList
            · have q := HQ.out.trans (if_pos hq)
              have h2 : (f.toList == s.toList) = true := by simpa using hq
              have h3 : (f.toList != s.toList) = false := by simpa using hq
              clear hq
              go_wp2
              refine bodyPost_ret (v := .tuple #[.agg #[.int .i64 1, .int .i64 v, .string ⟨#[]⟩], .bool true]) (by simp [results, Tryd.results31, go_sem, e0, e1, e2]) rfl ⟨by rw [q]; rfl, ?_⟩
              exact ((HB9.out.setCell (by exact Nat.le_refl _) _).setCell (by exact Nat.le_refl _) _).setCell (by exact Nat.le_refl _) _
            · have q := HQ.out.trans (if_neg hq)
              have h2 : (f.toList == s.toList) = false := by simpa using hq
              have h3 : (f.toList != s.toList) = true := by simpa using hq
              clear hq
              go_wp2
              refine bodyPost_ret (v := .tuple #[.agg #[.int .i64 0, .int .i64 0, .string ⟨#[]⟩], .bool false]) (by simp [results, Tryd.results31, go_sem, e0, e1, e2]) rfl ⟨by rw [q]; rfl, ?_⟩
              exact ((HB9.out.setCell (by exact Nat.le_refl _) _).setCell (by exact Nat.le_refl _) _).setCell (by exact Nat.le_refl _) _
          · have q4 : ((s[0].toNat : Int) == 45) = false := by
              rw [beq_eq_false_iff_ne]; intro e
              exact hm (UInt8.toNat_inj.1 (by have : (45 : UInt8).toNat = 45 := rfl; omega))
            have hvx : IntKind.i64.wrap x = v := by
              rw [← HV.out, if_neg (fun h => hm (HM.out.1 h)), hxr]
            clear hm hxr
            have e0 := pastcell (x := .cells #[.int .i64 1, .int .i64 v, .string ⟨#[]⟩] 23) (newcell (w := w) (cs := #[.int .i64 0, .int .i64 0, .string ⟨#[]⟩]) (T := 23) (g := w.heap.size) 0 (.int .i64 0) rfl rfl)
            have e1 := pastcell (x := .cells #[.int .i64 1, .int .i64 v, .string ⟨#[]⟩] 23) (newcell (w := w) (cs := #[.int .i64 0, .int .i64 0, .string ⟨#[]⟩]) (T := 23) (g := w.heap.size) 1 (.int .i64 0) rfl rfl)
            have e2 := pastcell (x := .cells #[.int .i64 1, .int .i64 v, .string ⟨#[]⟩] 23) (newcell (w := w) (cs := #[.int .i64 0, .int .i64 0, .string ⟨#[]⟩]) (T := 23) (g := w.heap.size) 2 (.string ⟨#[]⟩) rfl rfl)
            have d0 := newcell (w := w.alloc (.cells #[.int .i64 0, .int .i64 0, .string ⟨#[]⟩] 23)) (cs := #[.int .i64 1, .int .i64 v, .string ⟨#[]⟩]) (T := 23) (g := w.heap.size + 1) 0 (.int .i64 1) (by simp) rfl
            have d1 := newcell (w := w.alloc (.cells #[.int .i64 0, .int .i64 0, .string ⟨#[]⟩] 23)) (cs := #[.int .i64 1, .int .i64 v, .string ⟨#[]⟩]) (T := 23) (g := w.heap.size + 1) 1 (.int .i64 v) (by simp) rfl
            have d2 := newcell (w := w.alloc (.cells #[.int .i64 0, .int .i64 0, .string ⟨#[]⟩] 23)) (cs := #[.int .i64 1, .int .i64 v, .string ⟨#[]⟩]) (T := 23) (g := w.heap.size + 1) 2 (.string ⟨#[]⟩) (by simp) rfl
            have f0 := keepfree (by simp) (Joins.below_alloc1 (w.alloc (.cells #[.int .i64 0, .int .i64 0, .string ⟨#[]⟩] 23)) (.cells #[.int .i64 1, .int .i64 v, .string ⟨#[]⟩] 23)) (newfree (w := w) (cs := #[.int .i64 0, .int .i64 0, .string ⟨#[]⟩]) (T := 23) (g := w.heap.size) rfl)
            have glt : w.heap.size < ((w.alloc (.cells #[.int .i64 0, .int .i64 0, .string ⟨#[]⟩] 23)).alloc (.cells #[.int .i64 1, .int .i64 v, .string ⟨#[]⟩] 23)).heap.size := by simp; omega
            have HBc := Lib.hid (((Below.refl w.heap.size w).alloc (Nat.le_refl _) (.cells #[.int .i64 0, .int .i64 0, .string ⟨#[]⟩] 23)).alloc (by simp) (.cells #[.int .i64 1, .int .i64 v, .string ⟨#[]⟩] 23))
            go_wp2_with fail
            refine (HLi.out _).mono ?_
            rintro e w9 ⟨rfl, hb⟩
            have e0 := keepcell hb e0
            have e1 := keepcell hb e1
            have e2 := keepcell hb e2
            have d0 := keepcell hb d0
            have d1 := keepcell hb d1
            have d2 := keepcell hb d2
            have f0 := keepfree glt hb f0
            have HB9 := Lib.hid (HBc.out.trans (hb.mono HBc.out.size))
            clear hb
            by_cases hq : f.toList = s.toList
            · have q := HQ.out.trans (if_pos hq)
              have h2 : (f.toList == s.toList) = true := by simpa using hq
              have h3 : (f.toList != s.toList) = false := by simpa using hq
              clear hq
              go_wp2
              refine bodyPost_ret (v := .tuple #[.agg #[.int .i64 1, .int .i64 v, .string ⟨#[]⟩], .bool true]) (by simp [results, Tryd.results31, go_sem, e0, e1, e2]) rfl ⟨by rw [q]; rfl, ?_⟩
              exact ((HB9.out.setCell (by exact Nat.le_refl _) _).setCell (by exact Nat.le_refl _) _).setCell (by exact Nat.le_refl _) _
            · have q := HQ.out.trans (if_neg hq)
              have h2 : (f.toList == s.toList) = false := by simpa using hq
              have h3 : (f.toList != s.toList) = true := by simpa using hq
              clear hq
              go_wp2
              refine bodyPost_ret (v := .tuple #[.agg #[.int .i64 0, .int .i64 0, .string ⟨#[]⟩], .bool false]) (by simp [results, Tryd.results31, go_sem, e0, e1, e2]) rfl ⟨by rw [q]; rfl, ?_⟩
              exact ((HB9.out.setCell (by exact Nat.le_refl _) _).setCell (by exact Nat.le_refl _) _).setCell (by exact Nat.le_refl _) _
theorem Read_any (s : ByteArray) (w : World) (hs : s.size ≤ 1000) :
    Calls Tryd.prog 31 #[.string s] w fun e w' => e = redE (redV s.data.toList) ∧ Below w.heap.size w w' := by
  by_cases h1 : s.data.toList = nullL
  · have e := of_list s _ h1
    subst e
    have : redV (⟨nullL.toArray⟩ : ByteArray).data.toList = (z3, true) := by
      show redV nullL = _
      unfold redV readC
      rw [if_pos rfl, if_pos (by rw [fmtV_eq]; rfl)]
    rw [this]
    exact Read_null w
  · by_cases h2 : s.data.toList.head? = some 39
    · exact Read_text s w h2 hs
    · exact Read_num s w h2 h1 hs
end Go.Proofs.YtkigdglipoeaaaaDoor
