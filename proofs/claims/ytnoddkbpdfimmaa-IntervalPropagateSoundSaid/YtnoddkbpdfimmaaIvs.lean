/- The sort of intervals. -/
import Derived.Test.YtnoddkbpdfimmaaIvd
import Derived.Test.YtnoddkbpdfimmaaShelf
import Derived.Lib.OwnBridge
import Derived.Shelf.SlSortCmp.NoneTotal
namespace Go.Proofs.Ytnoddkbpdfimmaa
open Go.ChangeShapes Go.WideShapes Go.ChangeAt Go.RowKit Go.ChangeMaps

open Go.Lib Go.Sort
instance : Inhabited Iv := ⟨⟨0, 0⟩⟩
def lowC (x y : Iv) : Int := Lib.compareInt x.lo y.lo
set_option maxRecDepth 100000 in
set_option maxHeartbeats 2000000 in
theorem cmp_any (x y : Int) (w : World) : Calls Try.prog 35 #[.int .i64 x, .int .i64 y] w fun e w' => e = .returned (.int .i64 (Lib.compareInt x y)) ∧ w' = w := by
  obtain ⟨r, hr⟩ : ∃ r, Lib.compareInt x y = r := ⟨_, rfl⟩
  have HR := Lib.hid hr
  rw [hr]
  clear hr
  have e1 : (x == x) = true := by simp
  have e2 : (y == y) = true := by simp
  have e3 : (x != x) = false := by simp
  have e4 : (y != y) = false := by simp
  rcases Int.lt_trichotomy x y with h | h | h
  · have HF := Lib.hid (show r = -1 by rw [← HR.out]; unfold Lib.compareInt; rw [if_pos h])
    go_enter Try.func35, Try.ntmps35
    go_wp2
    go_ret
    exact ⟨ret_int HF.out.symm, rfl⟩
  · subst h
    have HF := Lib.hid (show r = 0 by rw [← HR.out]; unfold Lib.compareInt; rw [if_neg (by omega), if_neg (by omega)])
    go_enter Try.func35, Try.ntmps35
    go_wp2
    go_ret
    exact ⟨ret_int HF.out.symm, rfl⟩
  · have HF := Lib.hid (show r = 1 by rw [← HR.out]; unfold Lib.compareInt; rw [if_neg (by omega), if_pos h])
    have h2 : ¬ x < y := by omega
    go_enter Try.func35, Try.ntmps35
    go_wp2
    go_ret
    exact ⟨ret_int HF.out.symm, rfl⟩
set_option maxRecDepth 100000 in
set_option maxHeartbeats 2000000 in
theorem closure34 (x y : Iv) (W : World) : Calls Try.prog 34 #[.agg x.cells.toArray, .agg y.cells.toArray] W fun e w' => e = .returned (.int .i64 (lowC x y)) ∧ ∃ q os', w' = grow (W.drewN q) os' := by
  have hcon := Lib.hid (fun W' => cmp_any x.lo y.lo W')
  unfold lowC
  generalize Lib.compareInt x.lo y.lo = r at hcon ⊢
  obtain ⟨x0, x1⟩ := x
  obtain ⟨y0, y1⟩ := y
  show Calls Try.prog 34 #[.agg #[.int .i64 x0, .int .i64 x1], .agg #[.int .i64 y0, .int .i64 y1]] W _
  go_enter Try.func34, Try.ntmps34
  go_wp2_with fail
  refine (hcon.out _).mono ?_
  rintro e w' ⟨rfl, hy⟩
  subst hy
  go_wp2
  go_ret
  exact ⟨rfl, 0, _, by rw [alloc_eq_grow, alloc_eq_grow, grow_grow]; rfl⟩
theorem cmpLays34 (blk off size : Nat) (w : World) : CmpLays Try.prog 34 #[] Iv.cells 2 lowC blk off size w := fun _ _ _ _ x y => closure34 x y _
theorem ltLow (x y : Iv) : ltOf lowC x y = decide (x.lo < y.lo) := by
  unfold ltOf lowC Lib.compareInt
  by_cases h1 : x.lo < y.lo
  · simp [h1]
  · by_cases h2 : y.lo < x.lo <;> simp [h1, h2]
theorem swoLow : SWO (ltOf lowC) where
  irrefl x := by rw [ltLow]; simp
  trans x y z h1 h2 := by rw [ltLow] at *; simp at *; omega
  ntrans x y z h1 h2 := by rw [ltLow] at *; simp at *; omega
theorem isAgg39 (w : World) : (isAgg 39).run Try.prog w = .ok true w := by simp [isAgg, run_underlying Try.underlying39]
theorem sizeOf39 (w : World) : (Go.sizeOf 39).run Try.prog w = .ok 2 w := by
  obtain ⟨i, hi, hz, hs, hb⟩ := info_parts Try.info39
  simp [sizeOf, typeInfo, hi, hs]
theorem flatK_list (R : List Iv) : (flatK Iv.cells 2 R.toArray).toList = R.flatMap Iv.cells := by
  apply List.ext_getElem?
  intro t
  by_cases ht : t < R.length * 2
  · have hs : t < (flatK Iv.cells 2 R.toArray).size := by rw [size_flatK]; simpa using ht
    have h1 := get_flatK Iv.cells 2 R.toArray t (by simpa using ht)
    have hi : t / 2 < R.length := by omega
    rw [Array.getElem?_toList, Array.getElem?_eq_getElem hs]
    rw [getElem!_pos _ t hs] at h1
    rw [h1]
    have h2 := flat_get Iv.cells 2 (fun _ => rfl) R (t / 2) (t % 2) hi (Nat.mod_lt _ (by decide))
    rw [show t / 2 * 2 + t % 2 = t by omega] at h2
    rw [h2]
    have hl : t % 2 < (Iv.cells R[t / 2]).length := by show t % 2 < 2; omega
    simp [getElem!_pos, hi]
    rw [List.getElem?_eq_getElem hl]
    rfl
  · rw [List.getElem?_eq_none (by simp [size_flatK]; omega), List.getElem?_eq_none (by rw [flat_len Iv.cells 2 (fun _ => rfl)]; omega)]
theorem holds_iv {w : World} {base g cap : Nat} {R : List Iv} (h : w.ownsRow base 39 2 (.slice (some ⟨g, 0, none⟩) R.length cap) R.length (R.flatMap Iv.cells)) : HoldsK Iv.cells 2 w g 0 R.toArray := by
  intro j hj
  have hj2 : j < R.length * 2 := by simpa using hj
  have h1 := World.ownsRow.cellAt h j hj2
  refine ⟨?_, by rw [Nat.zero_add]; exact World.ownsRow.frozenAt h j⟩
  rw [Nat.zero_add, h1, ← flatK_list, Array.getElem?_toList, Array.getElem?_eq_getElem hj, getElem!_pos _ j hj]
  rfl
theorem own_sorted {w : World} {base g n cap q : Nat} {R T : List Iv} {os : Array Obj} (h : w.ownsRow base 39 2 (.slice (some ⟨g, 0, none⟩) n cap) n (R.flatMap Iv.cells)) (_hn : R.length = n) (hT : T.length = n) :
    (sortWorldK Iv.cells 2 w g 0 q T.toArray os).ownsRow base 39 2 (.slice (some ⟨g, 0, none⟩) n cap) n (T.flatMap Iv.cells) := by
  rcases h.2 with ⟨e0, _⟩ | ⟨g', cap', cur, e0, hb, hg, hnc, hm, hs, ht⟩
  · cases e0
  · injection e0 with e1 _ e3
    injection e1 with e1
    injection e1 with e1
    subst e1
    subst e3
    have hgl : g < w.heap.size := by
      rcases Nat.lt_or_ge g w.heap.size with h' | h'
      · exact h'
      · rw [Array.getElem?_eq_none h'] at hg; cases hg
    refine ⟨by rw [flat_len Iv.cells 2 (fun _ => rfl), hT], .inr ⟨g, cap, putCells id 0 (flatK Iv.cells 2 T.toArray) cur, rfl, hb, ?_, hnc, hm, by simpa [putCells] using hs, ?_⟩⟩
    · unfold sortWorldK grow putRowK putRow mapBlock Sort.ahead
      rw [Array.getElem?_append_left (by simpa using hgl)]
      simp [Array.getElem?_modify, hg, onCells]
    · rw [← flatK_list]
      apply List.ext_getElem?
      intro j
      rw [List.getElem?_take, Array.getElem?_toList, Array.getElem?_toList]
      have hsz : (flatK Iv.cells 2 T.toArray).size = n * 2 := by rw [size_flatK]; simp [hT]
      by_cases hj : j < n * 2
      · have hjc : j < cur.size := by omega
        simp only [if_pos hj, putCells, Array.getElem?_mapIdx, Array.getElem?_eq_getElem hjc, Option.map_some]
        rw [if_pos (by omega), Array.getElem?_eq_getElem (by omega), Nat.sub_zero, getElem!_pos _ j (by omega)]
        rfl
      · rw [if_neg hj, Array.getElem?_eq_none (by omega)]
theorem below_sorted {B : Nat} {w0 w : World} {g q : Nat} {d : Array Iv} {os : Array Obj} (h : Below B w0 w) (hg : B ≤ g) (hB : B ≤ w.heap.size) : Below B w0 (sortWorldK Iv.cells 2 w g 0 q d os) := by
  have h1 := Lib.below_putRow (enc := id) (q := q) (d := flatK Iv.cells 2 d) h hg
  refine ⟨h1.os, h1.tape, h1.output, ?_, fun k hk => ?_⟩
  · have h2 := h1.size
    show _ ≤ (Array.size (_ ++ _))
    rw [Array.size_append]
    exact Nat.le_trans h2 (Nat.le_add_right _ _)
  · rw [← h1.block k hk]
    show (_ ++ _ : Array Obj)[k]? = _
    rw [Array.getElem?_append_left]
    · rfl
    · show k < (Array.size _)
      have : k < w.heap.size := Nat.lt_of_lt_of_le hk hB
      simpa [putRowK, putRow, mapBlock, Sort.ahead] using this
set_option maxRecDepth 100000 in
set_option maxHeartbeats 2000000 in
theorem Sort_any (v : Value) (base : Nat) (R : List Iv) (w : World) (h : OR 39 w base v R) (hn : R.length ≤ 100000) (hb : base ≤ w.heap.size) : Calls Try.prog 33 #[v, .func (.func 34) #[] #[]] w fun e w' => e = .returned (.tuple #[]) ∧ ∃ T : List Iv, T.Perm R ∧ T.Pairwise (fun x y => x.lo ≤ y.lo) ∧ OR 39 w' base v T ∧ Below base w w' := by
  have ho := h
  rcases h.2 with ⟨rfl, hl⟩ | ⟨g, cap, cur, rfl, hg, hh, hnc, hcap, hsz, htk⟩
  · have hR : R = [] := List.eq_nil_of_length_eq_zero hl
    have hcon := AnyF.slices_SortFunc_none { Try.sortIv with } none 0 (.func (.func 34) #[] #[]) w
    change Calls Try.prog 33 _ _ _ at hcon
    refine hcon.mono ?_
    rintro e w' ⟨rfl, rfl⟩
    exact ⟨rfl, R, List.Perm.refl _, by rw [hR]; exact List.Pairwise.nil, ho, Below.refl _ _⟩
  · have hlt : g < w.heap.size := (show Blk w g 39 cur from hh).lt
    have eg : ∀ args w, (callFunc 34 args).run Try.prog w = .ok (.enter 34 args) w := enters_of Try.func34 (by kernel_rfl) rfl
    have hcon := AnyQ.slices_SortFunc Try.sortIv 2 (fun w => by exact isAgg39 w) (fun w => by exact sizeOf39 w) Iv.cells (fun _ => rfl) (fun x => iv_one x) lowC swoLow 34 #[] g 0 cap R.toArray w eg (cmpLays34 g 0 _ w) (holds_iv ho) hlt (by simp; omega)
    change Calls Try.prog 33 _ _ _ at hcon
    rw [show R.toArray.size = R.length by simp] at hcon
    refine hcon.mono ?_
    rintro e w' ⟨rfl, d', n, os, hp, hs, rfl⟩
    obtain ⟨hp1, _, hp3⟩ := hp
    have hd : d'.toList.length = R.length := by simpa using hp1
    have hds : d'.size = R.length := by simpa using hp1
    have hperm : d'.toList.Perm R := by
      have h1 := hp3
      rw [show d'.extract 0 R.length = d' by rw [← hds]; simp, show R.toArray.extract 0 R.length = R.toArray by simp] at h1
      simpa using h1
    refine ⟨rfl, d'.toList, hperm, ?_, ?_, ?_⟩
    · rw [List.pairwise_iff_getElem]
      intro i j hi hj hij
      have hi' : i < d'.size := by simpa using hi
      have hj' : j < d'.size := by simpa using hj
      have h1 := hs i j (Nat.zero_le _) hij (by rw [← hds]; exact hj')
      rw [ltLow, getElem!_pos _ j hj', getElem!_pos _ i hi'] at h1
      simp only [decide_eq_false_iff_not] at h1
      simp only [Array.getElem_toList]
      omega
    · have h1 := own_sorted (q := n) (os := os) (T := d'.toList) ho rfl hd
      unfold OR
      rw [hd]
      simpa using h1
    · exact below_sorted (Below.refl _ _) hg hb
end Go.Proofs.Ytnoddkbpdfimmaa
