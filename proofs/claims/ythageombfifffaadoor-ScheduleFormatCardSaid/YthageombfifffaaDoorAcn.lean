/- Reading a line: the action. -/
import Derived.Test.YthageombfifffaaDoorCut
namespace Go.Proofs.YthageombfifffaaDoor
open Go.ChangeShapes Go.WideShapes Go.ChangeAt Go.RowKit Go.ChangeMaps

theorem split_sz (sep : ByteArray) : ∀ (k : Nat) (s : ByteArray), ∀ x ∈ Lib.splitB sep 0 k s, x.size ≤ s.size
  | 0, s => fun x hx => by rw [Lib.splitB_zero, List.mem_singleton] at hx; subst hx; exact Nat.le_refl _
  | k + 1, s => fun x hx => by
    unfold Lib.splitB at hx
    split at hx
    · first | (rw [List.mem_singleton] at hx; subst hx; exact Nat.le_refl _) | (simp at hx; subst hx; exact Nat.le_refl _)
    · rcases List.mem_cons.1 hx with rfl | hx
      · rw [ByteArray.size_extract]; omega
      · have := split_sz sep k _ x hx
        rw [ByteArray.size_extract] at this
        omega
def wordsB (s : ByteArray) : List ByteArray := Lib.splitB ⟨#[32]⟩ 0 (Lib.countB s ⟨#[32]⟩) s
theorem wordsB_lists (s : ByteArray) : lists (wordsB s) = words s.data.toList := by
  unfold lists wordsB words
  rw [Lib.splitB_data]
theorem wordsB_len (s : ByteArray) : (wordsB s).length = Lib.countB s ⟨#[32]⟩ + 1 := Lib.splitB_all ⟨#[32]⟩ (by decide) 0 _ s rfl
theorem wordsB_le (s : ByteArray) : (wordsB s).length ≤ s.size + 1 := by
  have := Lib.countB_le ⟨#[32]⟩ (by decide) s.size s (Nat.le_refl _)
  rw [wordsB_len]; omega
theorem wordsB_sz (s : ByteArray) : ∀ j (h : j < (wordsB s).length), (wordsB s)[j].size ≤ s.size := fun j h => split_sz _ _ s _ (List.getElem_mem h)
theorem Split_any (s : ByteArray) (w : World) (hs : s.size ≤ 20100) (hE : EnvQ w) : Calls Tryd.prog 40 #[.string s, .string ⟨#[32]⟩] w fun e w' =>
    e = .returned (.slice (some ⟨w.heap.size, 0, none⟩) (wordsB s).length (wordsB s).length) ∧ w' = w.alloc (.cells ((wordsB s).map Value.string).toArray 9) := by
  obtain ⟨m, hm⟩ := hE.max
  have := Tryd.strings_Split s ⟨#[32]⟩ m w (by omega) hm (by decide)
  rw [← wordsB_len] at this
  exact this
theorem words_mem (w : World) (o : Obj) (W : List ByteArray) (k : Nat) (hk : W.length = k) (h1 : k ≤ 100000) (h2 : ∀ j (h : j < W.length), W[j].size ≤ 100000) :
    WordsAt (((w.alloc o).alloc (.cells (W.map Value.string).toArray 9)).alloc (.cells #[.slice (some ⟨w.heap.size + 1, 0, none⟩) k k] 73)) (w.heap.size + 1 + 1) (w.heap.size + 1) W := by
  subst hk
  refine ⟨?_, fun j hj => ?_, h1, h2⟩
  · exact newcell 0 _ (by simp [Go.Deep.nblk_alloc]) rfl
  · exact pastcell (newcell j _ (by simp [Go.Deep.nblk_alloc]) (by simp [List.getElem?_eq_getElem hj]))
theorem set4 {w : World} {g : Nat} {a b c d : Value} (hb : w.heap[g]? = some (.cells #[a, b, c, d] 29 (0, 0))) (v0 v1 v2 v3 : Value) {B : Nat} {W : World} (hB : Below B W w) (hg : B ≤ g) :
    ∃ X, (((w.setCell ⟨g, 0, none⟩ v0).setCell ⟨g, 1, none⟩ v1).setCell ⟨g, 2, none⟩ v2).setCell ⟨g, 3, none⟩ v3 = X ∧ X.cell? ⟨g, 0, none⟩ = some v0 ∧ X.cell? ⟨g, 1, none⟩ = some v1 ∧ X.cell? ⟨g, 2, none⟩ = some v2 ∧ X.cell? ⟨g, 3, none⟩ = some v3 ∧ Below B W X := by
  have h1 := Joins.block_setCell (i := 0) hb v0
  have h2 := Joins.block_setCell (i := 1) h1 v1
  have h3 := Joins.block_setCell (i := 2) h2 v2
  have h4 := Joins.block_setCell (i := 3) h3 v3
  exact ⟨_, rfl, Joins.cell_of_block h4 0, Joins.cell_of_block h4 1, Joins.cell_of_block h4 2, Joins.cell_of_block h4 3, ((((hB.setCell hg _).setCell hg _).setCell hg _).setCell hg _)⟩
theorem actS_of (t : List UInt8) (W0 : ByteArray) (WT : List ByteArray) (h : lists (W0 :: WT) = words t) : actS t =
    if (W0.toList == [115, 116, 101, 112]) = true then ⟨1, numW (lists (W0 :: WT)) 1, 0, 0⟩
    else if (W0.toList == [99, 104, 101, 99, 107, 112, 111, 105, 110, 116]) = true then ⟨2, 0, 0, 0⟩
    else if (W0.toList == [114, 101, 99, 111, 118, 101, 114]) = true then ⟨4, 0, 0, 0⟩
    else if (W0.toList == [99, 114, 97, 115, 104]) = true then ⟨3, 0, numW (lists (W0 :: WT)) 1, numW (lists (W0 :: WT)) 2⟩
    else ⟨0, 0, 0, 0⟩ := by
  unfold actS
  rw [← h]
  have hc : lists (W0 :: WT) = W0.data.toList :: lists WT := rfl
  have e : ∀ l : List UInt8, ((W0.toList == l) = true) = (W0.data.toList = l) := fun l => by rw [beq_iff_eq, ByteArray.toList_eq]
  simp only [e]
  rw [hc, head_if, head_if, head_if, head_if]
  rfl
set_option maxRecDepth 100000 in
set_option maxHeartbeats 2000000 in
theorem Action_any (s : ByteArray) (w : World) (hs : s.size ≤ 20010) (hE : EnvQ w) : Calls Tryd.prog 34 #[.string s] w fun e w' => e = .returned (actS s.data.toList).agg ∧ Below w.heap.size w w' := by
  have hll := wordsB_le s
  have hsz := wordsB_sz s
  have hlen := wordsB_len s
  have hLW := wordsB_lists s
  have B1 := (Below.refl w.heap.size w).alloc (Nat.le_refl _) (.cells #[.int .i64 0, .int .i64 0, .int .i64 0, .int .i64 0] 29)
  have S := Split_any s _ (by omega) (hE.below B1)
  generalize wordsB s = W at *
  obtain ⟨W0, WT, rfl⟩ : ∃ a l, W = a :: l := by
    cases W with
    | nil => simp at hlen
    | cons a l => exact ⟨a, l, rfl⟩
  have HA := Lib.hid (actS_of _ W0 WT hLW)
  generalize actS s.data.toList = A at *
  clear hLW hlen
  obtain ⟨k, hk⟩ : ∃ k, (W0 :: WT).length = k := ⟨_, rfl⟩
  have HK := Lib.hid hk
  rw [hk] at S hll
  have hk0 : 0 < k := by rw [← hk]; simp
  obtain ⟨n1, hn1⟩ : ∃ n, numW (lists (W0 :: WT)) 1 = n := ⟨_, rfl⟩
  obtain ⟨n2, hn2⟩ : ∃ n, numW (lists (W0 :: WT)) 2 = n := ⟨_, rfl⟩
  have N1 := Lib.hid (fun b g w' (h : WordsAt w' b g (W0 :: WT)) hE => num_any 1 b g (W0 :: WT) w' h hE (by omega))
  have N2 := Lib.hid (fun b g w' (h : WordsAt w' b g (W0 :: WT)) hE => num_any 2 b g (W0 :: WT) w' h hE (by omega))
  rw [hn1] at N1 HA
  rw [hn2] at N2 HA
  have HSZ := Lib.hid hsz
  have HB1 := Lib.hid B1
  have HE := Lib.hid hE
  clear hk hn1 hn2 hsz B1 hE
  have HWA : Hid (WordsAt (((w.alloc (.cells #[.int .i64 0, .int .i64 0, .int .i64 0, .int .i64 0] 29)).alloc (.cells ((W0 :: WT).map Value.string).toArray 9)).alloc (.cells #[.slice (some ⟨w.heap.size + 1, 0, none⟩) k k] 73)) (w.heap.size + 1 + 1) (w.heap.size + 1) (W0 :: WT)) :=
    Lib.hid (words_mem w _ (W0 :: WT) k HK.out (by omega) (fun j h => by have := HSZ.out j h; omega))
  have HB3 := Lib.hid ((HB1.out.alloc HB1.out.size (.cells ((W0 :: WT).map Value.string).toArray 9)).alloc (HB1.out.alloc HB1.out.size (.cells ((W0 :: WT).map Value.string).toArray 9)).size (.cells #[.slice (some ⟨w.heap.size + 1, 0, none⟩) k k] 73))
  have hb0 : (((w.alloc (.cells #[.int .i64 0, .int .i64 0, .int .i64 0, .int .i64 0] 29)).alloc (.cells ((W0 :: WT).map Value.string).toArray 9)).alloc (.cells #[.slice (some ⟨w.heap.size + 1, 0, none⟩) k k] 73)).heap[w.heap.size]? = some (.cells #[.int .i64 0, .int .i64 0, .int .i64 0, .int .i64 0] 29 (0, 0)) := by
    rw [Go.Deep.blk_alloc_lt _ _ _ (by simp [Go.Deep.nblk_alloc]; omega), Go.Deep.blk_alloc_lt _ _ _ (by simp [Go.Deep.nblk_alloc])]
    exact heap_alloc_new w _
  rcases h1 : (W0.toList == [115, 116, 101, 112]) with _ | _
  · rcases h2 : (W0.toList == [99, 104, 101, 99, 107, 112, 111, 105, 110, 116]) with _ | _
    · rcases h3 : (W0.toList == [114, 101, 99, 111, 118, 101, 114]) with _ | _
      · rcases h4 : (W0.toList == [99, 114, 97, 115, 104]) with _ | _
        · have q := Lib.hid (HA.out.trans ((if_neg (by rw [h1]; decide)).trans ((if_neg (by rw [h2]; decide)).trans ((if_neg (by rw [h3]; decide)).trans (if_neg (by rw [h4]; decide))))))
          go_enter Tryd.func34, Tryd.ntmps34
          go_wp2_with fail
          refine S.mono ?_
          rintro e w' ⟨rfl, rfl⟩
          clear hb0
          go_wp2_with fail
          exact bodyPost_ret (v := .agg #[.int .i64 0, .int .i64 0, .int .i64 0, .int .i64 0]) (by simp [results, Tryd.results34, go_sem]) rfl ⟨by rw [q.out]; rfl, (((Below.refl w.heap.size w).alloc (Nat.le_refl _) _).alloc (by simp [Go.Deep.nblk_alloc]) _).alloc (by simp [Go.Deep.nblk_alloc]; omega) _⟩
        · have q := Lib.hid (HA.out.trans ((if_neg (by rw [h1]; decide)).trans ((if_neg (by rw [h2]; decide)).trans ((if_neg (by rw [h3]; decide)).trans (if_pos h4)))))
          go_enter Tryd.func34, Tryd.ntmps34
          go_wp2_with fail
          refine S.mono ?_
          rintro e w' ⟨rfl, rfl⟩
          go_wp2_with fail
          refine (N1.out _ (w.heap.size + 1) _ HWA.out (HE.out.below HB3.out)).mono ?_
          rintro e w3 ⟨rfl, hb3⟩
          have hb1 := (hb3.block _ (Array.getElem?_eq_some_iff.1 hb0).1).trans hb0
          have HW3 := Lib.hid (HWA.out.below hb3)
          have B4' := Lib.hid (more_below HB3.out hb3)
          clear hb3
          go_wp2_with fail
          refine (N2.out _ (w.heap.size + 1) _ HW3.out (HE.out.below B4'.out)).mono ?_
          rintro e w4 ⟨rfl, hb4⟩
          have hb := (hb4.block _ (Array.getElem?_eq_some_iff.1 hb1).1).trans hb1
          have B4 := Lib.hid (more_below B4'.out hb4)
          clear hb4 hb1
          have c0 := Joins.cell_of_block hb 0
          have c1 := Joins.cell_of_block hb 1
          have c2 := Joins.cell_of_block hb 2
          have c3 := Joins.cell_of_block hb 3
          have f0 := Joins.unfrozen_of_block hb 0
          have f1 := Joins.unfrozen_of_block hb 1
          have f2 := Joins.unfrozen_of_block hb 2
          have f3 := Joins.unfrozen_of_block hb 3
          obtain ⟨X, hX, x0, x1, x2, x3, xb⟩ := set4 hb (.int .i64 3) (.int .i64 0) (.int .i64 n1) (.int .i64 n2) B4.out (Nat.le_refl _)
          have HXB := Lib.hid xb
          have HX := Lib.hid hX
          clear hb hb0 hX xb
          go_wp2_with fail
          rw [HX.out]
          clear c0 c1 c2 c3 f0 f1 f2 f3
          exact bodyPost_ret (v := .agg #[.int .i64 3, .int .i64 0, .int .i64 n1, .int .i64 n2]) (by simp [results, Tryd.results34, go_sem, x0, x1, x2, x3]) rfl ⟨by rw [q.out]; rfl, HXB.out⟩
      · have q := Lib.hid (HA.out.trans ((if_neg (by rw [h1]; decide)).trans ((if_neg (by rw [h2]; decide)).trans (if_pos h3))))
        go_enter Tryd.func34, Tryd.ntmps34
        go_wp2_with fail
        refine S.mono ?_
        rintro e w' ⟨rfl, rfl⟩
        clear hb0
        go_wp2_with fail
        exact bodyPost_ret (v := .agg #[.int .i64 4, .int .i64 0, .int .i64 0, .int .i64 0]) (by simp [results, Tryd.results34, go_sem]) rfl ⟨by rw [q.out]; rfl, (((Below.refl w.heap.size w).alloc (Nat.le_refl _) _).alloc (by simp [Go.Deep.nblk_alloc]) _).alloc (by simp [Go.Deep.nblk_alloc]; omega) _⟩
    · have q := Lib.hid (HA.out.trans ((if_neg (by rw [h1]; decide)).trans (if_pos h2)))
      go_enter Tryd.func34, Tryd.ntmps34
      go_wp2_with fail
      refine S.mono ?_
      rintro e w' ⟨rfl, rfl⟩
      clear hb0
      go_wp2_with fail
      exact bodyPost_ret (v := .agg #[.int .i64 2, .int .i64 0, .int .i64 0, .int .i64 0]) (by simp [results, Tryd.results34, go_sem]) rfl ⟨by rw [q.out]; rfl, (((Below.refl w.heap.size w).alloc (Nat.le_refl _) _).alloc (by simp [Go.Deep.nblk_alloc]) _).alloc (by simp [Go.Deep.nblk_alloc]; omega) _⟩
  · have q := Lib.hid (HA.out.trans (if_pos h1))
    go_enter Tryd.func34, Tryd.ntmps34
    go_wp2_with fail
    refine S.mono ?_
    rintro e w' ⟨rfl, rfl⟩
    go_wp2_with fail
    refine (N1.out _ (w.heap.size + 1) _ HWA.out (HE.out.below HB3.out)).mono ?_
    rintro e w3 ⟨rfl, hb3⟩
    have hb := (hb3.block _ (Array.getElem?_eq_some_iff.1 hb0).1).trans hb0
    have B4 := Lib.hid (more_below HB3.out hb3)
    clear hb3
    have c0 := Joins.cell_of_block hb 0
    have c1 := Joins.cell_of_block hb 1
    have c2 := Joins.cell_of_block hb 2
    have c3 := Joins.cell_of_block hb 3
    have f0 := Joins.unfrozen_of_block hb 0
    have f1 := Joins.unfrozen_of_block hb 1
    have f2 := Joins.unfrozen_of_block hb 2
    have f3 := Joins.unfrozen_of_block hb 3
    obtain ⟨X, hX, x0, x1, x2, x3, xb⟩ := set4 hb (.int .i64 1) (.int .i64 n1) (.int .i64 0) (.int .i64 0) B4.out (Nat.le_refl _)
    have HXB := Lib.hid xb
    have HX := Lib.hid hX
    clear hb hb0 hX xb
    go_wp2_with fail
    rw [HX.out]
    clear c0 c1 c2 c3 f0 f1 f2 f3
    exact bodyPost_ret (v := .agg #[.int .i64 1, .int .i64 n1, .int .i64 0, .int .i64 0]) (by simp [results, Tryd.results34, go_sem, x0, x1, x2, x3]) rfl ⟨by rw [q.out]; rfl, HXB.out⟩
end Go.Proofs.YthageombfifffaaDoor
