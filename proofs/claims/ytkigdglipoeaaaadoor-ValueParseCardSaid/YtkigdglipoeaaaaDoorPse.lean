/- A literal parsed. -/
import Derived.Test.YtkigdglipoeaaaaDoorCnd
namespace Go.Proofs.YtkigdglipoeaaaaDoor
open Go.ChangeShapes Go.WideShapes Go.ChangeAt Go.RowKit Go.ChangeMaps

def parV (l : List UInt8) : V3 × Int := if l ≠ [] ∧ fmtV (candV l) = l then (candV l, 0) else (z3, 2)
def parE (x : V3 × Int) : Ending := .returned (.tuple #[aggV x.1, .int .i64 x.2])
theorem rep_len (l : List UInt8) (m : Nat) (h : l.length ≤ m) : (Lib.replaceAll l [39, 39] [39]).length ≤ m := by
  have aux : ∀ (k : Nat) (l : List UInt8), (Lib.replaceK [39, 39] [39] k l).length ≤ l.length := by
    intro k
    induction k with
    | zero => intro l; exact Nat.le_refl _
    | succ k ih =>
      intro l
      have hg := Lib.index_ge l [39, 39]
      by_cases h1 : Lib.index l [39, 39] = -1
      · unfold Lib.replaceK; rw [h1]; exact Nat.le_refl _
      · obtain ⟨i, hi⟩ : ∃ i : Nat, Lib.index l [39, 39] = i := ⟨(Lib.index l [39, 39]).toNat, by omega⟩
        have hr := Lib.index_room l [39, 39] (by omega)
        rw [hi] at hr
        simp only [List.length_cons, List.length_nil] at hr
        rw [Lib.replaceK_hit _ _ _ _ i hi]
        have := ih (l.drop (i + [39, 39].length))
        rw [List.length_append, List.length_append, List.length_take]
        simp only [List.length_cons, List.length_nil, List.length_drop] at this ⊢
        omega
  unfold Lib.replaceAll Lib.replace
  split
  · exact h
  · exact Nat.le_trans (aux _ _) h
theorem cand_size (l : List UInt8) : (candV l).s.size ≤ l.length := by
  unfold candV
  split
  · exact Nat.zero_le _
  · split
    · show (Lib.replaceAll ((l.drop 1).take (l.length - 2)) [39, 39] [39]).toArray.size ≤ _
      rw [List.size_toArray]
      exact rep_len _ l.length (by rw [List.length_take, List.length_drop]; omega)
    · split <;> exact Nat.zero_le _
set_option maxHeartbeats 1000000 in
theorem Parse_any (s : ByteArray) (w : World) (hP : EnvP w) (hs : s.size ≤ 1000) :
    Calls Tryd.prog 27 #[.string s] w fun e w' => e = parE (parV s.data.toList) ∧ Below w.heap.size w w' := by
  have E := empty_list s
  have HA := Lib.hid ((Below.refl w.heap.size w).alloc (Nat.le_refl _) (.cells #[.int .i64 0, .int .i64 0, .string ⟨#[]⟩] 23))
  have HP := Lib.hid hP
  have HC := Lib.hid (fun w hw => Cand_any s w hw hs)
  have bd := cand_bd s.data.toList
  have hV : Hid (parV s.data.toList = if s.data.toList ≠ [] ∧ fmtV (candV s.data.toList) = s.data.toList then (candV s.data.toList, 0) else (z3, 2)) := Lib.hid rfl
  have hsz : (candV s.data.toList).s.size ≤ 2000000 := by
    have e : s.data.toList.length = s.size := by simp
    have := cand_size s.data.toList
    omega
  generalize hx : candV s.data.toList = x at *
  generalize hp : parV s.data.toList = p at *
  rcases x with ⟨k, n, t⟩
  simp only at bd hsz
  have HF := Lib.hid (fun w hE => VFormat_any k n t w hE bd.1 bd.2 (by omega))
  obtain ⟨f, hf⟩ : ∃ f : ByteArray, (⟨(fmtV ⟨k, n, t⟩).toArray⟩ : ByteArray) = f := ⟨_, rfl⟩
  have hfl : fmtV ⟨k, n, t⟩ = f.data.toList := by rw [← hf]
  rw [hf] at HF
  rw [hfl] at hV
  clear hf hfl hx hp
  have e1 : s.toList = s.data.toList := ByteArray.toList_eq ..
  have e2 : f.toList = f.data.toList := ByteArray.toList_eq ..
  rw [← e1, ← e2] at hV
  clear e1 e2
  have HC2 := HC
  clear HC
  by_cases h0 : s.size = 0
  · have q : p = (z3, 2) := hV.out.trans (if_neg (fun h => h.1 (by
      rw [ByteArray.toList_eq]; exact List.eq_nil_of_length_eq_zero (by simpa using h0))))
    subst q
    rw [decide_eq_true h0] at E
    clear h0
    go_enter Tryd.func27, Tryd.ntmps27
    go_wp2_with fail
    refine (HC2.out _ (HP.out.below HA.out)).mono ?_
    rintro e w1 ⟨rfl, hb1⟩
    unfold aggV
    have e0 := pastcell (x := .cells #[.int .i64 k, .int .i64 n, .string t] 23) (keepcell hb1 (newcell (g := w.heap.size) 0 (.int .i64 0) rfl rfl))
    have e1 := pastcell (x := .cells #[.int .i64 k, .int .i64 n, .string t] 23) (keepcell hb1 (newcell (g := w.heap.size) 1 (.int .i64 0) rfl rfl))
    have e2 := pastcell (x := .cells #[.int .i64 k, .int .i64 n, .string t] 23) (keepcell hb1 (newcell (g := w.heap.size) 2 (.string ⟨#[]⟩) rfl rfl))
    have f0 := keepfree (by have := hb1.size; simp at this; omega) (Joins.below_alloc1 w1 (.cells #[.int .i64 k, .int .i64 n, .string t] 23)) (keepfree (by simp) hb1 (newfree (w := w) (cs := #[.int .i64 0, .int .i64 0, .string ⟨#[]⟩]) (T := 23) (g := w.heap.size) rfl))
    have HB := Lib.hid ((HA.out.trans (hb1.mono HA.out.size)).alloc (HA.out.trans (hb1.mono HA.out.size)).size (.cells #[.int .i64 k, .int .i64 n, .string t] 23))
    go_wp2
    refine bodyPost_ret (v := .tuple #[.agg #[.int .i64 0, .int .i64 0, .string ⟨#[]⟩], .int .i64 2]) (by simp [results, Tryd.results27, go_sem, e0, e1, e2]) rfl ⟨rfl, ?_⟩
    exact ((HB.out.setCell (by exact Nat.le_refl _) _).setCell (by exact Nat.le_refl _) _).setCell (by exact Nat.le_refl _) _
  · rw [decide_eq_false h0] at E
    have hne : s.toList ≠ [] := by intro h; rw [h] at E; cases E
    by_cases h1 : f.toList = s.toList
    · have q : p = (⟨k, n, t⟩, 0) := hV.out.trans (if_pos ⟨hne, h1⟩)
      subst q
      have h2 : (f.toList == s.toList) = true := by simpa using h1
      have h3 : (f.toList != s.toList) = false := by simpa using h1
      clear hne h1
      go_enter Tryd.func27, Tryd.ntmps27
      go_wp2_with fail
      refine (HC2.out _ (HP.out.below HA.out)).mono ?_
      rintro e w1 ⟨rfl, hb1⟩
      unfold aggV
      have HB1 := Lib.hid ((HA.out.trans (hb1.mono HA.out.size)).alloc (HA.out.trans (hb1.mono HA.out.size)).size (.cells #[.int .i64 k, .int .i64 n, .string t] 23))
      go_wp2_with fail
      refine (HF.out _ (HP.out.below HB1.out).env).mono ?_
      rintro e w2 ⟨rfl, hb2⟩
      have e0 := keepcell hb2 (pastcell (x := .cells #[.int .i64 k, .int .i64 n, .string t] 23) (keepcell hb1 (newcell (g := w.heap.size) 0 (.int .i64 0) rfl rfl)))
      have e1 := keepcell hb2 (pastcell (x := .cells #[.int .i64 k, .int .i64 n, .string t] 23) (keepcell hb1 (newcell (g := w.heap.size) 1 (.int .i64 0) rfl rfl)))
      have e2 := keepcell hb2 (pastcell (x := .cells #[.int .i64 k, .int .i64 n, .string t] 23) (keepcell hb1 (newcell (g := w.heap.size) 2 (.string ⟨#[]⟩) rfl rfl)))
      have g0 := keepcell hb2 (newcell (w := w1) (T := 23) (cs := #[.int .i64 k, .int .i64 n, .string t]) (g := w1.heap.size) 0 (.int .i64 k) rfl rfl)
      have g1 := keepcell hb2 (newcell (w := w1) (T := 23) (cs := #[.int .i64 k, .int .i64 n, .string t]) (g := w1.heap.size) 1 (.int .i64 n) rfl rfl)
      have g2 := keepcell hb2 (newcell (w := w1) (T := 23) (cs := #[.int .i64 k, .int .i64 n, .string t]) (g := w1.heap.size) 2 (.string t) rfl rfl)
      have f0 := keepfree (by have := hb1.size; simp at this ⊢; omega) hb2 (keepfree (by have := hb1.size; simp at this; omega) (Joins.below_alloc1 w1 (.cells #[.int .i64 k, .int .i64 n, .string t] 23)) (keepfree (by simp) hb1 (newfree (w := w) (cs := #[.int .i64 0, .int .i64 0, .string ⟨#[]⟩]) (T := 23) (g := w.heap.size) rfl)))
      have HB := Lib.hid (HB1.out.trans (hb2.mono HB1.out.size))
      go_wp2
      refine bodyPost_ret (v := .tuple #[.agg #[.int .i64 k, .int .i64 n, .string t], .int .i64 0]) (by simp [results, Tryd.results27, go_sem, e0, e1, e2]) rfl ⟨rfl, ?_⟩
      exact ((HB.out.setCell (by exact Nat.le_refl _) _).setCell (by exact Nat.le_refl _) _).setCell (by exact Nat.le_refl _) _
    · have q : p = (z3, 2) := hV.out.trans (if_neg (fun h => h1 h.2))
      subst q
      have h2 : (f.toList == s.toList) = false := by simpa using h1
      have h3 : (f.toList != s.toList) = true := by simpa using h1
      clear hne h1
      go_enter Tryd.func27, Tryd.ntmps27
      go_wp2_with fail
      refine (HC2.out _ (HP.out.below HA.out)).mono ?_
      rintro e w1 ⟨rfl, hb1⟩
      unfold aggV
      have HB1 := Lib.hid ((HA.out.trans (hb1.mono HA.out.size)).alloc (HA.out.trans (hb1.mono HA.out.size)).size (.cells #[.int .i64 k, .int .i64 n, .string t] 23))
      go_wp2_with fail
      refine (HF.out _ (HP.out.below HB1.out).env).mono ?_
      rintro e w2 ⟨rfl, hb2⟩
      have e0 := keepcell hb2 (pastcell (x := .cells #[.int .i64 k, .int .i64 n, .string t] 23) (keepcell hb1 (newcell (g := w.heap.size) 0 (.int .i64 0) rfl rfl)))
      have e1 := keepcell hb2 (pastcell (x := .cells #[.int .i64 k, .int .i64 n, .string t] 23) (keepcell hb1 (newcell (g := w.heap.size) 1 (.int .i64 0) rfl rfl)))
      have e2 := keepcell hb2 (pastcell (x := .cells #[.int .i64 k, .int .i64 n, .string t] 23) (keepcell hb1 (newcell (g := w.heap.size) 2 (.string ⟨#[]⟩) rfl rfl)))
      have g0 := keepcell hb2 (newcell (w := w1) (T := 23) (cs := #[.int .i64 k, .int .i64 n, .string t]) (g := w1.heap.size) 0 (.int .i64 k) rfl rfl)
      have g1 := keepcell hb2 (newcell (w := w1) (T := 23) (cs := #[.int .i64 k, .int .i64 n, .string t]) (g := w1.heap.size) 1 (.int .i64 n) rfl rfl)
      have g2 := keepcell hb2 (newcell (w := w1) (T := 23) (cs := #[.int .i64 k, .int .i64 n, .string t]) (g := w1.heap.size) 2 (.string t) rfl rfl)
      have f0 := keepfree (by have := hb1.size; simp at this ⊢; omega) hb2 (keepfree (by have := hb1.size; simp at this; omega) (Joins.below_alloc1 w1 (.cells #[.int .i64 k, .int .i64 n, .string t] 23)) (keepfree (by simp) hb1 (newfree (w := w) (cs := #[.int .i64 0, .int .i64 0, .string ⟨#[]⟩]) (T := 23) (g := w.heap.size) rfl)))
      have HB := Lib.hid (HB1.out.trans (hb2.mono HB1.out.size))
      go_wp2
      refine bodyPost_ret (v := .tuple #[.agg #[.int .i64 0, .int .i64 0, .string ⟨#[]⟩], .int .i64 2]) (by simp [results, Tryd.results27, go_sem, e0, e1, e2]) rfl ⟨rfl, ?_⟩
      exact ((HB.out.setCell (by exact Nat.le_refl _) _).setCell (by exact Nat.le_refl _) _).setCell (by exact Nat.le_refl _) _
end Go.Proofs.YtkigdglipoeaaaaDoor
