/- Keywords. -/
import Derived.Test.YtdkkflmhpncglaaDoorLxr
namespace Go.Proofs.YtdkkflmhpncglaaDoor
open Go.ChangeShapes Go.WideShapes Go.ChangeAt Go.RowKit Go.ChangeMaps

def KWS : List (List UInt8) := [[65, 78, 68], [65, 83], [65, 83, 67], [66, 69, 71, 73, 78], [66, 69, 84, 87, 69, 69, 78], [66, 89], [67, 72, 69, 67, 75], [67, 79, 77, 77, 73, 84], [67, 79, 85, 78, 84], [67, 82, 69, 65, 84, 69], [68, 69, 76, 69, 84, 69], [68, 69, 83, 67], [70, 79, 82, 69, 73, 71, 78], [70, 82, 79, 77], [71, 82, 79, 85, 80], [73, 78], [73, 78, 83, 69, 82, 84], [73, 78, 84, 69, 71, 69, 82], [73, 78, 84, 79], [73, 83], [74, 79, 73, 78], [75, 69, 89], [76, 69, 78, 71, 84, 72], [76, 73, 75, 69], [76, 73, 77, 73, 84], [77, 65, 88], [77, 73, 78], [78, 79, 84], [78, 85, 76, 76], [79, 78], [79, 82], [79, 82, 68, 69, 82], [80, 82, 73, 77, 65, 82, 89], [82, 69, 70, 69, 82, 69, 78, 67, 69, 83], [82, 69, 76, 69, 65, 83, 69], [82, 79, 76, 76, 66, 65, 67, 75], [83, 65, 86, 69, 80, 79, 73, 78, 84], [83, 69, 76, 69, 67, 84], [83, 69, 84], [83, 85, 77], [84, 65, 66, 76, 69], [84, 69, 88, 84], [84, 79], [85, 78, 73, 81, 85, 69], [85, 80, 68, 65, 84, 69], [86, 65, 76, 85, 69, 83], [87, 72, 69, 82, 69]]
def kwL (l : List UInt8) : Bool := KWS.any (fun k => k == l)
theorem tol (s : ByteArray) : s.toList = lst s := ByteArray.toList_eq s
theorem kw_none {l : List UInt8} (h : kwL l = false) : ∀ k ∈ KWS, (l == k) = false := fun k hk => by
  unfold kwL at h
  rw [List.any_eq_false] at h
  have := h k hk
  rw [Bool.eq_false_iff]
  intro e
  rw [beq_iff_eq] at e
  exact this (by rw [e]; simp)
theorem kw_some {l : List UInt8} (h : kwL l = true) : l ∈ KWS := by
  unfold kwL at h
  obtain ⟨k, hk, e⟩ := List.any_eq_true.1 h
  rw [beq_iff_eq] at e
  rw [← e]
  exact hk
set_option maxRecDepth 100000 in
set_option maxHeartbeats 4000000 in
theorem isKeyword_any (s : ByteArray) (w : World) : Calls Tryd.prog 29 #[.string s] w fun e w' => e = .returned (.bool (kwL (lst s))) ∧ w' = w := by
  obtain ⟨r, hr⟩ : ∃ r, kwL (lst s) = r := ⟨_, rfl⟩
  rw [hr]
  cases r
  · have HN := Lib.hid (kw_none hr)
    clear hr
    have q0 : (s.toList == [65, 78, 68]) = false := by rw [tol]; exact HN.out [65, 78, 68] (by decide)
    have q1 : (s.toList == [65, 83]) = false := by rw [tol]; exact HN.out [65, 83] (by decide)
    have q2 : (s.toList == [65, 83, 67]) = false := by rw [tol]; exact HN.out [65, 83, 67] (by decide)
    have q3 : (s.toList == [66, 69, 71, 73, 78]) = false := by rw [tol]; exact HN.out [66, 69, 71, 73, 78] (by decide)
    have q4 : (s.toList == [66, 69, 84, 87, 69, 69, 78]) = false := by rw [tol]; exact HN.out [66, 69, 84, 87, 69, 69, 78] (by decide)
    have q5 : (s.toList == [66, 89]) = false := by rw [tol]; exact HN.out [66, 89] (by decide)
    have q6 : (s.toList == [67, 72, 69, 67, 75]) = false := by rw [tol]; exact HN.out [67, 72, 69, 67, 75] (by decide)
    have q7 : (s.toList == [67, 79, 77, 77, 73, 84]) = false := by rw [tol]; exact HN.out [67, 79, 77, 77, 73, 84] (by decide)
    have q8 : (s.toList == [67, 79, 85, 78, 84]) = false := by rw [tol]; exact HN.out [67, 79, 85, 78, 84] (by decide)
    have q9 : (s.toList == [67, 82, 69, 65, 84, 69]) = false := by rw [tol]; exact HN.out [67, 82, 69, 65, 84, 69] (by decide)
    have q10 : (s.toList == [68, 69, 76, 69, 84, 69]) = false := by rw [tol]; exact HN.out [68, 69, 76, 69, 84, 69] (by decide)
    have q11 : (s.toList == [68, 69, 83, 67]) = false := by rw [tol]; exact HN.out [68, 69, 83, 67] (by decide)
    have q12 : (s.toList == [70, 79, 82, 69, 73, 71, 78]) = false := by rw [tol]; exact HN.out [70, 79, 82, 69, 73, 71, 78] (by decide)
    have q13 : (s.toList == [70, 82, 79, 77]) = false := by rw [tol]; exact HN.out [70, 82, 79, 77] (by decide)
    have q14 : (s.toList == [71, 82, 79, 85, 80]) = false := by rw [tol]; exact HN.out [71, 82, 79, 85, 80] (by decide)
    have q15 : (s.toList == [73, 78]) = false := by rw [tol]; exact HN.out [73, 78] (by decide)
    have q16 : (s.toList == [73, 78, 83, 69, 82, 84]) = false := by rw [tol]; exact HN.out [73, 78, 83, 69, 82, 84] (by decide)
    have q17 : (s.toList == [73, 78, 84, 69, 71, 69, 82]) = false := by rw [tol]; exact HN.out [73, 78, 84, 69, 71, 69, 82] (by decide)
    have q18 : (s.toList == [73, 78, 84, 79]) = false := by rw [tol]; exact HN.out [73, 78, 84, 79] (by decide)
    have q19 : (s.toList == [73, 83]) = false := by rw [tol]; exact HN.out [73, 83] (by decide)
    have q20 : (s.toList == [74, 79, 73, 78]) = false := by rw [tol]; exact HN.out [74, 79, 73, 78] (by decide)
    have q21 : (s.toList == [75, 69, 89]) = false := by rw [tol]; exact HN.out [75, 69, 89] (by decide)
    have q22 : (s.toList == [76, 69, 78, 71, 84, 72]) = false := by rw [tol]; exact HN.out [76, 69, 78, 71, 84, 72] (by decide)
    have q23 : (s.toList == [76, 73, 75, 69]) = false := by rw [tol]; exact HN.out [76, 73, 75, 69] (by decide)
    have q24 : (s.toList == [76, 73, 77, 73, 84]) = false := by rw [tol]; exact HN.out [76, 73, 77, 73, 84] (by decide)
    have q25 : (s.toList == [77, 65, 88]) = false := by rw [tol]; exact HN.out [77, 65, 88] (by decide)
    have q26 : (s.toList == [77, 73, 78]) = false := by rw [tol]; exact HN.out [77, 73, 78] (by decide)
    have q27 : (s.toList == [78, 79, 84]) = false := by rw [tol]; exact HN.out [78, 79, 84] (by decide)
    have q28 : (s.toList == [78, 85, 76, 76]) = false := by rw [tol]; exact HN.out [78, 85, 76, 76] (by decide)
    have q29 : (s.toList == [79, 78]) = false := by rw [tol]; exact HN.out [79, 78] (by decide)
    have q30 : (s.toList == [79, 82]) = false := by rw [tol]; exact HN.out [79, 82] (by decide)
    have q31 : (s.toList == [79, 82, 68, 69, 82]) = false := by rw [tol]; exact HN.out [79, 82, 68, 69, 82] (by decide)
    have q32 : (s.toList == [80, 82, 73, 77, 65, 82, 89]) = false := by rw [tol]; exact HN.out [80, 82, 73, 77, 65, 82, 89] (by decide)
    have q33 : (s.toList == [82, 69, 70, 69, 82, 69, 78, 67, 69, 83]) = false := by rw [tol]; exact HN.out [82, 69, 70, 69, 82, 69, 78, 67, 69, 83] (by decide)
    have q34 : (s.toList == [82, 69, 76, 69, 65, 83, 69]) = false := by rw [tol]; exact HN.out [82, 69, 76, 69, 65, 83, 69] (by decide)
    have q35 : (s.toList == [82, 79, 76, 76, 66, 65, 67, 75]) = false := by rw [tol]; exact HN.out [82, 79, 76, 76, 66, 65, 67, 75] (by decide)
    have q36 : (s.toList == [83, 65, 86, 69, 80, 79, 73, 78, 84]) = false := by rw [tol]; exact HN.out [83, 65, 86, 69, 80, 79, 73, 78, 84] (by decide)
    have q37 : (s.toList == [83, 69, 76, 69, 67, 84]) = false := by rw [tol]; exact HN.out [83, 69, 76, 69, 67, 84] (by decide)
    have q38 : (s.toList == [83, 69, 84]) = false := by rw [tol]; exact HN.out [83, 69, 84] (by decide)
    have q39 : (s.toList == [83, 85, 77]) = false := by rw [tol]; exact HN.out [83, 85, 77] (by decide)
    have q40 : (s.toList == [84, 65, 66, 76, 69]) = false := by rw [tol]; exact HN.out [84, 65, 66, 76, 69] (by decide)
    have q41 : (s.toList == [84, 69, 88, 84]) = false := by rw [tol]; exact HN.out [84, 69, 88, 84] (by decide)
    have q42 : (s.toList == [84, 79]) = false := by rw [tol]; exact HN.out [84, 79] (by decide)
    have q43 : (s.toList == [85, 78, 73, 81, 85, 69]) = false := by rw [tol]; exact HN.out [85, 78, 73, 81, 85, 69] (by decide)
    have q44 : (s.toList == [85, 80, 68, 65, 84, 69]) = false := by rw [tol]; exact HN.out [85, 80, 68, 65, 84, 69] (by decide)
    have q45 : (s.toList == [86, 65, 76, 85, 69, 83]) = false := by rw [tol]; exact HN.out [86, 65, 76, 85, 69, 83] (by decide)
    have q46 : (s.toList == [87, 72, 69, 82, 69]) = false := by rw [tol]; exact HN.out [87, 72, 69, 82, 69] (by decide)
    go_enter Tryd.func29, Tryd.ntmps29
    go_wp2
    go_ret
    exact ⟨rfl, rfl⟩
  · have hm := kw_some hr
    clear hr
    have hs : s = ⟨(lst s).toArray⟩ := by cases s; simp [lst]
    rw [hs]
    generalize lst s = l at *
    clear hs
    unfold KWS at hm
    simp only [List.mem_cons, List.not_mem_nil, or_false] at hm
    rcases hm with rfl | rfl | rfl | rfl | rfl | rfl | rfl | rfl | rfl | rfl | rfl | rfl | rfl | rfl | rfl | rfl | rfl | rfl | rfl | rfl | rfl | rfl | rfl | rfl | rfl | rfl | rfl | rfl | rfl | rfl | rfl | rfl | rfl | rfl | rfl | rfl | rfl | rfl | rfl | rfl | rfl | rfl | rfl | rfl | rfl | rfl | rfl <;>
    · go_enter Tryd.func29, Tryd.ntmps29
      go_wp2
      go_ret
      exact ⟨rfl, rfl⟩
set_option maxRecDepth 100000 in
set_option maxHeartbeats 4000000 in
theorem keywords_any (w : World) : Calls Tryd.prog 31 #[] w fun e w' => e = .returned (.slice (some ⟨w.heap.size, 0, none⟩) 47 47) ∧ Blk w' w.heap.size 9 (KWS.map (fun l => Value.string ⟨l.toArray⟩)).toArray ∧ Below w.heap.size w w' := by
  go_enter Tryd.func31, Tryd.ntmps31
  go_wp2
  go_ret
  exact ⟨rfl, Blk.new _ _ _, (Below.refl _ w).alloc (Nat.le_refl _) _⟩
theorem kws_len : KWS.length = 47 := by decide
end Go.Proofs.YtdkkflmhpncglaaDoor
