/- What the union of intervals contains. -/
import Derived.Test.YtnoddkbpdfimmaaIvr
namespace Go.Proofs.Ytnoddkbpdfimmaa
open Go.ChangeShapes Go.WideShapes Go.ChangeAt Go.RowKit Go.ChangeMaps

theorem last_split {R : List Iv} {p : Nat} (h : R.length = p + 1) : R = R.take p ++ [R.getD p ⟨0, 0⟩] ∧ ∀ y, R.set p y = R.take p ++ [y] := by
  have hp : p < R.length := by omega
  have h1 : R.take (p + 1) = R.take p ++ [R[p]] := List.take_succ_eq_append_getElem hp
  rw [List.take_of_length_le (by omega)] at h1
  have hx : R.getD p ⟨0, 0⟩ = R[p] := by simp [List.getD, List.getElem?_eq_getElem hp]
  refine ⟨by rw [hx]; exact h1, fun y => ?_⟩
  rw [List.set_eq_take_append_cons_drop, if_pos hp, List.drop_eq_nil_of_le (by omega)]
theorem has_merge {l x : Iv} {z : Int} (_hl : l.emp = false) (hx : x.emp = false) (ha : l.apt x = false) (hle : l.lo ≤ x.lo) (hok : x.hi ≤ 9223372036854775807) : Iv.has z ⟨l.lo, max l.hi x.hi⟩ = (l.has z || x.has z) := by
  unfold Iv.emp at hx
  unfold Iv.apt at ha
  unfold Iv.has
  simp only [decide_eq_false_iff_not] at hx
  simp only [Bool.and_eq_false_iff, decide_eq_false_iff_not] at ha
  rw [Bool.eq_iff_iff]
  simp only [Bool.and_eq_true, Bool.or_eq_true, decide_eq_true_eq]
  omega
theorem fold_has (z : Int) : ∀ (T acc : List Iv), T.Pairwise (fun x y => x.lo ≤ y.lo) → (∀ x ∈ T, x.hi ≤ 9223372036854775807) → (∀ p, acc.length = p + 1 → (acc.getD p ⟨0, 0⟩).emp = false ∧ ∀ x ∈ T, (acc.getD p ⟨0, 0⟩).lo ≤ x.lo) → (T.foldl ofStep acc).any (Iv.has z) = (acc.any (Iv.has z) || T.any (Iv.has z))
  | [], acc, _, _, _ => by simp
  | x :: T, acc, hs, hok, hl => by
    rw [List.pairwise_cons] at hs
    rw [List.foldl_cons]
    have hokx := hok x (by simp)
    have hok' : ∀ y ∈ T, y.hi ≤ 9223372036854775807 := fun y hy => hok y (by simp [hy])
    have app : x.emp = false → ∀ p, (acc ++ [x]).length = p + 1 → ((acc ++ [x]).getD p ⟨0, 0⟩).emp = false ∧ ∀ y ∈ T, ((acc ++ [x]).getD p ⟨0, 0⟩).lo ≤ y.lo := fun he p hp => by
      have hp' : p = acc.length := by simpa using hp.symm
      subst hp'
      rw [show (acc ++ [x]).getD acc.length ⟨0, 0⟩ = x by simp [List.getD]]
      exact ⟨he, fun y hy => hs.1 y hy⟩
    by_cases he : x.emp = true
    · have hh : x.has z = false := by
        unfold Iv.emp at he
        unfold Iv.has
        simp only [decide_eq_true_eq] at he
        simp only [Bool.and_eq_false_iff, decide_eq_false_iff_not]
        omega
      rw [show ofStep acc x = acc by unfold ofStep; rw [if_pos he], fold_has z T acc hs.2 hok' (fun p hp => ⟨(hl p hp).1, fun y hy => (hl p hp).2 y (by simp [hy])⟩), List.any_cons, hh]
      simp
    · have he : x.emp = false := by simpa using he
      rcases hp : acc.length with _ | p
      · rw [show ofStep acc x = acc ++ [x] by unfold ofStep; rw [he, if_neg (by simp), if_pos hp], fold_has z T _ hs.2 hok' (app he), List.any_append, List.any_cons]
        simp [Bool.or_assoc]
      · obtain ⟨h1, h2⟩ := hl p hp
        by_cases ha : (acc.getD p ⟨0, 0⟩).apt x = true
        · rw [show ofStep acc x = acc ++ [x] by unfold ofStep; rw [he, if_neg (by simp), if_neg (by omega), show acc.length - 1 = p by omega, if_pos ha], fold_has z T _ hs.2 hok' (app he), List.any_append, List.any_cons]
          simp [Bool.or_assoc]
        · have ha : (acc.getD p ⟨0, 0⟩).apt x = false := by simpa using ha
          obtain ⟨s1, s2⟩ := last_split hp
          have hm := has_merge (z := z) h1 he ha (h2 x (by simp)) hokx
          rw [show ofStep acc x = acc.take p ++ [⟨(acc.getD p ⟨0, 0⟩).lo, max (acc.getD p ⟨0, 0⟩).hi x.hi⟩] by unfold ofStep; rw [he, if_neg (by simp), if_neg (by omega), show acc.length - 1 = p by omega, ha, if_neg (by simp), s2]]
          rw [fold_has z T _ hs.2 hok' (fun q hq => by
            have hq' : q = p := by simp at hq; omega
            subst hq'
            have hlt : (acc.take q).length = q := by rw [List.length_take]; omega
            rw [show ((acc.take q ++ [Iv.mk (acc.getD q ⟨0, 0⟩).lo (max (acc.getD q ⟨0, 0⟩).hi x.hi)]).getD q ⟨0, 0⟩) = Iv.mk (acc.getD q ⟨0, 0⟩).lo (max (acc.getD q ⟨0, 0⟩).hi x.hi) by simp [List.getD, hlt]]
            refine ⟨?_, fun y hy => h2 y (by simp [hy])⟩
            unfold Iv.emp at h1 ⊢
            simp only [decide_eq_false_iff_not] at h1 ⊢
            omega)]
          rw [List.any_append]
          have e : acc.any (Iv.has z) = ((acc.take p).any (Iv.has z) || (acc.getD p ⟨0, 0⟩).has z) := by
            conv => lhs; rw [s1]
            rw [List.any_append]
            simp
          rw [e, List.any_cons, List.any_cons, hm]
          simp [Bool.or_assoc]
theorem fold_len : ∀ (T acc : List Iv), (T.foldl ofStep acc).length ≤ acc.length + T.length
  | [], acc => by simp
  | x :: T, acc => by
    rw [List.foldl_cons]
    have h1 := fold_len T (ofStep acc x)
    have h2 := ofStep_len acc x
    simp only [List.length_cons]
    omega
theorem ofM_len (T : List Iv) : (ofM T).length ≤ T.length := by
  have := fold_len T []
  simpa [ofM] using this
theorem of_has (z : Int) {T R : List Iv} (hp : T.Perm R) (hs : T.Pairwise (fun x y => x.lo ≤ y.lo)) (hok : ∀ x ∈ R, x.ok) : (ofM T).any (Iv.has z) = R.any (Iv.has z) := by
  unfold ofM
  rw [fold_has z T [] hs (fun x hx => (hok x ((hp.mem_iff (a := x)).1 hx)).2.2) (fun p hp => by simp at hp), show ([] : List Iv).any (Iv.has z) = false from rfl, Bool.false_or, Bool.eq_iff_iff, List.any_eq_true, List.any_eq_true]
  exact ⟨fun ⟨x, h1, h2⟩ => ⟨x, (hp.mem_iff (a := x)).1 h1, h2⟩, fun ⟨x, h1, h2⟩ => ⟨x, (hp.mem_iff (a := x)).2 h1, h2⟩⟩
end Go.Proofs.Ytnoddkbpdfimmaa
