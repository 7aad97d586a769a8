/- What belongs to two sets: the mathematics of Meet. -/
import Derived.Test.YtnoddkbpdfimmaaIvk
namespace Go.Proofs.Ytnoddkbpdfimmaa
open Go.ChangeShapes Go.WideShapes Go.ChangeAt Go.RowKit Go.ChangeMaps

def cutI (x y : Iv) : Iv := ⟨if x.lo < y.lo then y.lo else x.lo, if y.hi < x.hi then y.hi else x.hi⟩
theorem cut_has (z : Int) (x y : Iv) : Iv.has z (cutI x y) = (Iv.has z x && Iv.has z y) := by
  rw [Bool.eq_iff_iff, Bool.and_eq_true, has_iff, has_iff, has_iff]
  unfold cutI
  simp only
  split <;> split <;> omega
theorem cut_ok {x y : Iv} (hx : x.ok) (hy : y.ok) : (cutI x y).ok := by
  obtain ⟨⟨a1, a2⟩, a3, a4⟩ := hx
  obtain ⟨⟨b1, b2⟩, b3, b4⟩ := hy
  unfold cutI
  refine ⟨⟨?_, ?_⟩, ?_, ?_⟩ <;> simp only <;> split <;> assumption
theorem emp_has {x : Iv} (h : x.emp = true) (z : Int) : Iv.has z x = false := by
  unfold Iv.emp at h
  simp only [decide_eq_true_eq] at h
  rw [Bool.eq_false_iff]
  intro hz
  have := has_iff.1 hz
  omega
theorem drop_has {R : List Iv} {i : Nat} (hi : i < R.length) (z : Int) : (R.drop i).any (Iv.has z) = (Iv.has z R[i] || (R.drop (i + 1)).any (Iv.has z)) := by
  rw [List.drop_eq_getElem_cons hi, List.any_cons]
theorem nrm_drop {R : List Iv} (h : Nrm R) (i : Nat) : Nrm (R.drop i) := ⟨h.1.sublist (List.drop_sublist _ _), fun y hy => h.2 y (List.mem_of_mem_drop hy)⟩
theorem later {R : List Iv} (h : Nrm R) {i : Nat} (hi : i < R.length) {z : Int} (hz : (R.drop (i + 1)).any (Iv.has z) = true) : R[i].hi + 1 < z := by
  have h1 := nrm_drop h i
  rw [List.drop_eq_getElem_cons hi] at h1
  obtain ⟨y, hy, h2, h3⟩ := any_has.1 hz
  have := (List.pairwise_cons.1 h1.1).1 y hy
  omega
def mtS (S : List Iv) (c : Iv) : List Iv := if c.emp then S else S ++ [c]
theorem mtS_has (S : List Iv) (c : Iv) (z : Int) : (mtS S c).any (Iv.has z) = (S.any (Iv.has z) || Iv.has z c) := by
  unfold mtS
  split
  · rename_i h
    rw [emp_has h, Bool.or_false]
  · rw [List.any_append]; simp
/-- What stands while two sets are cut. -/
def MtI (R T : List Iv) (i j : Nat) (S : List Iv) : Prop := Nrm S ∧ (∀ x ∈ S, x.ok) ∧ S.length ≤ i + j ∧ (∀ z, S.any (Iv.has z) = true → R.any (Iv.has z) = true ∧ T.any (Iv.has z) = true) ∧
  (∀ z, R.any (Iv.has z) = true → T.any (Iv.has z) = true → S.any (Iv.has z) = true ∨ ((R.drop i).any (Iv.has z) = true ∧ (T.drop j).any (Iv.has z) = true)) ∧
  (∀ x ∈ S, ∀ z, (R.drop i).any (Iv.has z) = true → (T.drop j).any (Iv.has z) = true → x.hi + 1 < z)
theorem mt_start (R T : List Iv) : MtI R T 0 0 [] := ⟨nrm_nil, by simp, Nat.le_refl _, by simp, fun z h1 h2 => .inr ⟨by simpa using h1, by simpa using h2⟩, by simp⟩
theorem mt_step {R T S : List Iv} {i j i' j' : Nat} (h : MtI R T i j S) (hi : i < R.length) (hj : j < T.length) (o1 : ∀ x ∈ R, x.ok) (o2 : ∀ x ∈ T, x.ok)
    (hs : i' + j' = i + j + 1) (hsub : ∀ z, (R.drop i').any (Iv.has z) = true → (T.drop j').any (Iv.has z) = true → (R.drop i).any (Iv.has z) = true ∧ (T.drop j).any (Iv.has z) = true ∧ (cutI R[i] T[j]).hi + 1 < z)
    (hcov : ∀ z, (R.drop i).any (Iv.has z) = true → (T.drop j).any (Iv.has z) = true → Iv.has z (cutI R[i] T[j]) = true ∨ ((R.drop i').any (Iv.has z) = true ∧ (T.drop j').any (Iv.has z) = true)) : MtI R T i' j' (mtS S (cutI R[i] T[j])) := by
  obtain ⟨a1, a2, a3, a4, a5, a6⟩ := h
  have hin : ∀ z, Iv.has z (cutI R[i] T[j]) = true → (R.drop i).any (Iv.has z) = true ∧ (T.drop j).any (Iv.has z) = true := fun z hz => by
    rw [cut_has, Bool.and_eq_true] at hz
    rw [drop_has hi, drop_has hj, hz.1, hz.2]
    simp
  have hup : ∀ (L : List Iv) (k : Nat) z, (L.drop k).any (Iv.has z) = true → L.any (Iv.has z) = true := fun L k z hz => by
    obtain ⟨y, hy, h1⟩ := any_has.1 hz
    exact any_has.2 ⟨y, List.mem_of_mem_drop hy, h1⟩
  have hne : (cutI R[i] T[j]).emp = false → (cutI R[i] T[j]).lo ≤ (cutI R[i] T[j]).hi := fun he => by
    unfold Iv.emp at he
    simp only [decide_eq_false_iff_not] at he
    omega
  refine ⟨?_, ?_, ?_, fun z hz => ?_, fun z h1 h2 => ?_, fun x hx z h1 h2 => ?_⟩
  · unfold mtS
    split
    · exact a1
    · rename_i he
      have hl := hne (by simpa using he)
      refine nrm_snoc a1 hl (fun x hx => ?_)
      obtain ⟨h1, h2⟩ := hin _ (has_iff.2 ⟨Int.le_refl _, hl⟩)
      exact a6 x hx _ h1 h2
  · intro x hx
    unfold mtS at hx
    split at hx
    · exact a2 x hx
    · rcases List.mem_append.1 hx with h1 | h1
      · exact a2 x h1
      · rw [List.mem_singleton.1 h1]; exact cut_ok (o1 _ (List.getElem_mem hi)) (o2 _ (List.getElem_mem hj))
  · unfold mtS
    split
    · omega
    · rw [List.length_append]; simp only [List.length_cons, List.length_nil]; omega
  · rw [mtS_has, Bool.or_eq_true] at hz
    rcases hz with hz | hz
    · exact a4 z hz
    · obtain ⟨h1, h2⟩ := hin z hz
      exact ⟨hup _ _ _ h1, hup _ _ _ h2⟩
  · rw [mtS_has, Bool.or_eq_true]
    rcases a5 z h1 h2 with h3 | ⟨h3, h4⟩
    · exact .inl (.inl h3)
    · rcases hcov z h3 h4 with h5 | h5
      · exact .inl (.inr h5)
      · exact .inr h5
  · obtain ⟨h3, h4, h5⟩ := hsub z h1 h2
    unfold mtS at hx
    split at hx
    · exact a6 x hx z h3 h4
    · rcases List.mem_append.1 hx with h6 | h6
      · exact a6 x h6 z h3 h4
      · rw [List.mem_singleton.1 h6]; exact h5
theorem cut_hi (x y : Iv) : (cutI x y).hi ≤ x.hi ∧ (cutI x y).hi ≤ y.hi := by
  unfold cutI
  simp only
  split <;> omega
theorem mt_i {R T S : List Iv} {i j : Nat} (h : MtI R T i j S) (hi : i < R.length) (hj : j < T.length) (o1 : ∀ x ∈ R, x.ok) (o2 : ∀ x ∈ T, x.ok) (n1 : Nrm R) (n2 : Nrm T) (hl : R[i].hi < T[j].hi) : MtI R T (i + 1) j (mtS S (cutI R[i] T[j])) := by
  refine mt_step h hi hj o1 o2 (by omega) (fun z h1 h2 => ⟨by rw [drop_has hi, h1, Bool.or_true], h2, ?_⟩) (fun z h1 h2 => ?_)
  · have := later n1 hi h1
    have := (cut_hi R[i] T[j]).1
    omega
  · rw [drop_has hi, Bool.or_eq_true] at h1
    rcases h1 with h1 | h1
    · rw [drop_has hj, Bool.or_eq_true] at h2
      rcases h2 with h2 | h2
      · left; rw [cut_has, h1, h2]; rfl
      · have := later n2 hj h2
        have := has_iff.1 h1
        omega
    · exact .inr ⟨h1, h2⟩
theorem mt_j {R T S : List Iv} {i j : Nat} (h : MtI R T i j S) (hi : i < R.length) (hj : j < T.length) (o1 : ∀ x ∈ R, x.ok) (o2 : ∀ x ∈ T, x.ok) (n1 : Nrm R) (n2 : Nrm T) (hl : ¬ R[i].hi < T[j].hi) : MtI R T i (j + 1) (mtS S (cutI R[i] T[j])) := by
  refine mt_step h hi hj o1 o2 (by omega) (fun z h1 h2 => ⟨h1, by rw [drop_has hj, h2, Bool.or_true], ?_⟩) (fun z h1 h2 => ?_)
  · have := later n2 hj h2
    have := (cut_hi R[i] T[j]).2
    omega
  · rw [drop_has hj, Bool.or_eq_true] at h2
    rcases h2 with h2 | h2
    · rw [drop_has hi, Bool.or_eq_true] at h1
      rcases h1 with h1 | h1
      · left; rw [cut_has, h1, h2]; rfl
      · have := later n1 hi h1
        have := has_iff.1 h2
        omega
    · exact .inr ⟨h1, h2⟩
/-- S is what belongs to both, in its only representation. -/
def Cut (R T S : List Iv) : Prop := Nrm S ∧ ∀ z, S.any (Iv.has z) = (R.any (Iv.has z) && T.any (Iv.has z))
theorem cut_eq {R T S S' : List Iv} (h : Cut R T S) (g : Cut R T S') : S = S' := nrm_uniq h.1 g.1 (fun z => by rw [h.2, g.2])
theorem mt_end {R T S : List Iv} {i j : Nat} (h : MtI R T i j S) (he : R.length ≤ i ∨ T.length ≤ j) : Cut R T S := by
  refine ⟨h.1, fun z => ?_⟩
  rw [Bool.eq_iff_iff, Bool.and_eq_true]
  refine ⟨h.2.2.2.1 z, fun ⟨h1, h2⟩ => ?_⟩
  rcases h.2.2.2.2.1 z h1 h2 with h3 | ⟨h3, h4⟩
  · exact h3
  · rcases he with he | he
    · rw [List.drop_eq_nil_of_le he] at h3; simp at h3
    · rw [List.drop_eq_nil_of_le he] at h4; simp at h4
def prX (R T : List Iv) : List Iv := R.flatMap (fun x => T.map (cutI x))
theorem prX_has (R T : List Iv) (z : Int) : (prX R T).any (Iv.has z) = (R.any (Iv.has z) && T.any (Iv.has z)) := by
  rw [Bool.eq_iff_iff, Bool.and_eq_true, List.any_eq_true, List.any_eq_true, List.any_eq_true]
  unfold prX
  constructor
  · rintro ⟨x, hx, hz⟩
    obtain ⟨a, ha, hx⟩ := List.mem_flatMap.1 hx
    obtain ⟨b, hb, rfl⟩ := List.mem_map.1 hx
    rw [cut_has, Bool.and_eq_true] at hz
    exact ⟨⟨a, ha, hz.1⟩, ⟨b, hb, hz.2⟩⟩
  · rintro ⟨⟨a, ha, h1⟩, ⟨b, hb, h2⟩⟩
    exact ⟨_, List.mem_flatMap.2 ⟨a, ha, List.mem_map.2 ⟨b, hb, rfl⟩⟩, by rw [cut_has, h1, h2]; rfl⟩
theorem prX_ok {R T : List Iv} (h1 : ∀ x ∈ R, x.ok) (h2 : ∀ x ∈ T, x.ok) : ∀ x ∈ prX R T, x.ok := by
  intro x hx
  obtain ⟨a, ha, hx⟩ := List.mem_flatMap.1 hx
  obtain ⟨b, hb, rfl⟩ := List.mem_map.1 hx
  exact cut_ok (h1 a ha) (h2 b hb)
theorem prX_take (R T : List Iv) (i : Nat) (hi : i < R.length) : prX (R.take (i + 1)) T = prX (R.take i) T ++ T.map (cutI R[i]) := by
  unfold prX
  rw [List.take_succ_eq_append_getElem hi, List.flatMap_append]
  simp
theorem prX_len (R T : List Iv) : (prX R T).length = R.length * T.length := by
  unfold prX
  induction R with
  | nil => simp
  | cons x R ih => rw [List.flatMap_cons, List.length_append, ih, List.length_map, List.length_cons, Nat.add_mul]; omega
theorem prX_cut {R T S : List Iv} (h : Uni (prX R T) S) : Cut R T S := ⟨h.1, fun z => by rw [h.2, prX_has]⟩
end Go.Proofs.Ytnoddkbpdfimmaa
