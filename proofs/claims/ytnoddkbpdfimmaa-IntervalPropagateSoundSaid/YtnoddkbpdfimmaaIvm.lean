/- Lists of intervals in their only representation. -/
import Derived.Test.YtnoddkbpdfimmaaIvh2
namespace Go.Proofs.Ytnoddkbpdfimmaa
open Go.ChangeShapes Go.WideShapes Go.ChangeAt Go.RowKit Go.ChangeMaps

/-- Ascending, nonempty, and at least one integer between neighbours. -/
def Nrm (S : List Iv) : Prop := S.Pairwise (fun x y => x.hi + 1 < y.lo) ∧ ∀ x ∈ S, x.lo ≤ x.hi
theorem nrm_nil : Nrm [] := ⟨List.Pairwise.nil, by simp⟩
theorem nrm_tail {x : Iv} {S : List Iv} (h : Nrm (x :: S)) : Nrm S := ⟨(List.pairwise_cons.1 h.1).2, fun y hy => h.2 y (by simp [hy])⟩
theorem has_iff {z : Int} {x : Iv} : Iv.has z x = true ↔ x.lo ≤ z ∧ z ≤ x.hi := by
  unfold Iv.has; simp
theorem any_has {z : Int} {S : List Iv} : S.any (Iv.has z) = true ↔ ∃ x ∈ S, x.lo ≤ z ∧ z ≤ x.hi := by
  rw [List.any_eq_true]
  exact ⟨fun ⟨x, h1, h2⟩ => ⟨x, h1, has_iff.1 h2⟩, fun ⟨x, h1, h2⟩ => ⟨x, h1, has_iff.2 h2⟩⟩
theorem nrm_low {x : Iv} {S : List Iv} (h : Nrm (x :: S)) {z : Int} (hz : (x :: S).any (Iv.has z) = true) : x.lo ≤ z := by
  obtain ⟨y, hy, h1, h2⟩ := any_has.1 hz
  rcases List.mem_cons.1 hy with rfl | hy
  · exact h1
  · have := (List.pairwise_cons.1 h.1).1 y hy
    have := h.2 x (by simp)
    omega
theorem nrm_first {x : Iv} {S : List Iv} (h : Nrm (x :: S)) {z : Int} (h1 : x.lo ≤ z) (h2 : z ≤ x.hi) : (x :: S).any (Iv.has z) = true := any_has.2 ⟨x, by simp, h1, h2⟩
theorem nrm_gap {x : Iv} {S : List Iv} (h : Nrm (x :: S)) : (x :: S).any (Iv.has (x.hi + 1)) = false := by
  rw [Bool.eq_false_iff]
  intro hz
  obtain ⟨y, hy, h1, h2⟩ := any_has.1 hz
  rcases List.mem_cons.1 hy with rfl | hy
  · omega
  · have := (List.pairwise_cons.1 h.1).1 y hy
    omega
theorem nrm_rest {x : Iv} {S : List Iv} (h : Nrm (x :: S)) (z : Int) : S.any (Iv.has z) = ((x :: S).any (Iv.has z) && !(Iv.has z x)) := by
  rw [List.any_cons]
  cases h1 : Iv.has z x
  · simp
  · simp only [Bool.true_or, Bool.not_true, Bool.and_false]
    rw [Bool.eq_false_iff]
    intro hz
    obtain ⟨y, hy, h3, h4⟩ := any_has.1 hz
    have := (List.pairwise_cons.1 h.1).1 y hy
    have := has_iff.1 h1
    omega
theorem nrm_uniq : ∀ {S T : List Iv}, Nrm S → Nrm T → (∀ z, S.any (Iv.has z) = T.any (Iv.has z)) → S = T
  | [], [], _, _, _ => rfl
  | [], y :: T, _, hT, he => by
    have h1 := nrm_first hT (z := y.lo) (Int.le_refl _) (hT.2 y (by simp))
    rw [← he] at h1
    simp at h1
  | x :: S, [], hS, _, he => by
    have h1 := nrm_first hS (z := x.lo) (Int.le_refl _) (hS.2 x (by simp))
    rw [he] at h1
    simp at h1
  | x :: S, y :: T, hS, hT, he => by
    have a1 := hS.2 x (by simp)
    have a2 := hT.2 y (by simp)
    have l1 := nrm_low hT (z := x.lo) (by rw [← he]; exact nrm_first hS (Int.le_refl _) a1)
    have l2 := nrm_low hS (z := y.lo) (by rw [he]; exact nrm_first hT (Int.le_refl _) a2)
    have el : x.lo = y.lo := by omega
    have eh : x.hi = y.hi := by
      rcases Int.lt_trichotomy x.hi y.hi with h | h | h
      · have g := nrm_gap hS
        rw [he, nrm_first hT (z := x.hi + 1) (by omega) (by omega)] at g
        cases g
      · exact h
      · have g := nrm_gap hT
        rw [← he, nrm_first hS (z := y.hi + 1) (by omega) (by omega)] at g
        cases g
    have exy : x = y := by cases x; cases y; simp only at el eh; subst el; subst eh; rfl
    subst exy
    rw [nrm_uniq (nrm_tail hS) (nrm_tail hT) (fun z => by rw [nrm_rest hS, nrm_rest hT, he])]
theorem nrm_snoc {S : List Iv} {y : Iv} (h : Nrm S) (hy : y.lo ≤ y.hi) (hl : ∀ x ∈ S, x.hi + 1 < y.lo) : Nrm (S ++ [y]) := by
  refine ⟨List.pairwise_append.2 ⟨h.1, List.pairwise_singleton _ _, fun x hx z hz => ?_⟩, fun x hx => ?_⟩
  · rw [List.mem_singleton.1 hz]; exact hl x hx
  · rcases List.mem_append.1 hx with h1 | h1
    · exact h.2 x h1
    · rw [List.mem_singleton.1 h1]; exact hy
/-- The last upper end bounds all. -/
theorem nrm_last {S : List Iv} {p : Nat} (h : Nrm S) (hp : S.length = p + 1) : ∀ x ∈ S, x.hi ≤ (S.getD p ⟨0, 0⟩).hi := by
  obtain ⟨s1, -⟩ := last_split hp
  intro x hx
  rw [s1] at hx
  have hP := h.1
  rw [s1, List.pairwise_append] at hP
  rcases List.mem_append.1 hx with h1 | h1
  · have a := hP.2.2 x h1 _ (List.mem_singleton_self _)
    have b := h.2 (S.getD p ⟨0, 0⟩) (getD_mem (by omega))
    omega
  · rw [List.mem_singleton.1 h1]; exact Int.le_refl _
theorem fold_nrm : ∀ (T acc : List Iv), T.Pairwise (fun x y => x.lo ≤ y.lo) → (∀ x ∈ T, x.hi ≤ 9223372036854775807) → Nrm acc → (∀ p, acc.length = p + 1 → ∀ x ∈ T, (acc.getD p ⟨0, 0⟩).lo ≤ x.lo) → Nrm (T.foldl ofStep acc)
  | [], acc, _, _, h, _ => by simpa using h
  | x :: T, acc, hs, hok, h, hl => by
    rw [List.pairwise_cons] at hs
    rw [List.foldl_cons]
    have hokx := hok x (by simp)
    have hok' : ∀ y ∈ T, y.hi ≤ 9223372036854775807 := fun y hy => hok y (by simp [hy])
    have app : ∀ p, (acc ++ [x]).length = p + 1 → ∀ y ∈ T, ((acc ++ [x]).getD p ⟨0, 0⟩).lo ≤ y.lo := fun p hp y hy => by
      have hp' : p = acc.length := by simpa using hp.symm
      subst hp'
      rw [show (acc ++ [x]).getD acc.length ⟨0, 0⟩ = x by simp [List.getD]]
      exact hs.1 y hy
    by_cases he : x.emp = true
    · rw [show ofStep acc x = acc by unfold ofStep; rw [if_pos he]]
      exact fold_nrm T acc hs.2 hok' h (fun p hp y hy => hl p hp y (by simp [hy]))
    · have he : x.emp = false := by simpa using he
      have hne : x.lo ≤ x.hi := by unfold Iv.emp at he; simp only [decide_eq_false_iff_not] at he; omega
      rcases hp : acc.length with _ | p
      · rw [show ofStep acc x = acc ++ [x] by unfold ofStep; rw [he, if_neg (by simp), if_pos hp]]
        have : acc = [] := List.length_eq_zero_iff.1 hp
        refine fold_nrm T _ hs.2 hok' (nrm_snoc h hne ?_) app
        rw [this]; simp
      · have h2 := hl p hp
        by_cases ha : (acc.getD p ⟨0, 0⟩).apt x = true
        · rw [show ofStep acc x = acc ++ [x] by unfold ofStep; rw [he, if_neg (by simp), if_neg (by omega), show acc.length - 1 = p by omega, if_pos ha]]
          refine fold_nrm T _ hs.2 hok' (nrm_snoc h hne (fun y hy => ?_)) app
          have b := nrm_last h hp y hy
          unfold Iv.apt at ha
          simp only [Bool.and_eq_true, decide_eq_true_eq] at ha
          omega
        · have ha : (acc.getD p ⟨0, 0⟩).apt x = false := by simpa using ha
          obtain ⟨s1, s2⟩ := last_split hp
          rw [show ofStep acc x = acc.take p ++ [⟨(acc.getD p ⟨0, 0⟩).lo, max (acc.getD p ⟨0, 0⟩).hi x.hi⟩] by unfold ofStep; rw [he, if_neg (by simp), if_neg (by omega), show acc.length - 1 = p by omega, ha, if_neg (by simp), s2]]
          have hlast := h.2 (acc.getD p ⟨0, 0⟩) (getD_mem (by omega))
          refine fold_nrm T _ hs.2 hok' (nrm_snoc (y := ⟨(acc.getD p ⟨0, 0⟩).lo, max (acc.getD p ⟨0, 0⟩).hi x.hi⟩) ⟨h.1.sublist (List.take_sublist _ _), fun y hy => h.2 y (List.mem_of_mem_take hy)⟩ (by show (acc.getD p ⟨0, 0⟩).lo ≤ max _ _; omega) (fun y hy => ?_)) (fun q hq y hy => ?_)
          · have hP := h.1
            rw [s1, List.pairwise_append] at hP
            exact hP.2.2 y hy (acc.getD p ⟨0, 0⟩) (List.mem_singleton_self _)
          · have hq' : q = p := by simp at hq; omega
            subst hq'
            have hlt : (acc.take q).length = q := by rw [List.length_take]; omega
            rw [show ((acc.take q ++ [Iv.mk (acc.getD q ⟨0, 0⟩).lo (max (acc.getD q ⟨0, 0⟩).hi x.hi)]).getD q ⟨0, 0⟩) = Iv.mk (acc.getD q ⟨0, 0⟩).lo (max (acc.getD q ⟨0, 0⟩).hi x.hi) by simp [List.getD, hlt]]
            exact h2 y (by simp [hy])
theorem ofM_nrm {T R : List Iv} (hp : T.Perm R) (hs : T.Pairwise (fun x y => x.lo ≤ y.lo)) (hok : ∀ x ∈ R, x.ok) : Nrm (ofM T) :=
  fold_nrm T [] hs (fun x hx => (hok x ((hp.mem_iff (a := x)).1 hx)).2.2) nrm_nil (fun p hp => by simp at hp)
/-- S is the union of R in its only representation. -/
def Uni (R S : List Iv) : Prop := Nrm S ∧ ∀ z, S.any (Iv.has z) = R.any (Iv.has z)
theorem uni_eq {R S T : List Iv} (h : Uni R S) (g : Uni R T) : S = T := nrm_uniq h.1 g.1 (fun z => by rw [h.2, g.2])
theorem ofM_uni {T R : List Iv} (hp : T.Perm R) (hs : T.Pairwise (fun x y => x.lo ≤ y.lo)) (hok : ∀ x ∈ R, x.ok) : Uni R (ofM T) := ⟨ofM_nrm hp hs hok, fun z => of_has z hp hs hok⟩
def cand (S : List Iv) (x : Iv) : Bool := decide (x.lo ≤ x.hi) && (decide (S.length = 0) || decide ((S.getD (S.length - 1) ⟨0, 0⟩).hi < x.hi))
/-- What stands while the union is built: the part S that is whole. -/
def OfI (R S : List Iv) : Prop := Nrm S ∧ (∀ x ∈ S, x.ok) ∧ (∀ z, S.any (Iv.has z) = true → R.any (Iv.has z) = true) ∧
  (∀ x ∈ R, x.lo ≤ x.hi → cand S x = true → ∀ y ∈ S, y.hi + 1 < x.lo) ∧ (∀ x ∈ R, cand S x = false → ∀ z, x.lo ≤ z → z ≤ x.hi → S.any (Iv.has z) = true) ∧ S.length + R.countP (cand S) ≤ R.length
theorem ofI_nil {R : List Iv} : OfI R [] := ⟨nrm_nil, by simp, by simp, by simp, fun x _ hc z h1 h2 => by
  unfold cand at hc
  simp at hc
  omega, by simpa using List.countP_le_length⟩
/-- The least candidate among the first i. -/
def LoI (R S : List Iv) (i : Nat) (f : Bool) (low : Int) : Prop :=
  if f then (∃ x ∈ R, cand S x = true ∧ x.lo = low) ∧ (∀ x ∈ R.take i, cand S x = true → low ≤ x.lo) else low = 0 ∧ ∀ x ∈ R.take i, cand S x = false
theorem mem_take_succ {R : List Iv} {i : Nat} (hi : i < R.length) {x : Iv} : x ∈ R.take (i + 1) ↔ x ∈ R.take i ∨ x = R[i] := by
  rw [List.take_succ_eq_append_getElem hi, List.mem_append, List.mem_singleton]
theorem loI_zero {R S : List Iv} : LoI R S 0 false 0 := by
  unfold LoI; simp
theorem loI_skip {R S : List Iv} {i : Nat} {f : Bool} {low : Int} (h : LoI R S i f low) (hi : i < R.length) (hc : cand S R[i] = false) : LoI R S (i + 1) f low := by
  unfold LoI at h ⊢
  cases f
  · simp only [Bool.false_eq_true, ↓reduceIte] at h ⊢
    refine ⟨h.1, fun x hx => ?_⟩
    rcases (mem_take_succ hi).1 hx with h1 | rfl
    · exact h.2 x h1
    · exact hc
  · simp only [↓reduceIte] at h ⊢
    refine ⟨h.1, fun x hx hx2 => ?_⟩
    rcases (mem_take_succ hi).1 hx with h1 | rfl
    · exact h.2 x h1 hx2
    · rw [hc] at hx2; cases hx2
theorem loI_keep {R S : List Iv} {i : Nat} {low : Int} (h : LoI R S i true low) (hi : i < R.length) (hl : low ≤ R[i].lo) : LoI R S (i + 1) true low := by
  unfold LoI at h ⊢
  simp only [↓reduceIte] at h ⊢
  refine ⟨h.1, fun x hx hx2 => ?_⟩
  rcases (mem_take_succ hi).1 hx with h1 | rfl
  · exact h.2 x h1 hx2
  · exact hl
theorem loI_new {R S : List Iv} {i : Nat} {f : Bool} {low : Int} (h : LoI R S i f low) (hi : i < R.length) (hc : cand S R[i] = true) (hl : f = true → R[i].lo < low) : LoI R S (i + 1) true R[i].lo := by
  unfold LoI at h ⊢
  simp only [↓reduceIte]
  refine ⟨⟨R[i], List.getElem_mem hi, hc, rfl⟩, fun x hx hx2 => ?_⟩
  rcases (mem_take_succ hi).1 hx with h1 | rfl
  · cases f
    · simp only [Bool.false_eq_true, ↓reduceIte] at h
      rw [h.2 x h1] at hx2; cases hx2
    · simp only [↓reduceIte] at h
      have := h.2 x h1 hx2
      have := hl rfl
      omega
  · exact Int.le_refl _
theorem loI_none {R S : List Iv} {i : Nat} {low : Int} (h : LoI R S i false low) (hi : R.length ≤ i) (hO : OfI R S) : Uni R S := by
  unfold LoI at h
  simp only [Bool.false_eq_true, ↓reduceIte] at h
  rw [List.take_of_length_le hi] at h
  refine ⟨hO.1, fun z => ?_⟩
  rw [Bool.eq_iff_iff]
  refine ⟨hO.2.2.1 z, fun hz => ?_⟩
  obtain ⟨x, hx, h1, h2⟩ := any_has.1 hz
  exact hO.2.2.2.2.1 x hx (h.2 x hx) z h1 h2
/-- From low to high all belongs to R. -/
def HiI (R : List Iv) (low high : Int) : Prop := low ≤ high ∧ -9223372036854775808 ≤ low ∧ high ≤ 9223372036854775807 ∧ ∀ z, low ≤ z → z ≤ high → R.any (Iv.has z) = true
def ClI (R : List Iv) (i : Nat) (h0 high : Int) (ch : Bool) : Prop := if ch then h0 < high else high = h0 ∧ ∀ x ∈ R.take i, x.lo ≤ x.hi → x.hi ≤ high ∨ high + 1 < x.lo
theorem hiI_start {R S : List Iv} {i : Nat} {low : Int} (h : LoI R S i true low) (hok : ∀ x ∈ R, x.ok) : HiI R low low := by
  unfold LoI at h
  simp only [↓reduceIte] at h
  obtain ⟨⟨x, hx, hc, rfl⟩, -⟩ := h
  have ho := hok x hx
  unfold cand at hc
  simp only [Bool.and_eq_true, decide_eq_true_eq] at hc
  refine ⟨Int.le_refl _, ho.1.1, ho.1.2, fun z h1 h2 => any_has.2 ⟨x, hx, h1, by omega⟩⟩
theorem clI_zero {R : List Iv} {h0 : Int} : ClI R 0 h0 h0 false := by unfold ClI; simp
theorem clI_skip {R : List Iv} {i : Nat} {h0 high : Int} {ch : Bool} (h : ClI R i h0 high ch) (hi : i < R.length) (hs : R[i].lo ≤ R[i].hi → R[i].hi ≤ high ∨ high + 1 < R[i].lo) : ClI R (i + 1) h0 high ch := by
  unfold ClI at h ⊢
  cases ch
  · simp only [Bool.false_eq_true, ↓reduceIte] at h ⊢
    refine ⟨h.1, fun x hx => ?_⟩
    rcases (mem_take_succ hi).1 hx with h1 | rfl
    · exact h.2 x h1
    · exact hs
  · exact h
theorem clI_new {R : List Iv} {i : Nat} {h0 high h' : Int} {ch : Bool} (h : ClI R i h0 high ch) (hl : high < h') : ClI R (i + 1) h0 h' true := by
  unfold ClI at h ⊢
  cases ch
  · simp only [Bool.false_eq_true, ↓reduceIte] at h ⊢
    omega
  · simp only [↓reduceIte] at h ⊢
    omega
theorem hiI_new {R : List Iv} {low high : Int} {x : Iv} (h : HiI R low high) (hx : x ∈ R) (ho : x.ok) (h1 : high < x.hi) (h2 : x.lo ≤ high + 1) : HiI R low x.hi := by
  refine ⟨by have := h.1; omega, h.2.1, ho.2.2, fun z g1 g2 => ?_⟩
  by_cases hz : z ≤ high
  · exact h.2.2.2 z g1 hz
  · exact any_has.2 ⟨x, hx, by omega, g2⟩
theorem countP_lt {α : Type} {p q : α → Bool} : ∀ {R : List α}, (∀ x ∈ R, q x = true → p x = true) → (∃ x ∈ R, p x = true ∧ q x = false) → R.countP q < R.countP p
  | [], _, h => by obtain ⟨x, hx, _⟩ := h; simp at hx
  | x :: R, hi, ⟨y, hy, h1, h2⟩ => by
    have hmono : R.countP q ≤ R.countP p := List.countP_mono_left (fun z hz => hi z (by simp [hz]))
    rw [List.countP_cons, List.countP_cons]
    rcases List.mem_cons.1 hy with rfl | hy
    · rw [h1, h2]; simp; omega
    · have ih := countP_lt (R := R) (fun z hz => hi z (by simp [hz])) ⟨y, hy, h1, h2⟩
      have := hi x (by simp)
      cases hq : q x <;> cases hp : p x <;> simp_all <;> omega
theorem ofI_snoc {R S : List Iv} {i k : Nat} {low high : Int} (hO : OfI R S) (hL : LoI R S i true low) (hi : R.length ≤ i) (hH : HiI R low high) (hC : ClI R k high high false) (hk : R.length ≤ k) (hlast : ∀ p, S.length = p + 1 → ∀ x ∈ S, x.hi ≤ (S.getD p ⟨0, 0⟩).hi) : OfI R (S ++ [⟨low, high⟩]) ∧ R.countP (cand (S ++ [⟨low, high⟩])) < R.countP (cand S) := by
  unfold LoI at hL
  unfold ClI at hC
  simp only [↓reduceIte, Bool.false_eq_true] at hL hC
  rw [List.take_of_length_le hi] at hL
  rw [List.take_of_length_le hk] at hC
  obtain ⟨⟨x0, hx0, hc0, e0⟩, hmin⟩ := hL
  have hcl := hC.2
  obtain ⟨o1, o2, o3, o4, o5, o6⟩ := hO
  have ne0 : x0.lo ≤ x0.hi := by unfold cand at hc0; simp only [Bool.and_eq_true, decide_eq_true_eq] at hc0; exact hc0.1
  have hab : ∀ y ∈ S, y.hi + 1 < low := fun y hy => by rw [← e0]; exact o4 x0 hx0 ne0 hc0 y hy
  have hcn : ∀ x : Iv, cand (S ++ [⟨low, high⟩]) x = (decide (x.lo ≤ x.hi) && decide (high < x.hi)) := fun x => by
    unfold cand
    simp [List.getD]
  have imp : ∀ x, cand (S ++ [⟨low, high⟩]) x = true → cand S x = true := fun x hx => by
    rw [hcn] at hx
    simp only [Bool.and_eq_true, decide_eq_true_eq] at hx
    unfold cand
    simp only [Bool.and_eq_true, Bool.or_eq_true, decide_eq_true_eq]
    refine ⟨hx.1, ?_⟩
    by_cases h0 : S.length = 0
    · exact .inl h0
    · have := hab _ (getD_mem (R := S) (p := S.length - 1) (by omega))
      have := hH.1
      exact .inr (by omega)
  have hlt : R.countP (cand (S ++ [⟨low, high⟩])) < R.countP (cand S) := countP_lt (fun x _ h => imp x h) ⟨x0, hx0, hc0, by
    rw [hcn, Bool.and_eq_false_iff, decide_eq_false_iff_not, decide_eq_false_iff_not]
    have := hcl x0 hx0 ne0
    have := hH.1
    omega⟩
  refine ⟨⟨nrm_snoc o1 hH.1 hab, fun x hx => ?_, fun z hz => ?_, fun x hx hne hc y hy => ?_, fun x hx hc z h1 h2 => ?_, ?_⟩, hlt⟩
  · rcases List.mem_append.1 hx with h1 | h1
    · exact o2 x h1
    · rw [List.mem_singleton.1 h1]
      have := hH.1
      have := hH.2.1
      have := hH.2.2.1
      exact ⟨⟨by assumption, by show low ≤ _; omega⟩, by show _ ≤ high; omega, by assumption⟩
  · rw [List.any_append, Bool.or_eq_true] at hz
    rcases hz with hz | hz
    · exact o3 z hz
    · obtain ⟨y, hy, h1, h2⟩ := any_has.1 hz
      rw [List.mem_singleton.1 hy] at h1 h2
      exact hH.2.2.2 z h1 h2
  · have hS := imp x hc
    rw [hcn] at hc
    simp only [Bool.and_eq_true, decide_eq_true_eq] at hc
    rcases List.mem_append.1 hy with h1 | h1
    · exact o4 x hx hne hS y h1
    · rw [List.mem_singleton.1 h1]
      have := hcl x hx hne
      show high + 1 < x.lo
      omega
  · rw [List.any_append, Bool.or_eq_true]
    by_cases hS : cand S x = true
    · rw [hcn] at hc
      simp only [Bool.and_eq_false_iff, decide_eq_false_iff_not] at hc
      have := hmin x hx hS
      exact .inr (any_has.2 ⟨_, List.mem_singleton_self _, by show low ≤ z; omega, by show z ≤ high; omega⟩)
    · exact .inl (o5 x hx (by simpa using hS) z h1 h2)
  · rw [List.length_append]
    simp only [List.length_cons, List.length_nil]
    omega
theorem nrm_take {R : List Iv} (h : Nrm R) (k : Nat) : Nrm (R.take k) := ⟨h.1.sublist (List.take_sublist _ _), fun y hy => h.2 y (List.mem_of_mem_take hy)⟩
theorem nrm_first_ok {R : List Iv} {k : Nat} (h : Nrm (R.take k)) (hk : k < R.length) (he : R[k].emp = false) (ha : ∀ p, k = p + 1 → (R.getD p ⟨0, 0⟩).apt R[k] = true) : Nrm (R.take (k + 1)) := by
  rw [List.take_succ_eq_append_getElem hk]
  unfold Iv.emp at he
  simp only [decide_eq_false_iff_not] at he
  refine nrm_snoc h (by omega) (fun x hx => ?_)
  rcases k with _ | p
  · simp at hx
  · have hl : (R.take (p + 1)).length = p + 1 := by rw [List.length_take]; omega
    have h1 := nrm_last h hl x hx
    have h2 := ha p rfl
    rw [show (R.take (p + 1)).getD p ⟨0, 0⟩ = R.getD p ⟨0, 0⟩ by simp [List.getD, List.getElem?_take]] at h1
    unfold Iv.apt at h2
    simp only [Bool.and_eq_true, decide_eq_true_eq] at h2
    omega
theorem nrm_bad_emp {R : List Iv} {k : Nat} (hk : k < R.length) (he : R[k].emp = true) : ¬ Nrm R := fun h => by
  have := h.2 R[k] (List.getElem_mem hk)
  unfold Iv.emp at he
  simp only [decide_eq_true_eq] at he
  omega
theorem nrm_bad_apt {R : List Iv} {p : Nat} (hk : p + 1 < R.length) (hok : ∀ x ∈ R, x.ok) (ha : (R.getD p ⟨0, 0⟩).apt R[p + 1] = false) : ¬ Nrm R := fun h => by
  have h1 := List.pairwise_iff_getElem.1 h.1 p (p + 1) (by omega) hk (Nat.lt_succ_self p)
  have h2 := hok R[p + 1] (List.getElem_mem hk)
  rw [show R.getD p ⟨0, 0⟩ = R[p] by simp [List.getD, List.getElem?_eq_getElem (show p < R.length by omega)]] at ha
  unfold Iv.apt at ha
  simp only [Bool.and_eq_false_iff, decide_eq_false_iff_not] at ha
  have := h2.1.2
  omega
theorem nrm_self {R : List Iv} (h : Nrm R) : Uni R R := ⟨h, fun _ => rfl⟩
end Go.Proofs.Ytnoddkbpdfimmaa
