/- Facts about rows. -/
import Derived.Test.YtcocdhndhlegiaaSpu
import Derived.Test.YtcocdhndhlegiaaSsm
import Derived.Test.YtcocdhndhlegiaaSro
import Derived.Test.YtcocdhndhlegiaaSty
namespace Go.Proofs.Ytcocdhndhlegiaa
open Go.ChangeShapes Go.WideShapes Go.ChangeAt Go.RowKit Go.ChangeMaps

theorem rowOk_len {R : List V3} (h : rowOk R = true) : R.length ≤ 12 := by
  unfold rowOk at h
  simp only [Bool.and_eq_true, decide_eq_true_eq] at h
  exact h.2
theorem rowOk_mem {R : List V3} (h : rowOk R = true) : ∀ x ∈ R, x.valid = true := by
  unfold rowOk at h
  simp only [Bool.and_eq_true, List.all_eq_true] at h
  exact h.1
theorem v3_one (R : List V3) : ∀ u ∈ R.flatMap V3.cells, u.oneCell' = true := by
  intro u hu
  obtain ⟨x, -, h⟩ := List.mem_flatMap.1 hu
  simp only [V3.cells, List.mem_cons, List.not_mem_nil, or_false] at h
  rcases h with rfl | rfl | rfl <;> rfl
theorem eqB_refl (s : Sd) : s.eqB s = true := by
  unfold Sd.eqB
  simp
theorem zip_refl {α : Type} (p : α → α → Bool) (hp : ∀ a, p a a = true) : ∀ R : List α, zipAll p R R = true
  | [] => rfl
  | a :: R => by show (p a a && zipAll p R R) = true; rw [hp, zip_refl p hp R]; rfl
theorem sameB_refl (t : Int) (R : List Sd) : sameB t t R R = true := by
  unfold sameB
  rw [if_pos rfl, if_pos rfl]
  exact zip_refl _ eqB_refl R
theorem ba_none {s : ByteArray} (h : s.size = 0) : s = ⟨#[]⟩ := by
  obtain ⟨a⟩ := s
  have : a.size = 0 := h
  exact congrArg ByteArray.mk (Array.eq_empty_of_size_eq_zero this)
theorem row_eq (x : V3) (h : x.valid = true) : rowR x = rowS x := by
  obtain ⟨k, n, s⟩ := x
  simp only [V3.valid] at h
  simp only [rowR, rowS]
  by_cases h0 : k = 0
  · subst h0
    simp only [if_true, Bool.and_eq_true, decide_eq_true_eq] at h
    have := ba_none h.2
    subst this
    simp
  · by_cases h1 : k = 1
    · simp [h1]
    · by_cases h2 : k = 2
      · simp [h2]
      · simp [h0, h1, h2] at h
theorem row_in (x : V3) (h : x.valid = true) : (rowS x).inB x = true := by
  obtain ⟨k, n, s⟩ := x
  simp only [rowS, Sd.inB]
  by_cases h0 : k = 0
  · simp [h0]
  · by_cases h1 : k = 1
    · simp [h1]
    · simp [h0, h1, tle_refl]
theorem row_fit (x y : V3) (hx : x.valid = true) (hy : y.valid = true) (h : (rowS x).inB y = true) : fitB x y = true := by
  obtain ⟨k, n, s⟩ := x
  obtain ⟨k', n', s'⟩ := y
  simp only [V3.valid] at hx hy
  simp only [rowS, Sd.inB] at h
  simp only [fitB, V3.eqB]
  by_cases he : k = k'
  · subst he
    by_cases h0 : k = 0
    · subst h0
      simp only [if_true, Bool.and_eq_true, decide_eq_true_eq] at hx hy
      obtain ⟨rfl, hs⟩ := hx
      obtain ⟨rfl, hs'⟩ := hy
      rw [ba_none hs, ba_none hs']
      simp
    · by_cases h1 : k = 1
      · subst h1
        simp only [show ¬((1 : Int) = 0) by decide, if_false, if_true, decide_eq_true_eq] at hx hy
        simp only [show ¬((1 : Int) = 0) by decide, if_false, if_true, Bool.true_and, Bool.and_eq_true, decide_eq_true_eq] at h
        have : n = n' := by omega
        subst this
        rw [ba_none hx, ba_none hy]
        simp
      · by_cases h2 : k = 2
        · subst h2
          simp only [show ¬((2 : Int) = 0) by decide, show ¬((2 : Int) = 1) by decide, if_false, if_true, Bool.and_eq_true, decide_eq_true_eq] at hx hy
          simp only [show ¬((2 : Int) = 0) by decide, show ¬((2 : Int) = 1) by decide, if_false, decide_false, Bool.not_false, Bool.true_and, Bool.and_eq_true] at h
          rw [tle_antisymm h.1 h.2, hx.1.1, hy.1.1]
          simp
        · simp [h0, h1, h2] at hx
  · simp [he]
theorem rows_eq {R : List V3} (h : rowOk R = true) : R.map rowR = R.map rowS := List.map_congr_left fun x hx => row_eq x (rowOk_mem h x hx)
theorem zip_map {α β : Type} (f : β → α) (p : α → β → Bool) : ∀ (R : List β), (∀ x ∈ R, p (f x) x = true) → zipAll p (R.map f) R = true
  | [], _ => rfl
  | x :: R, h => by
    show (p (f x) x && zipAll p (R.map f) R) = true
    rw [h x (List.mem_cons_self ..), zip_map f p R fun y hy => h y (List.mem_cons_of_mem _ hy)]; rfl
theorem zip_map2 {α β : Type} (f : β → α) (p : α → β → Bool) (q : β → β → Bool) : ∀ (R S : List β), (∀ x ∈ R, ∀ y ∈ S, p (f x) y = true → q x y = true) → zipAll p (R.map f) S = true → zipAll q R S = true
  | [], [], _, _ => rfl
  | [], _ :: _, _, _ => rfl
  | _ :: _, [], _, _ => rfl
  | x :: R, y :: S, h, g => by
    have g : (p (f x) y && zipAll p (R.map f) S) = true := g
    simp only [Bool.and_eq_true] at g
    show (q x y && zipAll q R S) = true
    rw [h x (List.mem_cons_self ..) y (List.mem_cons_self ..) g.1, zip_map2 f p q R S (fun x hx y hy => h x (List.mem_cons_of_mem _ hx) y (List.mem_cons_of_mem _ hy)) g.2]; rfl
theorem row_cont {R : List V3} (h : rowOk R = true) (hn : R.length ≠ 0) : contB (R.map rowS) R = true := by
  unfold contB
  rw [List.length_map, if_neg hn, if_pos rfl]
  exact zip_map rowS Sd.inB R fun x hx => row_in x (rowOk_mem h x hx)
theorem row_fits {R S : List V3} (h : rowOk R = true) (h2 : rowOk S = true) (hc : contB (R.map rowS) S = true) : S.length = R.length ∧ zipAll fitB R S = true := by
  unfold contB at hc
  rw [List.length_map] at hc
  split at hc
  · cases hc
  · split at hc
    · rename_i hl
      exact ⟨hl, zip_map2 rowS Sd.inB fitB R S (fun x hx y hy => row_fit x y (rowOk_mem h x hx) (rowOk_mem h2 y hy)) hc⟩
    · cases hc
theorem common_side (s t : Sd) (x : V3) (hv : x.valid = true) (h : s.inB x = true) (g : t.inB x = true) (hs : typB s x = true) (ht : typB t x = true) : s.meetB t = true := by
  obtain ⟨k, n, b⟩ := x
  rw [Sd.meetB_eq]
  simp only [V3.valid] at hv
  simp only [Sd.inB] at h g
  simp only [typB] at hs ht
  by_cases h0 : k = 0
  · simp only [h0, if_true] at h g
    rw [h, g]; rfl
  · by_cases h1 : k = 1
    · subst h1
      simp only [show ¬((1 : Int) = 0) by decide, if_false, if_true, Bool.and_eq_true, decide_eq_true_eq] at h g hs ht
      have e : ∀ a b : ByteArray, a.toList = [] → b.toList = [] → tle a b = true := fun a b ha hb => by simp [tle, ha, hb]
      rw [h.1, g.1, e _ _ hs.1 hs.2, e _ _ hs.1 ht.2, e _ _ ht.1 hs.2, e _ _ ht.1 ht.2]
      simp
      exact .inr ⟨⟨by omega, by omega⟩, by omega, by omega⟩
    · by_cases h2 : k = 2
      · subst h2
        simp only [show ¬((2 : Int) = 0) by decide, show ¬((2 : Int) = 1) by decide, if_false, if_true, Bool.and_eq_true, decide_eq_true_eq] at h g hs ht
        rw [h.1, g.1, tle_trans h.2.1 h.2.2, tle_trans h.2.1 g.2.2, tle_trans g.2.1 h.2.2, tle_trans g.2.1 g.2.2, hs.1, hs.2, ht.1, ht.2]
        simp
      · simp [h0, h1, h2] at hv
theorem zip3 : ∀ (R S : List Sd) (X : List V3), (∀ x ∈ X, x.valid = true) → R.length = S.length → R.length = X.length → zipAll Sd.inB R X = true → zipAll Sd.inB S X = true → zipAll typB R X = true → zipAll typB S X = true → zipAll Sd.meetB R S = true
  | [], [], _, _, _, _, _, _, _, _ => rfl
  | [], _ :: _, _, _, h, _, _, _, _, _ => by cases h
  | _ :: _, [], _, _, h, _, _, _, _, _ => by cases h
  | _ :: _, _ :: _, [], _, _, h, _, _, _, _ => by cases h
  | r :: R, s :: S, x :: X, hv, hl, hl2, h1, h2, h3, h4 => by
    have h1 : (r.inB x && zipAll Sd.inB R X) = true := h1
    have h2 : (s.inB x && zipAll Sd.inB S X) = true := h2
    have h3 : (typB r x && zipAll typB R X) = true := h3
    have h4 : (typB s x && zipAll typB S X) = true := h4
    simp only [Bool.and_eq_true] at h1 h2 h3 h4
    show (r.meetB s && zipAll Sd.meetB R S) = true
    rw [common_side r s x (hv x (List.mem_cons_self ..)) h1.1 h2.1 h3.1 h4.1, zip3 R S X (fun y hy => hv y (List.mem_cons_of_mem _ hy)) (by simpa using hl) (by simpa using hl2) h1.2 h2.2 h3.2 h4.2]
    rfl
theorem contB_facts {R : List Sd} {X : List V3} (h : contB R X = true) : R.length ≠ 0 ∧ X.length = R.length ∧ zipAll Sd.inB R X = true := by
  unfold contB at h
  split at h
  · cases h
  · rename_i h0
    split at h
    · rename_i hl; exact ⟨h0, hl, h⟩
    · cases h
theorem typL_facts {R : List Sd} {X : List V3} (h : typL R X = true) : zipAll typB R X = true := by
  unfold typL at h
  split at h
  · exact h
  · cases h
theorem common_all {R S : List Sd} {X : List V3} (t : Int) (hv : rowOk X = true) (h1 : contB R X = true) (h2 : contB S X = true) (h3 : typL R X = true) (h4 : typL S X = true) : meetB t t R S = true := by
  obtain ⟨a0, a1, a2⟩ := contB_facts h1
  obtain ⟨b0, b1, b2⟩ := contB_facts h2
  unfold meetB
  rw [if_pos rfl, if_pos (by rw [← a1, ← b1]), if_neg a0]
  exact zip3 R S X (rowOk_mem hv) (by rw [← a1, ← b1]) a1.symm a2 b2 (typL_facts h3) (typL_facts h4)
end Go.Proofs.Ytcocdhndhlegiaa
