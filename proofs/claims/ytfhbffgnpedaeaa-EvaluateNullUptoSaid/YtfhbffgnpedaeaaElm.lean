/- Which texts match a pattern. -/
import Derived.Test.YtfhbffgnpedaeaaEtm
namespace Go.Proofs.Ytfhbffgnpedaeaa
open Go.ChangeShapes Go.WideShapes Go.ChangeAt Go.RowKit Go.ChangeMaps

def anyTail (f : List UInt8 → Bool) : List UInt8 → Bool
  | [] => f []
  | c :: t => f (c :: t) || anyTail f t
def likeM : List UInt8 → List UInt8 → Bool
  | [], t => t.isEmpty
  | c :: ps, t => if c = 37 then anyTail (likeM ps) t else match t with
    | [] => false
    | x :: ts => (c == 95 || c == x) && likeM ps ts
theorem anyTail_iff (f : List UInt8 → Bool) : ∀ t, anyTail f t = true ↔ ∃ k, k ≤ t.length ∧ f (t.drop k) = true
  | [] => ⟨fun h => ⟨0, Nat.le_refl _, h⟩, fun ⟨k, hk, h⟩ => by simpa [anyTail] using h⟩
  | c :: t => by
    simp only [anyTail, Bool.or_eq_true, anyTail_iff f t]
    constructor
    · rintro (h | ⟨k, hk, h⟩)
      · exact ⟨0, Nat.zero_le _, h⟩
      · exact ⟨k + 1, by simp; omega, by simpa [anyTail] using h⟩
    · rintro ⟨k, hk, h⟩
      cases k with
      | zero => exact .inl h
      | succ k => exact .inr ⟨k, by simpa using hk, by simpa [anyTail] using h⟩
theorem like_star {P T : List UInt8} {j i : Nat} (hj : P[j]? = some 37) (hi : i ≤ T.length) : likeM (P.drop j) (T.drop i) = true ↔ ∃ k, i ≤ k ∧ k ≤ T.length ∧ likeM (P.drop (j + 1)) (T.drop k) = true := by
  obtain ⟨hl, he⟩ := List.getElem?_eq_some_iff.1 hj
  rw [List.drop_eq_getElem_cons hl, he]
  simp only [likeM, if_true]
  rw [anyTail_iff]
  constructor
  · rintro ⟨k, hk, h⟩
    rw [List.drop_drop] at h
    rw [List.length_drop] at hk
    exact ⟨i + k, by omega, by omega, h⟩
  · rintro ⟨k, h1, h2, h⟩
    refine ⟨k - i, by rw [List.length_drop]; omega, ?_⟩
    rw [List.drop_drop, show i + (k - i) = k by omega]
    exact h
theorem like_char {P T : List UInt8} {j i : Nat} {c x : UInt8} (hj : P[j]? = some c) (hc : c ≠ 37) (hi : T[i]? = some x) : likeM (P.drop j) (T.drop i) = ((c == 95 || c == x) && likeM (P.drop (j + 1)) (T.drop (i + 1))) := by
  obtain ⟨hl, he⟩ := List.getElem?_eq_some_iff.1 hj
  obtain ⟨hl2, he2⟩ := List.getElem?_eq_some_iff.1 hi
  rw [List.drop_eq_getElem_cons hl, he, List.drop_eq_getElem_cons hl2, he2]
  simp only [likeM, if_neg hc]
theorem like_none {P T : List UInt8} {j i : Nat} (hj : P.length ≤ j) (hi : i < T.length) : likeM (P.drop j) (T.drop i) = false := by
  rw [List.drop_of_length_le hj, List.drop_eq_getElem_cons hi]; rfl
theorem like_end {P T : List UInt8} {j : Nat} {c : UInt8} (hj : P[j]? = some c) (hc : c ≠ 37) : likeM (P.drop j) [] = false := by
  obtain ⟨hl, he⟩ := List.getElem?_eq_some_iff.1 hj
  rw [List.drop_eq_getElem_cons hl, he]
  simp only [likeM, if_neg hc]
theorem like_skip {P : List UInt8} {j : Nat} (hj : P[j]? = some 37) : likeM (P.drop j) [] = likeM (P.drop (j + 1)) [] := by
  obtain ⟨hl, he⟩ := List.getElem?_eq_some_iff.1 hj
  rw [List.drop_eq_getElem_cons hl, he]
  simp only [likeM, if_true, anyTail]
/-- A part of the pattern without the sign for any text matches as many characters as it has. -/
theorem like_seg {P T : List UInt8} : ∀ (d s m : Nat), s + d ≤ P.length → (∀ k, s ≤ k → k < s + d → P[k]? ≠ some 37) → m ≤ T.length → likeM (P.drop s) (T.drop m) = true → m + d ≤ T.length ∧ likeM (P.drop (s + d)) (T.drop (m + d)) = true
  | 0, s, m, _, _, hm, h => ⟨hm, h⟩
  | d + 1, s, m, hl, hs, hm, h => by
    have hsl : s < P.length := by omega
    have hj : P[s]? = some P[s] := List.getElem?_eq_getElem hsl
    have hc : P[s] ≠ 37 := fun e => hs s (Nat.le_refl _) (by omega) (by rw [hj, e])
    rcases Nat.lt_or_ge m T.length with h1 | h1
    · rw [like_char hj hc (List.getElem?_eq_getElem h1), Bool.and_eq_true] at h
      have := like_seg d (s + 1) (m + 1) (by omega) (fun k h2 h3 => hs k (by omega) (by omega)) h1 h.2
      rw [show s + 1 + d = s + (d + 1) by omega, show m + 1 + d = m + (d + 1) by omega] at this
      exact this
    · rw [List.drop_of_length_le h1, like_end (T := T) hj hc] at h
      cases h
/-- What holds at the head of the loop. -/
def LI (P T : List UInt8) (i j taken : Nat) (st : Int) : Prop :=
  i ≤ T.length ∧ j ≤ P.length ∧ -1 ≤ st ∧ taken ≤ i ∧
  (likeM P T = true ↔ likeM (P.drop j) (T.drop i) = true ∨ (0 ≤ st ∧ ∃ k, taken < k ∧ k ≤ T.length ∧ likeM (P.drop (st.toNat + 1)) (T.drop k) = true)) ∧
  (0 ≤ st → st.toNat < j ∧ i - taken = j - (st.toNat + 1) ∧ ∀ k, st.toNat < k → k < j → P[k]? ≠ some 37)
variable {P T : List UInt8} {i j taken : Nat} {st : Int}
theorem LI.start : LI P T 0 0 0 (-1) := ⟨Nat.zero_le _, Nat.zero_le _, by omega, Nat.le_refl _, ⟨fun h => .inl h, fun h => h.elim id fun h => absurd h.1 (by omega)⟩, fun h => absurd h (by omega)⟩
theorem LI.star (h : LI P T i j taken st) (hj : P[j]? = some 37) : LI P T i (j + 1) i j := by
  obtain ⟨h1, h2, h3, h4, h5, h6⟩ := h
  have hl := (List.getElem?_eq_some_iff.1 hj).1
  refine ⟨h1, hl, by omega, Nat.le_refl _, ?_, fun _ => ⟨by simp, by simp, fun k hk hk2 => by simp at hk; omega⟩⟩
  rw [h5, like_star hj h1]
  simp only [Int.toNat_natCast]
  constructor
  · rintro (⟨k, g1, g2, g⟩ | ⟨g0, k, g1, g2, g⟩)
    · rcases Nat.eq_or_lt_of_le g1 with e | e
      · subst e; exact .inl g
      · exact .inr ⟨by omega, k, e, g2, g⟩
    · obtain ⟨q1, q2, q3⟩ := h6 g0
      obtain ⟨r1, r2⟩ := like_seg (j - (st.toNat + 1)) (st.toNat + 1) k (by omega) (fun k hk hk2 => q3 k (by omega) (by omega)) g2 g
      rw [show st.toNat + 1 + (j - (st.toNat + 1)) = j by omega, like_star hj r1] at r2
      obtain ⟨k', s1, s2, s3⟩ := r2
      exact .inr ⟨by omega, k', by omega, s2, s3⟩
  · rintro (g | ⟨_, k, g1, g2, g⟩)
    · exact .inl ⟨i, Nat.le_refl _, h1, g⟩
    · exact .inl ⟨k, by omega, g2, g⟩
theorem LI.step {c x : UInt8} (h : LI P T i j taken st) (hj : P[j]? = some c) (hc : c ≠ 37) (hi : T[i]? = some x) (hm : (c == 95 || c == x) = true) : LI P T (i + 1) (j + 1) taken st := by
  obtain ⟨h1, h2, h3, h4, h5, h6⟩ := h
  have hl := (List.getElem?_eq_some_iff.1 hj).1
  have hl2 := (List.getElem?_eq_some_iff.1 hi).1
  refine ⟨hl2, hl, h3, by omega, ?_, fun h0 => ?_⟩
  · rw [h5, like_char hj hc hi, hm, Bool.true_and]
  · obtain ⟨q1, q2, q3⟩ := h6 h0
    refine ⟨by omega, by omega, fun k hk hk2 => ?_⟩
    rcases Nat.eq_or_lt_of_le (Nat.le_of_lt_succ hk2) with e | e
    · subst e; rw [hj]; exact fun e => hc (Option.some.inj e)
    · exact q3 k hk e
theorem LI.back (h : LI P T i j taken st) (hi : i < T.length) (h0 : 0 ≤ st) (hf : likeM (P.drop j) (T.drop i) = false) : LI P T (taken + 1) (st.toNat + 1) (taken + 1) st := by
  obtain ⟨h1, h2, h3, h4, h5, h6⟩ := h
  obtain ⟨q1, q2, q3⟩ := h6 h0
  refine ⟨by omega, by omega, h3, Nat.le_refl _, ?_, fun _ => ⟨by omega, by omega, fun k hk hk2 => by omega⟩⟩
  rw [h5, hf]
  constructor
  · rintro (g | ⟨_, k, g1, g2, g⟩)
    · cases g
    · rcases Nat.eq_or_lt_of_le g1 with e | e
      · rw [← e] at g; exact .inl g
      · exact .inr ⟨h0, k, e, g2, g⟩
  · rintro (g | ⟨_, k, g1, g2, g⟩)
    · exact .inr ⟨h0, taken + 1, by omega, by omega, g⟩
    · exact .inr ⟨h0, k, by omega, g2, g⟩
theorem LI.fail (h : LI P T i j taken st) (h0 : st < 0) (hf : likeM (P.drop j) (T.drop i) = false) : likeM P T = false := by
  obtain ⟨h1, h2, h3, h4, h5, h6⟩ := h
  cases hh : likeM P T
  · rfl
  · rcases h5.1 hh with g | ⟨g, _⟩
    · rw [hf] at g; cases g
    · omega
theorem LI.done (h : LI P T i j taken st) (hi : i = T.length) : likeM P T = likeM (P.drop j) [] := by
  obtain ⟨h1, h2, h3, h4, h5, h6⟩ := h
  rw [hi, List.drop_length] at h5
  rw [Bool.eq_iff_iff, h5]
  constructor
  · rintro (g | ⟨g0, k, g1, g2, g⟩)
    · exact g
    · obtain ⟨q1, q2, q3⟩ := h6 g0
      obtain ⟨r1, r2⟩ := like_seg (j - (st.toNat + 1)) (st.toNat + 1) k (by omega) (fun k hk hk2 => q3 k (by omega) (by omega)) g2 g
      omega
  · exact .inl
theorem LI.miss (hi : i < T.length) (hj : P[j]? = none ∨ ∃ c, P[j]? = some c ∧ c ≠ 37 ∧ (c == 95 || c == T[i]) = false) : likeM (P.drop j) (T.drop i) = false := by
  rcases hj with h | ⟨c, h, hc, hm⟩
  · exact like_none (List.getElem?_eq_none_iff.1 h) hi
  · rw [like_char h hc (List.getElem?_eq_getElem hi), hm, Bool.false_and]
theorem meas {n m t t' j j' : Nat} (ht : t' ≤ n) (h : t < t' ∨ (t = t' ∧ j < j')) (hj : j ≤ m) : (n - t') * (m + 2) + (m + 1 - j') < (n - t) * (m + 2) + (m + 1 - j) := by
  rcases h with h | ⟨h, h2⟩
  · have h1 : (n - t' + 1) * (m + 2) ≤ (n - t) * (m + 2) := Nat.mul_le_mul_right _ (by omega)
    rw [Nat.succ_mul] at h1
    omega
  · subst h
    omega
end Go.Proofs.Ytfhbffgnpedaeaa
