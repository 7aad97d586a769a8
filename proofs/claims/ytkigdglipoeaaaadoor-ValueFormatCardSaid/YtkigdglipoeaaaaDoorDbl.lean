/- Quotes doubled. -/
import Derived.Test.YtkigdglipoeaaaaDoorEnv
namespace Go.Proofs.YtkigdglipoeaaaaDoor
open Go.ChangeShapes Go.WideShapes Go.ChangeAt Go.RowKit Go.ChangeMaps

def dbl (l : List UInt8) : List UInt8 := l.flatMap fun b => if b = 39 then [39, 39] else [b]
theorem replaceK_one (c : UInt8) (new : List UInt8) : ∀ (l : List UInt8) (k : Nat), l.count c ≤ k → Lib.replaceK [c] new k l = l.flatMap fun b => if b = c then new else [b]
  | [], 0, _ => rfl
  | [], k + 1, _ => rfl
  | b :: l, 0, h => by
    have h0 : (b :: l).count c = 0 := by omega
    show b :: l = _
    have : ∀ m : List UInt8, m.count c = 0 → (m.flatMap fun b => if b = c then new else [b]) = m := by
      intro m hm
      induction m with
      | nil => rfl
      | cons x m ih =>
        have hx : x ≠ c := fun e => by rw [e, List.count_cons_self] at hm; omega
        rw [List.count_cons_of_ne hx] at hm
        rw [List.flatMap_cons, if_neg hx, ih hm]; rfl
    exact (this _ h0).symm
  | b :: l, k + 1, h => by
    by_cases hb : b = c
    · subst hb
      rw [List.count_cons_self] at h
      rw [Lib.replaceK_hit [b] new k (b :: l) 0 (by rw [Lib.index_one]; simp [Lib.indexByte]), List.flatMap_cons, if_pos rfl]
      simp only [List.take_zero, List.nil_append, List.length_singleton, Nat.zero_add, List.drop_succ_cons, List.drop_zero]
      rw [replaceK_one b new l k (by omega)]
    · rw [List.count_cons_of_ne hb] at h
      have ih := replaceK_one c new l (k + 1) h
      rw [List.flatMap_cons, if_neg hb, ← ih]
      have hg := Lib.index_ge l [c]
      have hi : Lib.index (b :: l) [c] = if Lib.index l [c] == -1 then -1 else Lib.index l [c] + 1 := by
        rw [Lib.index_one, Lib.index_one, Lib.indexByte]; simp [hb]
      unfold Lib.replaceK
      rw [hi]
      by_cases h1 : Lib.index l [c] = -1
      · rw [h1]; rfl
      · have h2 : (Lib.index l [c] == -1) = false := by simpa using h1
        have h3 : (Lib.index l [c] + 1 == -1) = false := by simp; omega
        rw [h2]
        simp only [Bool.false_eq_true, if_false, h3]
        have e : (Lib.index l [c] + 1).toNat = (Lib.index l [c]).toNat + 1 := by omega
        rw [e]
        simp only [List.take_succ_cons, List.length_singleton, List.cons_append, List.nil_append, List.drop_succ_cons]
theorem replace_dbl (l : List UInt8) : Lib.replaceAll l [39] [39, 39] = dbl l := by
  unfold Lib.replaceAll Lib.replace Lib.replaceNum
  rw [if_neg (by decide), if_pos (.inl (by decide)), Lib.count_one]
  exact replaceK_one 39 [39, 39] l _ (Nat.le_refl _)
theorem dbl_len (l : List UInt8) : (dbl l).length ≤ 2 * l.length := by
  unfold dbl
  induction l with
  | nil => simp
  | cons x l ih => rw [List.flatMap_cons, List.length_append, List.length_cons]; split <;> simp only [List.length_cons, List.length_nil] <;> omega
theorem fmtV_eq (x : V3) : fmtV x = if x.valid = false then [] else if x.k = 1 then Lib.itoa x.n else if x.k = 2 then 39 :: (dbl x.s.data.toList ++ [39]) else [78, 85, 76, 76] := by
  unfold fmtV; rw [replace_dbl]
theorem valid_size {x : V3} (h : x.valid = true) : x.s.size ≤ 16 := by
  unfold V3.valid at h
  split at h
  · simp only [Bool.and_eq_true, decide_eq_true_eq] at h; omega
  · split at h
    · simp only [Bool.and_eq_true, decide_eq_true_eq] at h; omega
    · split at h
      · simp only [Bool.and_eq_true, decide_eq_true_eq] at h; omega
      · cases h
theorem valid_kind {x : V3} (h : x.valid = true) : x.k = 0 ∨ x.k = 1 ∨ x.k = 2 := by
  unfold V3.valid at h
  split at h
  · exact .inl (by assumption)
  · split at h
    · exact .inr (.inl (by assumption))
    · split at h
      · exact .inr (.inr (by assumption))
      · cases h
end Go.Proofs.YtkigdglipoeaaaaDoor
