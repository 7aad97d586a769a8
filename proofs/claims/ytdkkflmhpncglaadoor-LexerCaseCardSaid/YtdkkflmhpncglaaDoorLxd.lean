/- Doubled quotes; the text of a literal. -/
import Derived.Test.YtdkkflmhpncglaaDoorLxt
import Derived.Lib.ReplaceLaws
namespace Go.Proofs.YtdkkflmhpncglaaDoor
open Go.ChangeShapes Go.WideShapes Go.ChangeAt Go.RowKit Go.ChangeMaps

def dbl (l : List UInt8) : List UInt8 := l.flatMap fun b => if b = 39 then [39, 39] else [b]
theorem replaceK_one (c : UInt8) (new : List UInt8) : ∀ (l : List UInt8) (k : Nat), l.count c ≤ k → Lib.replaceK [c] new k l = l.flatMap fun b => if b = c then new else [b]
  | [], 0, _ => rfl
  | [], k + 1, _ => rfl
  | b :: l, 0, h => by
    have h0 : (b :: l).count c = 0 := by omega
    show b :: l = _
    have : ∀ m : List UInt8, m.count c = 0 → (m.flatMap fun b => if b = c then new else [b]) = m := by
      intro m hm
      induction m with
      | nil => rfl
      | cons x m ih =>
        have hx : x ≠ c := fun e => by rw [e, List.count_cons_self] at hm; omega
        rw [List.count_cons_of_ne hx] at hm
        rw [List.flatMap_cons, if_neg hx, ih hm]; rfl
    exact (this _ h0).symm
  | b :: l, k + 1, h => by
    by_cases hb : b = c
    · subst hb
      rw [List.count_cons_self] at h
      rw [Lib.replaceK_hit [b] new k (b :: l) 0 (by rw [Lib.index_one]; simp [Lib.indexByte]), List.flatMap_cons, if_pos rfl]
      simp only [List.take_zero, List.nil_append, List.length_singleton, Nat.zero_add, List.drop_succ_cons, List.drop_zero]
      rw [replaceK_one b new l k (by omega)]
    · rw [List.count_cons_of_ne hb] at h
      have ih := replaceK_one c new l (k + 1) h
      rw [List.flatMap_cons, if_neg hb, ← ih]
      have hg := Lib.index_ge l [c]
      have hi : Lib.index (b :: l) [c] = if Lib.index l [c] == -1 then -1 else Lib.index l [c] + 1 := by
        rw [Lib.index_one, Lib.index_one, Lib.indexByte]; simp [hb]
      unfold Lib.replaceK
      rw [hi]
      by_cases h1 : Lib.index l [c] = -1
      · rw [h1]; rfl
      · have h2 : (Lib.index l [c] == -1) = false := by simpa using h1
        have h3 : (Lib.index l [c] + 1 == -1) = false := by simp; omega
        rw [h2]
        simp only [Bool.false_eq_true, if_false, h3]
        have e : (Lib.index l [c] + 1).toNat = (Lib.index l [c]).toNat + 1 := by omega
        rw [e]
        simp only [List.take_succ_cons, List.length_singleton, List.cons_append, List.nil_append, List.drop_succ_cons]
theorem replace_dbl (l : List UInt8) : Lib.replaceAll l [39] [39, 39] = dbl l := by
  unfold Lib.replaceAll Lib.replace Lib.replaceNum
  rw [if_neg (by decide), if_pos (.inl (by decide)), Lib.count_one]
  exact replaceK_one 39 [39, 39] l _ (Nat.le_refl _)
theorem dbl_len (l : List UInt8) : (dbl l).length ≤ 2 * l.length := by
  unfold dbl
  induction l with
  | nil => simp
  | cons x l ih => rw [List.flatMap_cons, List.length_append, List.length_cons]; split <;> simp only [List.length_cons, List.length_nil] <;> omega
theorem count2_ne (b : UInt8) (m : List UInt8) (hb : b ≠ 39) : Lib.count (b :: m) [39, 39] = Lib.count m [39, 39] := by
  have hg := Lib.index_ge m [39, 39]
  have hi : Lib.index (b :: m) [39, 39] = if Lib.index m [39, 39] == -1 then -1 else Lib.index m [39, 39] + 1 := by
    rw [Lib.index, if_neg (by simp [List.isPrefixOf, Ne.symm hb])]
  by_cases h : Lib.index m [39, 39] = -1
  · rw [h] at hi
    rw [Lib.count_miss h, Lib.count_miss (by rw [hi]; rfl)]
  · have h2 : (Lib.index m [39, 39] == -1) = false := by simpa using h
    rw [h2] at hi
    obtain ⟨i, hx⟩ : ∃ i : Nat, Lib.index m [39, 39] = i := ⟨(Lib.index m [39, 39]).toNat, by omega⟩
    rw [Lib.count_hit (by simp) hx, Lib.count_hit (i := i + 1) (by simp) (by rw [hi, hx]; simp)]
    show 1 + Lib.count (List.drop (i + 1 + 2) (b :: m)) [39, 39] = 1 + Lib.count (List.drop (i + 2) m) [39, 39]
    rw [show i + 1 + 2 = (i + 2) + 1 by omega, List.drop_succ_cons]
theorem idx2_eq (m : List UInt8) : Lib.index (39 :: 39 :: m) [39, 39] = 0 := by
  rw [Lib.index, if_pos (by simp [List.isPrefixOf])]
theorem count2_dbl : ∀ t : List UInt8, Lib.count (dbl t) [39, 39] = t.count 39
  | [] => by rw [Lib.count_miss (by rfl)]; rfl
  | b :: t => by
    have ih := count2_dbl t
    have e : dbl (b :: t) = (if b = 39 then [39, 39] else [b]) ++ dbl t := by unfold dbl; rw [List.flatMap_cons]
    rw [e]
    by_cases hb : b = 39
    · subst hb
      rw [if_pos rfl]
      show Lib.count (39 :: 39 :: dbl t) _ = _
      rw [Lib.count_hit (i := 0) (by simp) (idx2_eq _), List.count_cons_self]
      show 1 + Lib.count (dbl t) _ = _
      rw [ih]; omega
    · rw [if_neg hb]
      show Lib.count (b :: dbl t) _ = _
      rw [count2_ne b _ hb, ih, List.count_cons_of_ne hb]
theorem undbl_k : ∀ (t : List UInt8) (k : Nat), t.count 39 ≤ k → Lib.replaceK [39, 39] [39] k (dbl t) = t
  | [], 0, _ => rfl
  | [], k + 1, _ => rfl
  | b :: t, k, h => by
    have e : dbl (b :: t) = (if b = 39 then [39, 39] else [b]) ++ dbl t := by unfold dbl; rw [List.flatMap_cons]
    rw [e]
    by_cases hb : b = 39
    · subst hb
      rw [List.count_cons_self] at h
      obtain ⟨j, rfl⟩ : ∃ j, k = j + 1 := ⟨k - 1, by omega⟩
      rw [if_pos rfl]
      show Lib.replaceK _ _ _ (39 :: 39 :: dbl t) = _
      rw [Lib.replaceK_hit [39, 39] [39] j (39 :: 39 :: dbl t) 0 (idx2_eq _)]
      show [] ++ [39] ++ Lib.replaceK [39, 39] [39] j (dbl t) = _
      rw [undbl_k t j (by omega)]; rfl
    · rw [List.count_cons_of_ne hb] at h
      have ih := undbl_k t k h
      rw [if_neg hb]
      show Lib.replaceK _ _ _ (b :: dbl t) = _
      rcases k with _ | k
      · have ih0 : dbl t = t := ih
        show b :: dbl t = _
        rw [ih0]
      · have hg := Lib.index_ge (dbl t) [39, 39]
        have hi : Lib.index (b :: dbl t) [39, 39] = if Lib.index (dbl t) [39, 39] == -1 then -1 else Lib.index (dbl t) [39, 39] + 1 := by
          rw [Lib.index, if_neg (by simp [List.isPrefixOf, Ne.symm hb])]
        unfold Lib.replaceK at ih ⊢
        rw [hi]
        by_cases h1 : Lib.index (dbl t) [39, 39] = -1
        · rw [h1] at ih ⊢
          exact congrArg (b :: ·) ih
        · have h2 : (Lib.index (dbl t) [39, 39] == -1) = false := by simpa using h1
          have h3 : (Lib.index (dbl t) [39, 39] + 1 == -1) = false := by simp; omega
          rw [h2] at ih ⊢
          simp only [Bool.false_eq_true, if_false, h3] at ih ⊢
          have e2 : (Lib.index (dbl t) [39, 39] + 1).toNat = (Lib.index (dbl t) [39, 39]).toNat + 1 := by omega
          rw [e2]
          generalize (Lib.index (dbl t) [39, 39]).toNat = X at *
          change List.take X (dbl t) ++ [39] ++ Lib.replaceK [39, 39] [39] k (List.drop (X + 2) (dbl t)) = t at ih
          show List.take (X + 1) (b :: dbl t) ++ [39] ++ Lib.replaceK [39, 39] [39] k (List.drop (X + 1 + 2) (b :: dbl t)) = b :: t
          rw [show X + 1 + 2 = (X + 2) + 1 by omega]
          simp only [List.take_succ_cons, List.cons_append, List.drop_succ_cons]
          rw [ih]
theorem undbl (t : List UInt8) : Lib.replaceAll (dbl t) [39, 39] [39] = t := by
  unfold Lib.replaceAll Lib.replace Lib.replaceNum
  rw [if_neg (by decide), if_pos (.inl (by decide)), count2_dbl]
  exact undbl_k t _ (Nat.le_refl _)
theorem dbl_app (a b : List UInt8) : dbl (a ++ b) = dbl a ++ dbl b := List.flatMap_append
theorem dbl_one (c : UInt8) (h : c ≠ 39) : dbl [c] = [c] := by simp [dbl, h]
theorem dbl_q : dbl [39] = [39, 39] := rfl
def prt (c : UInt8) : Bool := prtN c.toNat
/-- Behind the opening quote: the text, and how many bytes are read (the closing quote too). -/
def litQ : List UInt8 → Option (List UInt8 × Nat)
  | [] => none
  | c :: l => if prt c then (if c = 39 then (match l with | [] => some ([], 1) | d :: l' => if d = 39 then (litQ l').map (fun x => (39 :: x.1, x.2 + 2)) else some ([], 1)) else (litQ l).map (fun x => (c :: x.1, x.2 + 1))) else none
def litP (l : List UInt8) (k : Nat) (t : List UInt8) : Option (List UInt8 × Nat) := (litQ (l.drop k)).map (fun x => (t ++ x.1, k + x.2))
theorem litP_end (l : List UInt8) (k : Nat) (t : List UInt8) (hk : l.length ≤ k) : litP l k t = none := by
  unfold litP
  rw [List.drop_eq_nil_of_le hk]
  rfl
theorem litP_bad (l : List UInt8) (k : Nat) (t : List UInt8) (hk : k < l.length) (h : prtN l[k].toNat = false) : litP l k t = none := by
  unfold litP
  rw [List.drop_eq_getElem_cons hk, litQ.eq_def]
  simp [prt, h]
theorem litP_one (l : List UInt8) (k : Nat) (t : List UInt8) (hk : k < l.length) (h : prtN l[k].toNat = true) (hc : l[k] ≠ 39) : litP l k t = litP l (k + 1) (t ++ [l[k]]) := by
  unfold litP
  rw [List.drop_eq_getElem_cons hk, litQ.eq_def]
  simp only [prt, h, if_true, if_neg hc, Option.map_map]
  congr 1
  funext x
  simp only [Function.comp, List.append_assoc, List.singleton_append]
  rw [show k + (x.2 + 1) = k + 1 + x.2 by omega]
theorem litP_two (l : List UInt8) (k : Nat) (t : List UInt8) (hk : k < l.length) (hc : l[k] = 39) (h2 : (l.drop (k + 1)).head? = some 39) : litP l k t = litP l (k + 2) (t ++ [39]) := by
  unfold litP
  have hk2 : k + 1 < l.length := by
    rcases Nat.lt_or_ge (k + 1) l.length with h | h
    · exact h
    · rw [List.drop_eq_nil_of_le h] at h2; cases h2
  rw [List.drop_eq_getElem_cons hk2] at h2
  have hd : l[k + 1] = 39 := Option.some.inj h2
  rw [List.drop_eq_getElem_cons hk, List.drop_eq_getElem_cons hk2, litQ.eq_def, hc, hd]
  have hp : prt 39 = true := by decide
  simp only [hp, if_true, Option.map_map]
  congr 1
  funext x
  simp only [Function.comp, List.append_assoc, List.singleton_append]
  rw [show k + (x.2 + 2) = k + 2 + x.2 by omega]
theorem litP_stop (l : List UInt8) (k : Nat) (t : List UInt8) (hk : k < l.length) (hc : l[k] = 39) (h2 : ¬ (l.drop (k + 1)).head? = some 39) : litP l k t = some (t, k + 1) := by
  unfold litP
  rw [List.drop_eq_getElem_cons hk, litQ.eq_def, hc]
  have hp : prt 39 = true := by decide
  simp only [hp, if_true]
  rcases hd : l.drop (k + 1) with _ | ⟨d, r⟩
  · simp
  · rw [hd] at h2
    have : ¬ d = 39 := fun e => h2 (by rw [e]; rfl)
    simp [this]
theorem pre_q (l : List UInt8) (k : Nat) (hk : k < l.length) : Lib.hasPrefix (l.drop k) [39, 39] = true ↔ (l[k] = 39 ∧ (l.drop (k + 1)).head? = some 39) := by
  unfold Lib.hasPrefix
  rw [List.drop_eq_getElem_cons hk]
  rcases hd : l.drop (k + 1) with _ | ⟨d, r⟩
  · simp
  · simp [List.isPrefixOf]
    exact ⟨fun ⟨a, b⟩ => ⟨a.symm, b.symm⟩, fun ⟨a, b⟩ => ⟨a.symm, b.symm⟩⟩
theorem quo_iff (c : UInt8) : c = 39 ↔ (c.toNat : Int) = 39 := by
  rw [← UInt8.toNat_inj]
  show c.toNat = 39 ↔ _
  omega
def textAt : Option (List UInt8 × Nat) → TR
  | none => ⟨0, [], 0, 2⟩
  | some x => if 16 < x.1.length then ⟨0, [], 0, 3⟩ else ⟨4, x.1, x.2, 0⟩
/-- A text at the head of l. -/
def textR (l : List UInt8) : TR := textAt (litP l 1 [])
end Go.Proofs.YtdkkflmhpncglaaDoor
