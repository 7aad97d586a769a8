/- What a correct proof shows: no integers satisfy the system. -/
import Derived.Test.YthfolccofjaknaaCmo
namespace Go.Proofs.Ythfolccofjaknaa
open Go.ChangeShapes Go.WideShapes Go.ChangeAt Go.RowKit Go.ChangeMaps

def dotM : List Int → List Int → Int
  | a :: l, b :: r => a * b + dotM l r
  | _, _ => 0
def hldM (q : QI) (x : List Int) : Bool := decide (q.1.length = x.length) && decide (dotM q.1 x ≤ q.2)
theorem dotM_add (k : Int) : ∀ (a b x : List Int), a.length = x.length → b.length = x.length → dotM (List.zipWith (fun a b => a + k * b) a b) x = dotM a x + k * dotM b x
  | [], [], [], _, _ => by simp [dotM]
  | a :: l, b :: r, y :: x, h1, h2 => by
    have := dotM_add k l r x (by simpa using h1) (by simpa using h2)
    simp only [List.zipWith_cons_cons, dotM, this]
    grind
  | [], _ :: _, _, h1, h2 => by simp at h1 h2; omega
  | _ :: _, [], _, h1, h2 => by simp at h1 h2; omega
  | _ :: _, _ :: _, [], h1, _ => by simp at h1
  | [], [], _ :: _, h1, _ => by simp at h1
theorem dotM_zero : ∀ (n : Nat) (x : List Int), dotM (List.replicate n 0) x = 0
  | 0, _ => by simp [dotM]
  | n + 1, [] => by simp [List.replicate_succ, dotM]
  | n + 1, y :: x => by simp [List.replicate_succ, dotM, dotM_zero n x]
theorem dotM_neg : ∀ (a x : List Int), dotM (a.map (fun z => -z)) x = -dotM a x
  | [], _ => by simp [dotM]
  | _ :: _, [] => by simp [dotM]
  | a :: l, y :: x => by simp only [List.map_cons, dotM, dotM_neg l x]; grind
theorem dotM_div (d : Int) : ∀ (a x : List Int), a.all (fun z => decide (z % d = 0)) = true → dotM a x = d * dotM (a.map (· / d)) x
  | [], _, _ => by simp [dotM]
  | _ :: _, [], _ => by simp [dotM]
  | a :: l, y :: x, h => by
    simp only [List.all_cons, Bool.and_eq_true, decide_eq_true_eq] at h
    have h1 := Int.mul_ediv_add_emod a d
    rw [h.1] at h1
    have h2 := dotM_div d l x h.2
    simp only [List.map_cons, dotM, h2]
    have h3 : a = d * (a / d) := by omega
    generalize a / d = k at *
    subst h3
    grind
theorem dotM_all0 : ∀ (a x : List Int), a.all (fun z => decide (z = 0)) = true → dotM a x = 0
  | [], _, _ => by simp [dotM]
  | _ :: _, [], _ => by simp [dotM]
  | a :: l, y :: x, h => by
    simp only [List.all_cons, Bool.and_eq_true, decide_eq_true_eq] at h
    simp only [dotM, dotM_all0 l x h.2, h.1]
    grind
theorem hldM_iff {q : QI} {x : List Int} : hldM q x = true ↔ q.1.length = x.length ∧ dotM q.1 x ≤ q.2 := by
  unfold hldM
  simp
theorem sumM_hld {l : List QI} {x : List Int} (hl : ∀ q ∈ l, hldM q x = true) : ∀ (U : List (Int × Int)) (s r : QI), sumM l U s = some r → hldM s x = true → hldM r x = true
  | [], s, r, h, hs => by
    simp only [sumM, Option.some.injEq] at h
    rw [← h]; exact hs
  | u :: U, s, r, h, hs => by
    simp only [sumM] at h
    split at h
    · cases h
    rename_i hc
    refine sumM_hld hl U _ r h ?_
    have hlt : u.1.toNat < l.length := by omega
    have hq := hl _ (List.getElem_mem hlt)
    have hge : l.getD u.1.toNat ([], 0) = l[u.1.toNat] := by simp [List.getD, List.getElem?_eq_getElem hlt]
    rw [hge]
    clear hge
    generalize l[u.1.toNat] = q at *
    rw [hldM_iff] at hq hs ⊢
    unfold addQ
    refine ⟨by simp only [List.length_zipWith]; omega, ?_⟩
    dsimp only
    rw [dotM_add _ _ _ _ hs.1 hq.1]
    have := Int.mul_le_mul_of_nonneg_left hq.2 (show (0 : Int) ≤ u.2 by omega)
    omega
theorem divM_hld {s r : QI} {d : Int} {x : List Int} (hd : 0 < d) (h : divM s d = some r) (hs : hldM s x = true) : hldM r x = true := by
  unfold divM at h
  split at h
  · rename_i ha
    injection h with h
    subst h
    rw [hldM_iff] at hs ⊢
    refine ⟨by simpa using hs.1, ?_⟩
    have h1 := dotM_div d s.1 x ha
    have h2 := hs.2
    rw [h1] at h2
    refine (Int.le_ediv_iff_mul_le hd).2 ?_
    rw [Int.mul_comm]; exact h2
  · cases h
theorem applyM_hld {l : List QI} {U : List (Int × Int)} {d : Int} {r : QI} {x : List Int} (hn : l ≠ []) (hl : ∀ q ∈ l, hldM q x = true) (h : applyM l U d = some r) : hldM r x = true := by
  unfold applyM at h
  split at h
  · cases h
  rename_i hd
  cases hs : sumM l U (List.replicate (widthM l) 0, 0) with
  | none => rw [hs] at h; cases h
  | some s =>
    rw [hs] at h
    refine divM_hld (by omega) h (sumM_hld hl U _ s hs ?_)
    rw [hldM_iff]
    refine ⟨?_, by rw [dotM_zero]; exact Int.le_refl _⟩
    cases l with
    | nil => exact absurd rfl hn
    | cons q l' =>
      have := (hldM_iff.1 (hl q List.mem_cons_self)).1
      simpa [widthM] using this
theorem stepsM_hld {x : List Int} : ∀ (S : List (List (Int × Int) × Int)) (l r : List QI), l ≠ [] → (∀ q ∈ l, hldM q x = true) → stepsM S l = some r → r ≠ [] ∧ ∀ q ∈ r, hldM q x = true
  | [], l, r, hn, hl, h => by
    simp only [stepsM, Option.some.injEq] at h
    subst h
    exact ⟨hn, hl⟩
  | s :: S, l, r, hn, hl, h => by
    simp only [stepsM] at h
    cases ha : applyM l s.1 s.2 with
    | none => rw [ha] at h; cases h
    | some q =>
      rw [ha] at h
      refine stepsM_hld S _ r (by simp) (fun p hp => ?_) h
      rcases List.mem_append.1 hp with hp | hp
      · exact hl p hp
      · rw [List.mem_singleton.1 hp]
        exact applyM_hld hn hl ha
theorem badM_hld {q : QI} {x : List Int} (h : badM q = true) : hldM q x = false := by
  unfold badM at h
  simp only [Bool.and_eq_true, decide_eq_true_eq] at h
  cases hh : hldM q x with
  | false => rfl
  | true =>
    have := (hldM_iff.1 hh).2
    rw [dotM_all0 _ _ h.1] at this
    omega
/-- If a proof is correct, nothing satisfies the system. -/
theorem chk_sound {x : List Int} : ∀ (M : Nat) (p : PT), SizeOf.sizeOf p ≤ M → ∀ (l : List QI), l ≠ [] → (∀ q ∈ l, hldM q x = true) → chk p l = false
  | 0, .mk S F b K, hM, _, _, _ => by simp only [PT.mk.sizeOf_spec] at hM; omega
  | M + 1, .mk S F b K, hM, l, hn, hl => by
    simp only [PT.mk.sizeOf_spec] at hM
    unfold chk
    cases hs : stepsM S l with
    | none => rfl
    | some r =>
      obtain ⟨hrn, hr⟩ := stepsM_hld S l r hn hl hs
      match K, hM with
      | [], _ =>
        dsimp only
        rw [List.any_eq_false]
        intro q hq hb
        have := badM_hld (x := x) hb
        rw [hr q hq] at this
        cases this
      | [k0, k1], hM =>
        dsimp only
        simp only [List.cons.sizeOf_spec, List.nil.sizeOf_spec] at hM
        split
        · rfl
        rename_i hw
        have hF : F.length = x.length := by
          have h1 : F.length = widthM r := Classical.byContradiction fun h => hw ⟨hrn, h⟩
          rw [h1]
          cases r with
          | nil => exact absurd rfl hrn
          | cons q r' => exact (hldM_iff.1 (hr q List.mem_cons_self)).1
        by_cases hd : dotM F x ≤ b
        · have h0 := chk_sound M k0 (by omega) (r ++ [(F, b)]) (by simp) (x := x) (by
            intro q hq
            rcases List.mem_append.1 hq with hq | hq
            · exact hr q hq
            · rw [List.mem_singleton.1 hq, hldM_iff]; exact ⟨hF, hd⟩)
          rw [h0, Bool.false_and]
        · have h0 := chk_sound M k1 (by omega) (r ++ [(F.map (fun z => -z), -1 - b)]) (by simp) (x := x) (by
            intro q hq
            rcases List.mem_append.1 hq with hq | hq
            · exact hr q hq
            · rw [List.mem_singleton.1 hq, hldM_iff]
              refine ⟨by simpa using hF, ?_⟩
              rw [dotM_neg]
              omega)
          rw [h0, Bool.and_false]
      | [_], _ => rfl
      | _ :: _ :: _ :: _, _ => rfl
end Go.Proofs.Ythfolccofjaknaa
