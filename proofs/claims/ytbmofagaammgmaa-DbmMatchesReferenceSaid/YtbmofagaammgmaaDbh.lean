/- Bound's loop: what is reached, in memory and in numbers. -/
import Derived.Test.YtbmofagaammgmaaDbb
namespace Go.Proofs.Ytbmofagaammgmaa
open Go.ChangeShapes Go.WideShapes Go.ChangeAt Go.RowKit Go.ChangeMaps

theorem MG.tight {k : TypeId} {κ : Type} {V : KV k κ} {w : World} {b n s : Nat} {f : κ → Option Value} (h : MG V w b n s f) : MG V w b s s f := by
  obtain ⟨D, ⟨es, clock, hb, F, hs, rfl⟩, h2, h3⟩ := h
  refine ⟨_, ⟨es, clock, hb, F, ?_, rfl⟩, h2, h3⟩
  rw [← h2]
  simp [Maps.size, Go.length_sorted]
def pt (F : Nat → Option Int) (v : Nat) (a : Int) : Nat → Option Int := fun x => if x = v then some a else F x
def mpF (F : Nat → Option Int) : Int → Option Value := fun z => if z < 0 then none else (F z.toNat).map fun a => .int .i64 a
theorem mpF_at (F : Nat → Option Int) (v : Nat) : mpF F (v : Int) = (F v).map fun a => .int .i64 a := by
  unfold mpF
  rw [if_neg (by omega), Int.toNat_natCast]
theorem mpF_put (F : Nat → Option Int) (v : Nat) (a : Int) : gup (mpF F) (v : Int) (.int .i64 a) = mpF (pt F v a) := by
  funext z
  unfold gup mpF pt
  by_cases e : z = (v : Int)
  · subst e
    rw [if_pos rfl, if_neg (by omega), Int.toNat_natCast, if_pos rfl]
    rfl
  · rw [if_neg e]
    by_cases h : z < 0
    · rw [if_pos h, if_pos h]
    · rw [if_neg h, if_neg h, if_neg (by omega)]
theorem mpF_one (v : Nat) (a : Int) : gup (fun _ => none) (v : Int) (.int .i64 a) = mpF (pt (fun _ => none) v a) := by
  rw [← mpF_put]
  congr 1
  funext z
  unfold mpF
  split <;> rfl
def sm (g : Option Int → Nat) (F : Nat → Option Int) : Nat → Nat
  | 0 => 0
  | n + 1 => sm g F n + g (F n)
theorem sm_far {g : Option Int → Nat} {F : Nat → Option Int} {v : Nat} {a : Int} : ∀ {N : Nat}, N ≤ v → sm g (pt F v a) N = sm g F N
  | 0, _ => rfl
  | N + 1, h => by
    unfold sm
    rw [sm_far (by omega)]
    unfold pt
    rw [if_neg (by omega)]
theorem sm_put {g : Option Int → Nat} {F : Nat → Option Int} {v : Nat} {a : Int} : ∀ {N : Nat}, v < N → sm g (pt F v a) N + g (F v) = sm g F N + g (some a)
  | N + 1, h => by
    unfold sm
    by_cases e : v = N
    · subst e
      rw [sm_far (Nat.le_refl _)]
      have : pt F v a v = some a := by unfold pt; rw [if_pos rfl]
      rw [this]
      omega
    · have ih := sm_put (g := g) (F := F) (a := a) (show v < N by omega)
      have : pt F v a N = F N := by unfold pt; rw [if_neg (by omega)]
      rw [this]
      omega
theorem sm_le {g : Option Int → Nat} (hg : ∀ o, g o ≤ 1) (F : Nat → Option Int) : ∀ N, sm g F N ≤ N
  | 0 => Nat.le_refl _
  | N + 1 => by
    unfold sm
    have := sm_le hg F N
    have := hg (F N)
    omega
def one : Option Int → Nat
  | none => 0
  | some _ => 1
theorem one_le (o : Option Int) : one o ≤ 1 := by
  cases o
  · exact Nat.zero_le _
  · exact Nat.le_refl _
def wt : Option Int → Nat
  | none => 288230376151711744
  | some a => (a + 144115188075855872).toNat
def EE (c : Nat × Nat → Int) (P : List (Nat × Nat)) : Nat → Nat → Int → Prop := fun i u k => (i, u) ∈ P ∧ k = c (i, u)
structure BI (c : Nat × Nat → Int) (P : List (Nat × Nat)) (N j : Nat) (F : Nat → Option Int) : Prop where
  walk : ∀ i a, F i = some a → Walk (EE c P) j i a
  at_ : ∃ a, F j = some a ∧ a ≤ 0
  sup : ∀ v a, F v = some a → v < N ∧ -144115188075855872 ≤ a ∧ a ≤ (sm one F N : Int) * 1125899906842624
theorem BI.start {c : Nat × Nat → Int} {P : List (Nat × Nat)} {N j : Nat} (hj : j < N) : BI c P N j (pt (fun _ => none) j 0) := by
  refine ⟨fun i a h => ?_, ⟨0, by unfold pt; rw [if_pos rfl], Int.le_refl _⟩, fun v a h => ?_⟩
  · unfold pt at h
    split at h
    · rename_i e; injection h with h; subst e; subst h; exact .nil
    · cases h
  · unfold pt at h
    split at h
    · rename_i e; injection h with h; subst e; subst h; exact ⟨hj, by omega, by omega⟩
    · cases h
theorem BI.put {c : Nat × Nat → Int} {P : List (Nat × Nat)} {N j : Nat} {F : Nat → Option Int} (h : BI c P N j F) (hN : N ≤ 65) (hj : j < N) (hP : ∀ p ∈ P, p.1 < N ∧ p.2 < N) (hc : ∀ p ∈ P, -1125899906842624 ≤ c p ∧ c p ≤ 1125899906842624)
    {Y : Nat → Int} (hY : ∀ v, v < N → -72057594037927936 ≤ Y v ∧ Y v ≤ 0) (hYP : ∀ p ∈ P, Y p.1 ≤ Y p.2 + c p) {i u : Nat} {b : Int} (hp : (i, u) ∈ P) (hu : F u = some b) (hnew : F i = none ∨ ∃ o, F i = some o ∧ b + c (i, u) < o) :
    BI c P N j (pt F i (b + c (i, u))) ∧ sm wt (pt F i (b + c (i, u))) N + 1 ≤ sm wt F N ∧ sm one (pt F i (b + c (i, u))) N = if (F i).isSome then sm one F N else sm one F N + 1 := by
  have hw : Walk (EE c P) j i (b + c (i, u)) := .cons (u := u) ⟨hp, rfl⟩ (h.walk _ _ hu)
  have hiN : i < N := (hP _ hp).1
  have hlow : -72057594037927936 ≤ b + c (i, u) := by
    have := hw.sol (s := Y) (fun i u k hk => by have := hYP _ hk.1; rw [hk.2]; dsimp only at this; omega)
    have := hY i hiN
    have := hY j hj
    omega
  have s1 := sm_put (g := one) (F := F) (a := b + c (i, u)) hiN
  have s2 := sm_put (g := wt) (F := F) (a := b + c (i, u)) hiN
  have s3 := sm_le one_le F N
  have s4 := (h.sup _ _ hu).2.2
  have s5 := (hc _ hp)
  have o1 : one (some (b + c (i, u))) = 1 := rfl
  have o2 : wt (some (b + c (i, u))) = (b + c (i, u) + 144115188075855872).toNat := rfl
  rw [o1] at s1
  rw [o2] at s2
  have hat : ∀ x, pt F i (b + c (i, u)) i = x → x = some (b + c (i, u)) := fun x e => by rw [← e]; unfold pt; rw [if_pos rfl]
  have hne : ∀ x, x ≠ i → pt F i (b + c (i, u)) x = F x := fun x e => by unfold pt; rw [if_neg e]
  have hup0 : b + c (i, u) ≤ (sm one F N : Int) * 1125899906842624 + 1125899906842624 := by omega
  clear s4 s5 hu
  generalize b + c (i, u) = d at *
  rcases hnew with h0 | ⟨o, h0, hlt⟩
  · have o3 : one (F i) = 0 := by rw [h0]; rfl
    have o4 : wt (F i) = 288230376151711744 := by rw [h0]; rfl
    have e1 : sm one (pt F i d) N = sm one F N + 1 := by omega
    have hup : d ≤ (sm one (pt F i d) N : Int) * 1125899906842624 := by rw [e1]; omega
    refine ⟨⟨fun x a hx => ?_, ?_, fun x a hx => ?_⟩, by omega, by rw [h0]; exact e1⟩
    · by_cases e : x = i
      · subst e; have := hat _ hx; injection this with this; subst this; exact hw
      · rw [hne x e] at hx; exact h.walk _ _ hx
    · obtain ⟨a, ha, hl⟩ := h.at_
      exact ⟨a, by rw [hne j (fun e => by rw [e, h0] at ha; cases ha)]; exact ha, hl⟩
    · by_cases e : x = i
      · subst e; have := hat _ hx; injection this with this; subst this; exact ⟨hiN, by omega, hup⟩
      · rw [hne x e] at hx
        obtain ⟨q1, q2, q3⟩ := h.sup _ _ hx
        exact ⟨q1, q2, by rw [e1]; omega⟩
  · have o3 : one (F i) = 1 := by rw [h0]; rfl
    have o4 : wt (F i) = (o + 144115188075855872).toNat := by rw [h0]; rfl
    have e1 : sm one (pt F i d) N = sm one F N := by omega
    obtain ⟨q1, q2, q3⟩ := h.sup _ _ h0
    refine ⟨⟨fun x a hx => ?_, ?_, fun x a hx => ?_⟩, by omega, by rw [h0]; exact e1⟩
    · by_cases e : x = i
      · subst e; have := hat _ hx; injection this with this; subst this; exact hw
      · rw [hne x e] at hx; exact h.walk _ _ hx
    · obtain ⟨a, ha, hl⟩ := h.at_
      by_cases e : j = i
      · subst e; rw [h0] at ha; injection ha with ha; exact ⟨d, by unfold pt; rw [if_pos rfl], by omega⟩
      · exact ⟨a, by rw [hne j e]; exact ha, hl⟩
    · by_cases e : x = i
      · subst e; have := hat _ hx; injection this with this; subst this; exact ⟨hiN, by omega, by rw [e1]; omega⟩
      · rw [hne x e] at hx
        obtain ⟨q1, q2, q3⟩ := h.sup _ _ hx
        exact ⟨q1, q2, by rw [e1]; exact q3⟩
theorem least_ex {R : Nat → Prop} : ∀ k, R k → ∃ m, R m ∧ ∀ i, R i → m ≤ i := by
  intro k
  induction k using Nat.strongRecOn with
  | ind k ih =>
    intro hk
    by_cases h : ∃ i, i < k ∧ R i
    · obtain ⟨i, h1, h2⟩ := h
      exact ih i h1 h2
    · exact ⟨k, hk, fun i hi => Nat.le_of_not_lt fun hlt => h ⟨i, hlt, hi⟩⟩
/-- The least number of a kind. -/
noncomputable def leastK (R : Nat → Prop) : Nat := open Classical in if h : ∃ k, R k then (least_ex h.choose h.choose_spec).choose else 0
theorem leastK_at {R : Nat → Prop} {k : Nat} (h : R k) : R (leastK R) := by
  have h' : ∃ k, R k := ⟨k, h⟩
  unfold leastK
  rw [dif_pos h']
  exact (least_ex h'.choose h'.choose_spec).choose_spec.1
theorem leastK_le {R : Nat → Prop} {k : Nat} (h : R k) : leastK R ≤ k := by
  have h' : ∃ k, R k := ⟨k, h⟩
  unfold leastK
  rw [dif_pos h']
  exact (least_ex h'.choose h'.choose_spec).choose_spec.2 k h
theorem leastK_lt {R R' : Nat → Prop} {k : Nat} (h : R' k) (hlt : k < leastK R) : leastK R' < leastK R := Nat.lt_of_le_of_lt (leastK_le h) hlt
def BR (w : World) (c : Nat × Nat → Int) (P : List (Nat × Nat)) (N j mb k : Nat) (s9 : Value) (W : World) : Prop := ∃ (F : Nat → Option Int) (b : Bool), s9 = .bool b ∧ BI c P N j F ∧ MG IK W mb (sm one F N) (sm one F N) (mpF F) ∧ (b = false → (P.foldl (bstp c) (F, false)).2 = false) ∧ sm wt F N + (if b then 1 else 0) ≤ k ∧ Below w.heap.size w W
def IsB (c : Nat × Nat → Int) (P : List (Nat × Nat)) (j : Nat) (F : Nat → Option Int) : Prop := Fix (EE c P) j F ∧ ∀ i a, F i = some a → Walk (EE c P) j i a
theorem IsB.one {c c' : Nat × Nat → Int} {P P' : List (Nat × Nat)} {j : Nat} {F G : Nat → Option Int} (hF : IsB c P j F) (hG : IsB c' P' j G) (t1 : ∀ p ∈ P, ∃ q ∈ P', q = p ∧ c' q ≤ c p) (t2 : ∀ p ∈ P', ∃ q ∈ P, q = p ∧ c q ≤ c' p) : F = G := by
  funext i
  refine fix_one hF.1 hG.1 hF.2 hG.2 (fun i u k hk => ?_) (fun i u k hk => ?_) i
  · obtain ⟨q, hq, rfl, hl⟩ := t1 _ hk.1
    exact ⟨_, ⟨hq, rfl⟩, by rw [hk.2]; exact hl⟩
  · obtain ⟨q, hq, rfl, hl⟩ := t2 _ hk.1
    exact ⟨_, ⟨hq, rfl⟩, by rw [hk.2]; exact hl⟩
theorem IsB.eq {c : Nat × Nat → Int} {P : List (Nat × Nat)} {j : Nat} {F G : Nat → Option Int} (hF : IsB c P j F) (hG : IsB c P j G) : F = G := hF.one hG (fun p hp => ⟨p, hp, rfl, Int.le_refl _⟩) (fun p hp => ⟨p, hp, rfl, Int.le_refl _⟩)
theorem BI.isB {c : Nat × Nat → Int} {P : List (Nat × Nat)} {N j : Nat} {F : Nat → Option Int} (h : BI c P N j F) (hf : (P.foldl (bstp c) (F, false)).2 = false) : IsB c P j F := by
  refine ⟨⟨h.at_, fun i u k hk b hb => ?_⟩, h.walk⟩
  obtain ⟨o, ho, hl⟩ := (bfold_no P (F, false) hf).2 _ hk.1 b hb
  exact ⟨o, ho, by rw [hk.2]; exact hl⟩
end Go.Proofs.Ytbmofagaammgmaa
