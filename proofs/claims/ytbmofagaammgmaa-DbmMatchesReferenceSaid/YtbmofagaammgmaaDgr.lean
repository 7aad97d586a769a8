/- The reference's Greatest: the mathematics of its rounds. -/
import Derived.Test.YtbmofagaammgmaaDpo
namespace Go.Proofs.Ytbmofagaammgmaa
open Go.ChangeShapes Go.WideShapes Go.ChangeAt Go.RowKit Go.ChangeMaps

def rstp (F : Nat → Option Int) (b : Bd) : Nat → Option Int :=
  match F b.j with
  | none => F
  | some a => match F b.i with
    | none => pt F b.i (a + b.c)
    | some o => if o > a + b.c then pt F b.i (a + b.c) else F
def ole (x y : Option Int) : Prop := ∀ b, y = some b → ∃ a, x = some a ∧ a ≤ b
theorem ole_refl (x : Option Int) : ole x x := fun b h => ⟨b, h, Int.le_refl _⟩
theorem ole_trans {x y z : Option Int} (h : ole x y) (k : ole y z) : ole x z := fun c hc => by
  obtain ⟨b, hb, h1⟩ := k c hc
  obtain ⟨a, ha, h2⟩ := h b hb
  exact ⟨a, ha, by omega⟩
theorem ole_anti {x y : Option Int} (h : ole x y) (k : ole y x) : x = y := by
  cases x with
  | none =>
    cases y with
    | none => rfl
    | some b => obtain ⟨a, ha, -⟩ := h b rfl; cases ha
  | some a =>
    obtain ⟨b, hb, h1⟩ := k a rfl
    obtain ⟨a', ha, h2⟩ := h b hb
    injection ha with ha
    rw [hb, show a = b by omega]
theorem pt_le {F : Nat → Option Int} {i : Nat} {a : Int} (h : ole (some a) (F i)) (v : Nat) : ole (pt F i a v) (F v) := by
  unfold pt
  by_cases e : v = i
  · rw [if_pos e, e]; exact h
  · rw [if_neg e]; exact ole_refl _
theorem rstp_le (F : Nat → Option Int) (b : Bd) (v : Nat) : ole (rstp F b v) (F v) := by
  unfold rstp
  cases hj : F b.j with
  | none => exact ole_refl _
  | some a =>
    dsimp only
    cases hi : F b.i with
    | none => exact pt_le (by rw [hi]; intro c hc; cases hc) v
    | some o =>
      dsimp only
      split
      · exact pt_le (by rw [hi]; intro c hc; injection hc with hc; exact ⟨_, rfl, by omega⟩) v
      · exact ole_refl _
theorem rstp_relax {F : Nat → Option Int} {b : Bd} {a : Int} (hj : F b.j = some a) : ole (rstp F b b.i) (some (a + b.c)) := by
  unfold rstp
  rw [hj]
  dsimp only
  intro c hc
  injection hc with hc
  have hp : pt F b.i (a + b.c) b.i = some (a + b.c) := by unfold pt; rw [if_pos rfl]
  cases hi : F b.i with
  | none => exact ⟨a + b.c, hp, by omega⟩
  | some o =>
    dsimp only
    split
    · exact ⟨a + b.c, hp, by omega⟩
    · exact ⟨o, hi, by omega⟩
def rrd (B : List Bd) (F : Nat → Option Int) : Nat → Option Int := B.foldl rstp F
theorem rrd_le : ∀ (B : List Bd) (F : Nat → Option Int) (v : Nat), ole (rrd B F v) (F v)
  | [], F, v => ole_refl _
  | b :: B, F, v => ole_trans (rrd_le B (rstp F b) v) (rstp_le F b v)
/-- No value falls below G, which cannot be lowered. -/
theorem rstp_low {F G : Nat → Option Int} {b : Bd} (hG : ∀ a, G b.j = some a → ole (G b.i) (some (a + b.c))) (h : ∀ v, ole (G v) (F v)) (v : Nat) : ole (G v) (rstp F b v) := by
  have hp : ∀ a, F b.j = some a → ole (G v) (pt F b.i (a + b.c) v) := fun a ha => by
    unfold pt
    by_cases e : v = b.i
    · rw [if_pos e, e]
      obtain ⟨a', ha', hl⟩ := h b.j a ha
      refine ole_trans (hG a' ha') ?_
      intro c hc
      injection hc with hc
      exact ⟨_, rfl, by omega⟩
    · rw [if_neg e]; exact h v
  unfold rstp
  cases hj : F b.j with
  | none => exact h v
  | some a =>
    dsimp only
    cases hi : F b.i with
    | none => exact hp a hj
    | some o =>
      dsimp only
      split
      · exact hp a hj
      · exact h v
theorem rrd_low {G : Nat → Option Int} : ∀ (B : List Bd) (F : Nat → Option Int), (∀ b ∈ B, ∀ a, G b.j = some a → ole (G b.i) (some (a + b.c))) → (∀ v, ole (G v) (F v)) → ∀ v, ole (G v) (rrd B F v)
  | [], F, _, h, v => h v
  | b :: B, F, hG, h, v => rrd_low B (rstp F b) (fun x hx => hG x (List.mem_cons_of_mem _ hx)) (fun u => rstp_low (hG b List.mem_cons_self) h u) v
/-- Where u is settled, each bound on u is used. -/
theorem rrd_relax {G : Nat → Option Int} : ∀ (B : List Bd) (F : Nat → Option Int), (∀ b ∈ B, ∀ a, G b.j = some a → ole (G b.i) (some (a + b.c))) → (∀ v, ole (G v) (F v)) → ∀ b ∈ B, ∀ a, F b.j = G b.j → G b.j = some a → ole (rrd B F b.i) (some (a + b.c))
  | x :: B, F, hG, h, b, hb, a, hs, ha => by
    have hl : ∀ u, ole (G u) (rstp F x u) := fun u => rstp_low (hG x List.mem_cons_self) h u
    rcases List.mem_cons.1 hb with rfl | hb
    · exact ole_trans (rrd_le B (rstp F b) b.i) (rstp_relax (hs.trans ha))
    · refine rrd_relax B (rstp F x) (fun y hy => hG y (List.mem_cons_of_mem _ hy)) hl b hb a ?_ ha
      exact ole_anti (ole_trans (rstp_le F x b.j) (by rw [hs]; exact ole_refl _)) (hl b.j)
def rsk (B : List Bd) (j : Nat) : Nat → Nat → Option Int
  | 0 => pt (fun _ => none) j 0
  | k + 1 => rrd B (rsk B j k)
def uns1 (F G : Nat → Option Int) : Nat → Option Int := fun v => if F v = G v then none else some 0
theorem sm_lt {A B : Nat → Option Int} (h : ∀ v, one (A v) ≤ one (B v)) {x : Nat} (hx : one (A x) < one (B x)) : ∀ {N : Nat}, x < N → sm one A N < sm one B N
  | N + 1, hN => by
    unfold sm
    have h0 : ∀ N, sm one A N ≤ sm one B N := fun N => by
      induction N with
      | zero => exact Nat.le_refl _
      | succ N ih => unfold sm; have := h N; omega
    by_cases e : x = N
    · subst e
      have := h0 x
      omega
    · have := sm_lt h hx (show x < N by omega)
      have := h N
      omega
section
variable {B : List Bd} {c : Nat × Nat → Int} {P : List (Nat × Nat)} {N j : Nat} {G : Nat → Option Int}
theorem isB_edge (hs : Sys B c P) (hG : IsB c P j G) : ∀ b ∈ B, ∀ a, G b.j = some a → ole (G b.i) (some (a + b.c)) := fun b hb a ha => by
  obtain ⟨q1, q2⟩ := hs.to b hb
  obtain ⟨b', h1, h2⟩ := hG.1.edge _ _ _ ⟨q1, rfl⟩ a ha
  intro x hx
  injection hx with hx
  exact ⟨b', h1, by omega⟩
theorem isB_zero (hs : Sys B c P) (hG : IsB c P j G) (hsol : ∃ Y : Nat → Int, ∀ b ∈ B, Y b.i - Y b.j ≤ b.c) : G j = some 0 := by
  obtain ⟨a, ha, hl⟩ := hG.1.at_
  obtain ⟨Y, hY⟩ := hsol
  have := (hG.2 j a ha).sol (s := Y) (fun x u k hk => by
    obtain ⟨b, hb, e1, e2, e3⟩ := hs.of _ hk.1
    have := hY b hb
    rw [e1, e2, e3] at this
    rw [hk.2]
    exact this)
  rw [ha, show a = 0 by omega]
theorem rsk_low (hs : Sys B c P) (hG : IsB c P j G) (h0 : G j = some 0) : ∀ k v, ole (G v) (rsk B j k v)
  | 0, v => by
    show ole (G v) (pt (fun _ => none) j 0 v)
    unfold pt
    by_cases e : v = j
    · rw [if_pos e, e, h0]; exact ole_refl _
    · rw [if_neg e]; intro x hx; cases hx
  | k + 1, v => rrd_low B _ (isB_edge hs hG) (rsk_low hs hG h0 k) v
theorem rsk_keep (hs : Sys B c P) (hG : IsB c P j G) (h0 : G j = some 0) {k v : Nat} (h : rsk B j k v = G v) : rsk B j (k + 1) v = G v :=
  ole_anti (ole_trans (rrd_le B (rsk B j k) v) (by rw [h]; exact ole_refl _)) (rsk_low hs hG h0 (k + 1) v)
/-- While something is not settled, a round settles more. -/
theorem rsk_more (hs : Sys B c P) (hP : ∀ p ∈ P, p.1 < N ∧ p.2 < N) (hG : IsB c P j G) (h0 : G j = some 0) (k : Nat) {i : Nat} {a : Int} (hw : Walk (EE c P) j i a) : G i = some a → rsk B j k i = G i ∨ ∃ x, x < N ∧ rsk B j k x ≠ G x ∧ rsk B j (k + 1) x = G x := by
  induction hw with
  | nil =>
    intro _
    left
    induction k with
    | zero => show pt (fun _ => none) j 0 j = _; unfold pt; rw [if_pos rfl, h0]
    | succ k ih => exact rsk_keep hs hG h0 ih
  | @cons i u a w he hw ih =>
    intro ha
    obtain ⟨b, hb, hl⟩ := hG.1.walk hw
    obtain ⟨b', hb', hl'⟩ := hG.1.edge _ _ _ he b hb
    rw [ha] at hb'
    injection hb' with hb'
    have hba : b = a := by omega
    subst hba
    rcases ih hb with h | h
    · by_cases hi : rsk B j k i = G i
      · exact .inl hi
      · right
        refine ⟨i, (hP _ he.1).1, hi, ?_⟩
        obtain ⟨d, hd, e1, e2, e3⟩ := hs.of _ he.1
        dsimp only at e1 e2
        have hr := rrd_relax B (rsk B j k) (isB_edge hs hG) (rsk_low hs hG h0 k) d hd b (by rw [e2]; exact h) (by rw [e2]; exact hb)
        rw [e1, e3, ← he.2] at hr
        refine ole_anti ?_ (rsk_low hs hG h0 (k + 1) i)
        rw [ha]
        exact hr
    · exact .inr h
theorem rsk_open (hs : Sys B c P) (hP : ∀ p ∈ P, p.1 < N ∧ p.2 < N) (hG : IsB c P j G) (h0 : G j = some 0) (k : Nat) : (∀ v, rsk B j k v = G v) ∨ ∃ x, x < N ∧ rsk B j k x ≠ G x ∧ rsk B j (k + 1) x = G x := by
  by_cases hall : ∀ v, rsk B j k v = G v
  · exact .inl hall
  · right
    have : ∃ v, rsk B j k v ≠ G v := by
      false_or_by_contra
      rename_i hn
      exact hall (fun v => by
        by_cases e : rsk B j k v = G v
        · exact e
        · exact absurd ⟨v, e⟩ hn)
    obtain ⟨v, hv⟩ := this
    cases hg : G v with
    | none =>
      exfalso
      apply hv
      rw [hg]
      cases hr : rsk B j k v with
      | none => rfl
      | some a =>
        obtain ⟨b, hb, -⟩ := rsk_low hs hG h0 k v a hr
        rw [hg] at hb
        cases hb
    | some a =>
      rcases rsk_more hs hP hG h0 k (hG.2 v a hg) hg with h1 | h1
      · exact absurd h1 hv
      · exact h1
theorem rsk_done (hs : Sys B c P) (hP : ∀ p ∈ P, p.1 < N ∧ p.2 < N) (hG : IsB c P j G) (h0 : G j = some 0) (hj : j < N) : ∀ k, N ≤ k + 1 → ∀ v, rsk B j k v = G v := by
  have hcnt : ∀ k, (∀ v, rsk B j k v = G v) ∨ sm one (uns1 (rsk B j k) G) N + k + 1 ≤ N := by
    intro k
    induction k with
    | zero =>
      right
      have h1 := sm_lt (A := uns1 (rsk B j 0) G) (B := fun _ => some 0) (x := j) (fun v => by unfold uns1; split <;> decide) (by
        unfold uns1
        rw [if_pos (by show pt (fun _ => none) j 0 j = _; unfold pt; rw [if_pos rfl, h0])]
        decide) hj
      have h2 := sm_le one_le (fun _ => some 0) N
      omega
    | succ k ih =>
      rcases ih with h | h
      · left; intro v; exact rsk_keep hs hG h0 (h v)
      · rcases rsk_open hs hP hG h0 k with hall | ⟨x, hx, hne, he⟩
        · left; intro v; exact rsk_keep hs hG h0 (hall v)
        · right
          have := sm_lt (A := uns1 (rsk B j (k + 1)) G) (B := uns1 (rsk B j k) G) (x := x) (fun v => by
            unfold uns1
            by_cases e : rsk B j k v = G v
            · rw [if_pos e, if_pos (rsk_keep hs hG h0 e)]; exact Nat.le_refl _
            · rw [if_neg e]; exact one_le _) (by
            unfold uns1
            rw [if_pos he, if_neg hne]
            decide) hx
          omega
  intro k hk v
  rcases hcnt k with h | h
  · exact h v
  · rcases rsk_open hs hP hG h0 k with hall | ⟨x, hx, hne, -⟩
    · exact hall v
    · exfalso
      have := sm_lt (A := fun _ => none) (B := uns1 (rsk B j k) G) (x := x) (fun v => Nat.zero_le _) (by unfold uns1; rw [if_neg hne]; decide) hx
      omega
end
end Go.Proofs.Ytbmofagaammgmaa
