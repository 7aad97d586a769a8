/- Bound as a function of the system. -/
import Derived.Test.YtbmofagaammgmaaDbd
namespace Go.Proofs.Ytbmofagaammgmaa
open Go.ChangeShapes Go.WideShapes Go.ChangeAt Go.RowKit Go.ChangeMaps

noncomputable def bndM (s : St) (n : Nat) (i j : Int) : Option Int := open Classical in if h : bad n i = false ∧ bad n j = false ∧ Sat s n ∧ ∃ F, IsB s.c s.prs j.toNat F then h.2.2.2.choose i.toNat else none
theorem not_bad {n : Nat} {i : Int} : bad n i = false ↔ 0 ≤ i ∧ i ≤ (n : Int) := by
  unfold bad
  cases h : (decide (0 ≤ i) && decide (i ≤ (n : Int)))
  · constructor
    · intro h'; cases h'
    · intro h'; simp [h'.1, h'.2] at h
  · simp only [Bool.and_eq_true, decide_eq_true_eq] at h
    exact ⟨fun _ => h, fun _ => rfl⟩
theorem not_both {s : St} {n : Nat} (h : Sat s n) (k : Uns s n) : False := by
  obtain ⟨r, hr, hall⟩ := h
  exact k r hr hall
theorem bndM_eq {s : St} {n : Nat} {i j : Nat} (hi : i ≤ n) (hj : j ≤ n) (hs : Sat s n) {F : Nat → Option Int} (hF : IsB s.c s.prs j F) : bndM s n (i : Int) (j : Int) = F i := by
  have h : bad n (i : Int) = false ∧ bad n (j : Int) = false ∧ Sat s n ∧ ∃ F, IsB s.c s.prs (j : Int).toNat F := ⟨not_bad.2 ⟨by omega, by omega⟩, not_bad.2 ⟨by omega, by omega⟩, hs, F, by rw [Int.toNat_natCast]; exact hF⟩
  unfold bndM
  rw [dif_pos h]
  have hc := h.2.2.2.choose_spec
  have hF' : IsB s.c s.prs (j : Int).toNat F := by rw [Int.toNat_natCast]; exact hF
  rw [hc.eq hF', Int.toNat_natCast]
theorem bndM_no {s : St} {n : Nat} {i j : Int} (h : bad n i = true ∨ bad n j = true ∨ Uns s n) : bndM s n i j = none := by
  unfold bndM
  rw [dif_neg]
  rintro ⟨h1, h2, h3, -⟩
  rcases h with h | h | h
  · rw [h] at h1; cases h1
  · rw [h] at h2; cases h2
  · exact not_both h3 h
theorem Bound_any (w : World) (B g n : Nat) (s : St) (h : MX w B g n s) (i j : Int) : Calls Try.prog 16 #[.pointer (some ⟨g, 0, none⟩), .int .i64 i, .int .i64 j] w fun e w' => e = .returned (bdA (bndM s n i j)) ∧ Below w.heap.size w w' := by
  have hb : ∀ h0 : bad n i = true ∨ bad n j = true ∨ Uns s n, Calls Try.prog 16 #[.pointer (some ⟨g, 0, none⟩), .int .i64 i, .int .i64 j] w fun e w' => e = .returned (bdA (bndM s n i j)) ∧ Below w.heap.size w w' := fun h0 => by
    rw [bndM_no h0]
    exact Bound_bad w B g n s h i j h0
  cases h1 : bad n i with
  | true => exact hb (.inl h1)
  | false =>
    cases h2 : bad n j with
    | true => exact hb (.inr (.inl h2))
    | false =>
      rcases sat_or s n with hs | hu
      · obtain ⟨a1, a2⟩ := not_bad.1 h1
        obtain ⟨b1, b2⟩ := not_bad.1 h2
        obtain ⟨a, rfl⟩ : ∃ a : Nat, i = (a : Int) := ⟨i.toNat, by omega⟩
        obtain ⟨b, rfl⟩ : ∃ b : Nat, j = (b : Int) := ⟨j.toNat, by omega⟩
        refine (Bound_sat w B g n s h hs a b (by omega) (by omega)).mono ?_
        rintro e w' ⟨F, hF, rfl, hb⟩
        exact ⟨by rw [bndM_eq (by omega) (by omega) hs hF], hb⟩
      · exact hb (.inr (.inr hu))
theorem bndB : bndM sB 2 0 2 = some 2 := by
  have hp : sB.prs = [(0, 1), (1, 2)] := by decide +kernel
  have c1 : sB.c (0, 1) = -3 := by decide +kernel
  have c2 : sB.c (1, 2) = 5 := by decide +kernel
  have w2 : Walk (EE sB.c sB.prs) 2 2 0 := .nil
  have w1 : Walk (EE sB.c sB.prs) 2 1 5 := .cons (u := 2) (c := 5) ⟨by rw [hp]; decide, c2.symm⟩ w2
  have w0 : Walk (EE sB.c sB.prs) 2 0 2 := .cons (u := 1) (c := -3) ⟨by rw [hp]; decide, c1.symm⟩ w1
  have hF : IsB sB.c sB.prs 2 (fun v => if v = 0 then some 2 else if v = 1 then some 5 else if v = 2 then some 0 else none) := by
    refine ⟨⟨⟨0, rfl, Int.le_refl _⟩, fun i u c hk b hb => ?_⟩, fun i a ha => ?_⟩
    · obtain ⟨h1, h2⟩ := hk
      rw [hp] at h1
      simp only [List.mem_cons, List.not_mem_nil, or_false, Prod.mk.injEq] at h1
      rcases h1 with ⟨rfl, rfl⟩ | ⟨rfl, rfl⟩
      · rw [c1] at h2
        have hb : some (5 : Int) = some b := hb
        injection hb with hb
        exact ⟨2, rfl, by omega⟩
      · rw [c2] at h2
        have hb : some (0 : Int) = some b := hb
        injection hb with hb
        exact ⟨5, rfl, by omega⟩
    · dsimp only at ha
      by_cases e0 : i = 0
      · subst e0; rw [if_pos rfl] at ha; injection ha with ha; subst ha; exact w0
      rw [if_neg e0] at ha
      by_cases e1 : i = 1
      · subst e1; rw [if_pos rfl] at ha; injection ha with ha; subst ha; exact w1
      rw [if_neg e1] at ha
      by_cases e2 : i = 2
      · subst e2; rw [if_pos rfl] at ha; injection ha with ha; subst ha; exact w2
      rw [if_neg e2] at ha
      cases ha
  exact (bndM_eq (i := 0) (j := 2) (by decide) (by decide) satB hF).trans rfl
end Go.Proofs.Ytbmofagaammgmaa
