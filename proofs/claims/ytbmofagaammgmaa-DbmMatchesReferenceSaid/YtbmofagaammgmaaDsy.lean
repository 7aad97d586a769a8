/- Systems and the lists of bounds that they stand for. -/
import Derived.Test.YtbmofagaammgmaaDbu
namespace Go.Proofs.Ytbmofagaammgmaa
open Go.ChangeShapes Go.WideShapes Go.ChangeAt Go.RowKit Go.ChangeMaps

def toBd (b : Rb) : Bd := ⟨b.i.toNat, b.j.toNat, b.c⟩
structure SG (s : St) (n : Nat) : Prop where
  ok : ∀ p ∈ s.P, (0 ≤ p.1 ∧ p.1 ≤ (n : Int)) ∧ 0 ≤ p.2 ∧ p.2 ≤ (n : Int)
  dom : ∀ p, (s.f p).isSome = true ↔ p ∈ s.P
theorem SG.zero (n : Nat) : SG ⟨[], fun _ => none, 0⟩ n := ⟨fun p hp => (by cases hp), fun p => by simp⟩
theorem SG.hP {s : St} {n : Nat} (h : SG s n) : ∀ p ∈ s.prs, p.1 < n + 1 ∧ p.2 < n + 1 := fun p hp => by
  obtain ⟨q, hq, rfl⟩ := List.mem_map.1 hp
  obtain ⟨⟨a1, a2⟩, a3, a4⟩ := h.ok q hq
  dsimp only
  omega
theorem addS_f (s : St) (i j c : Int) (p : Int × Int) : (addS s i j c).f p = if p = (i, j) then (match s.f (i, j) with | none => some (c, (s.a : Int)) | some q => if c < q.1 then some (c, (s.a : Int)) else some q) else s.f p := by
  unfold addS
  cases hf : s.f (i, j) with
  | none => rfl
  | some q =>
    dsimp only
    by_cases h : c < q.1
    · rw [if_pos h, if_pos h]
    · rw [if_neg h, if_neg h]
      by_cases e : p = (i, j)
      · rw [if_pos e, e, hf]
      · rw [if_neg e]
theorem addS_mem {s : St} {n : Nat} (h : SG s n) {i j c : Int} {p : Int × Int} : p ∈ (addS s i j c).P ↔ p ∈ s.P ∨ p = (i, j) := by
  show p ∈ (if (s.f (i, j)).isSome then s.P else s.P ++ [(i, j)]) ↔ _
  by_cases e : (s.f (i, j)).isSome = true
  · rw [if_pos e]
    exact ⟨.inl, fun h' => by rcases h' with h' | rfl; exact h'; exact (h.dom _).1 e⟩
  · rw [if_neg e, List.mem_append, List.mem_singleton]
theorem SG.add {s : St} {n : Nat} (h : SG s n) {i j c : Int} (hi : 0 ≤ i ∧ i ≤ (n : Int)) (hj : 0 ≤ j ∧ j ≤ (n : Int)) : SG (addS s i j c) n := by
  refine ⟨fun p hp => ?_, fun p => ?_⟩
  · rcases (addS_mem h).1 hp with hp | rfl
    · exact h.ok p hp
    · exact ⟨hi, hj⟩
  · rw [addS_mem h, addS_f, ← h.dom p]
    by_cases e : p = (i, j)
    · rw [if_pos e]
      refine ⟨fun _ => .inr e, fun _ => ?_⟩
      cases s.f (i, j) with
      | none => rfl
      | some q => dsimp only; split <;> rfl
    · rw [if_neg e]
      exact ⟨.inl, fun h' => h'.resolve_right e⟩
theorem prs_mem {s : St} {n : Nat} (h : SG s n) {a b : Nat} : (a, b) ∈ s.prs ↔ ((a : Int), (b : Int)) ∈ s.P := by
  constructor
  · intro hm
    obtain ⟨q, hq, e⟩ := List.mem_map.1 hm
    injection e with e1 e2
    obtain ⟨⟨a1, a2⟩, a3, a4⟩ := h.ok q hq
    have : q = ((a : Int), (b : Int)) := by
      obtain ⟨q1, q2⟩ := q
      dsimp only at e1 e2 a1 a3
      rw [show q1 = (a : Int) by omega, show q2 = (b : Int) by omega]
    rw [← this]; exact hq
  · intro hm
    exact List.mem_map.2 ⟨_, hm, by simp⟩
theorem Sys.add {s : St} {n : Nat} (h : SG s n) {B : List Bd} (hs : Sys B s.c s.prs) {i j c : Int} (hi : 0 ≤ i ∧ i ≤ (n : Int)) (hj : 0 ≤ j ∧ j ≤ (n : Int)) : Sys (B ++ [⟨i.toNat, j.toNat, c⟩]) (addS s i j c).c (addS s i j c).prs := by
  obtain ⟨a, rfl⟩ : ∃ a : Nat, i = (a : Int) := ⟨i.toNat, by omega⟩
  obtain ⟨b, rfl⟩ : ∃ b : Nat, j = (b : Int) := ⟨j.toNat, by omega⟩
  have h' : SG (addS s (a : Int) (b : Int) c) n := h.add hi hj
  have hm : ∀ x y : Nat, (x, y) ∈ (addS s (a : Int) (b : Int) c).prs ↔ (x, y) ∈ s.prs ∨ (x, y) = (a, b) := fun x y => by
    rw [prs_mem h', addS_mem h, prs_mem h]
    constructor
    · rintro (q | q)
      · exact .inl q
      · right; injection q with q1 q2; rw [show x = a by omega, show y = b by omega]
    · rintro (q | q)
      · exact .inl q
      · right; injection q with q1 q2; rw [q1, q2]
  have hne : ∀ x y : Nat, (x, y) ≠ (a, b) → (addS s (a : Int) (b : Int) c).c (x, y) = s.c (x, y) := fun x y e => by
    unfold St.c
    rw [addS_f, if_neg (fun q => e (by injection q with q1 q2; rw [show x = a by omega, show y = b by omega]))]
  have hab : (addS s (a : Int) (b : Int) c).c (a, b) = match s.f ((a : Int), (b : Int)) with | none => c | some q => if c < q.1 then c else q.1 := by
    unfold St.c
    rw [addS_f, if_pos rfl]
    cases s.f ((a : Int), (b : Int)) with
    | none => rfl
    | some q => dsimp only; split <;> rfl
  have hin : ∀ q, s.f ((a : Int), (b : Int)) = some q → (a, b) ∈ s.prs ∧ s.c (a, b) = q.1 := fun q e => ⟨(prs_mem h).2 ((h.dom _).1 (by rw [e]; rfl)), by unfold St.c; rw [e]; rfl⟩
  have hnot : s.f ((a : Int), (b : Int)) = none → (a, b) ∉ s.prs := fun e hm => by
    have := (h.dom _).2 ((prs_mem h).1 hm)
    rw [e] at this
    cases this
  rw [Int.toNat_natCast, Int.toNat_natCast]
  refine ⟨fun d hd => ?_, fun p hp => ?_⟩
  · rcases List.mem_append.1 hd with hd | hd
    · obtain ⟨q1, q2⟩ := hs.to d hd
      refine ⟨(hm _ _).2 (.inl q1), ?_⟩
      by_cases e : (d.i, d.j) = (a, b)
      · rw [e] at q1 q2 ⊢
        rw [hab]
        cases hf : s.f ((a : Int), (b : Int)) with
        | none => exact absurd q1 (hnot hf)
        | some q =>
          have := (hin q hf).2
          dsimp only
          split <;> omega
      · rw [hne _ _ e]; exact q2
    · rw [List.mem_singleton.1 hd]
      refine ⟨(hm _ _).2 (.inr rfl), ?_⟩
      dsimp only
      rw [hab]
      cases s.f ((a : Int), (b : Int)) with
      | none => exact Int.le_refl _
      | some q => dsimp only; split <;> omega
  · obtain ⟨x, y⟩ := p
    by_cases e : (x, y) = (a, b)
    · rw [e, hab]
      cases hf : s.f ((a : Int), (b : Int)) with
      | none => exact ⟨⟨a, b, c⟩, by simp, rfl, rfl, rfl⟩
      | some q =>
        dsimp only
        by_cases hc : c < q.1
        · rw [if_pos hc]; exact ⟨⟨a, b, c⟩, by simp, rfl, rfl, rfl⟩
        · rw [if_neg hc]
          obtain ⟨d, hd, d1, d2, d3⟩ := hs.of _ (hin q hf).1
          exact ⟨d, List.mem_append_left _ hd, d1, d2, d3.trans (hin q hf).2⟩
    · rcases (hm x y).1 hp with hp | hp
      · obtain ⟨d, hd, d1, d2, d3⟩ := hs.of _ hp
        exact ⟨d, List.mem_append_left _ hd, d1, d2, by rw [hne _ _ e]; exact d3⟩
      · exact absurd hp e
theorem bld_sys (n : Nat) : ∀ (R : List Rb) (s : St) (L : List Rb), SG s n → Sys (L.map toBd) s.c s.prs → SG (bldS n R s) n ∧ Sys ((L ++ R.filter (okB n)).map toBd) (bldS n R s).c (bldS n R s).prs
  | [], s, L, h, hs => by
    rw [List.filter_nil, List.append_nil]
    exact ⟨h, hs⟩
  | b :: R, s, L, h, hs => by
    show SG (bldS n R (addX s n b.i b.j b.c)) n ∧ Sys _ (bldS n R (addX s n b.i b.j b.c)).c (bldS n R (addX s n b.i b.j b.c)).prs
    by_cases e : addE n b.i b.j b.c = 0
    · obtain ⟨hi, hj, -, -⟩ := addE_ok e
      rw [addX_eq e, List.filter_cons_of_pos (by unfold okB; simp [e])]
      have := bld_sys n R (addS s b.i b.j b.c) (L ++ [b]) (h.add hi hj) (by
        rw [List.map_append]
        exact Sys.add h hs hi hj)
      rw [List.append_assoc] at this
      exact this
    · have ex : addX s n b.i b.j b.c = s := by unfold addX; rw [if_neg e]
      rw [ex, List.filter_cons_of_neg (by unfold okB; simp [e])]
      exact bld_sys n R s L h hs
def bld (n : Nat) (R : List Rb) : St := bldS n R ⟨[], fun _ => none, 0⟩
def okL (n : Nat) (R : List Rb) : List Bd := (R.filter (okB n)).map toBd
theorem bld_sg (n : Nat) (R : List Rb) : SG (bld n R) n := (bld_sys n R _ [] (SG.zero n) ⟨fun b hb => (by cases hb), fun p hp => (by cases hp)⟩).1
theorem bld_of (n : Nat) (R : List Rb) : Sys (okL n R) (bld n R).c (bld n R).prs := (bld_sys n R _ [] (SG.zero n) ⟨fun b hb => (by cases hb), fun p hp => (by cases hp)⟩).2
theorem sat_iff {s : St} {n : Nat} {B : List Bd} (h : SG s n) (hs : Sys B s.c s.prs) : Sat s n ↔ ∃ Y : Nat → Int, ∀ b ∈ B, Y b.i - Y b.j ≤ b.c := by
  constructor
  · intro hsat
    obtain ⟨Y, hY⟩ := sat_Y h.hP hsat
    refine ⟨Y, fun b hb => ?_⟩
    obtain ⟨q1, q2⟩ := hs.to b hb
    have := hY _ q1
    dsimp only at this
    omega
  · rintro ⟨Y, hY⟩
    refine sat_of h.hP Y (fun p hp => ?_)
    obtain ⟨b, hb, e1, e2, e3⟩ := hs.of p hp
    have := hY b hb
    rw [e1, e2, e3] at this
    exact this
theorem uns_iff {s : St} {n : Nat} : Uns s n ↔ ¬ Sat s n := ⟨fun h k => not_both k h, fun h => (sat_or s n).resolve_left h⟩
/-- What a walk of bounds weighs at least. -/
theorem sys_le {B B' : List Bd} {c c' : Nat × Nat → Int} {P P' : List (Nat × Nat)} (hs : Sys B c P) (hs' : Sys B' c' P') (hB : ∀ b ∈ B, b ∈ B') : ∀ p ∈ P, ∃ q ∈ P', q = p ∧ c' q ≤ c p := fun p hp => by
  obtain ⟨b, hb, e1, e2, e3⟩ := hs.of p hp
  obtain ⟨q1, q2⟩ := hs'.to b (hB b hb)
  have e : (b.i, b.j) = p := by rw [e1, e2]
  rw [e, e3] at q2
  rw [e] at q1
  exact ⟨p, q1, rfl, q2⟩
def BE (s : St) (n : Nat) (j : Int) : Prop := bad n j = false → Sat s n → ∃ F, IsB s.c s.prs j.toNat F
theorem Bound_all (w : World) (B g n : Nat) (s : St) (h : MX w B g n s) (i j : Int) (hi : bad n i = false) : Calls Try.prog 16 #[.pointer (some ⟨g, 0, none⟩), .int .i64 i, .int .i64 j] w fun e w' => e = .returned (bdA (bndM s n i j)) ∧ Below w.heap.size w w' ∧ BE s n j := by
  cases h2 : bad n j with
  | true =>
    refine (Bound_any w B g n s h i j).mono ?_
    rintro e w' ⟨q1, q2⟩
    exact ⟨q1, q2, fun q => by rw [h2] at q; cases q⟩
  | false =>
    rcases sat_or s n with hs | hu
    · obtain ⟨a1, a2⟩ := not_bad.1 hi
      obtain ⟨b1, b2⟩ := not_bad.1 h2
      obtain ⟨a, rfl⟩ : ∃ a : Nat, i = (a : Int) := ⟨i.toNat, by omega⟩
      obtain ⟨b, rfl⟩ : ∃ b : Nat, j = (b : Int) := ⟨j.toNat, by omega⟩
      refine (Bound_sat w B g n s h hs a b (by omega) (by omega)).mono ?_
      rintro e w' ⟨F, hF, rfl, hb⟩
      exact ⟨by rw [bndM_eq (by omega) (by omega) hs hF], hb, fun _ _ => ⟨F, by rw [Int.toNat_natCast]; exact hF⟩⟩
    · refine (Bound_any w B g n s h i j).mono ?_
      rintro e w' ⟨q1, q2⟩
      exact ⟨q1, q2, fun _ q => absurd hu (fun hu => not_both q hu)⟩
/-- Systems of the same bounds have the same values. -/
theorem bndM_same {s s' : St} {n : Nat} {B B' : List Bd} (h : SG s n) (h' : SG s' n) (hs : Sys B s.c s.prs) (hs' : Sys B' s'.c s'.prs) (h1 : ∀ b ∈ B, b ∈ B') (h2 : ∀ b ∈ B', b ∈ B) {i j : Int} (e : BE s n j) (e' : BE s' n j) : bndM s n i j = bndM s' n i j := by
  by_cases hb : bad n i = true ∨ bad n j = true
  · rw [bndM_no (by rcases hb with hb | hb; exact .inl hb; exact .inr (.inl hb)), bndM_no (by rcases hb with hb | hb; exact .inl hb; exact .inr (.inl hb))]
  · have b1 : bad n i = false := by cases q : bad n i with | false => rfl | true => exact absurd (.inl q) hb
    have b2 : bad n j = false := by cases q : bad n j with | false => rfl | true => exact absurd (.inr q) hb
    have hss : Sat s n ↔ Sat s' n := by
      rw [sat_iff h hs, sat_iff h' hs']
      exact ⟨fun ⟨Y, hY⟩ => ⟨Y, fun b hb => hY b (h2 b hb)⟩, fun ⟨Y, hY⟩ => ⟨Y, fun b hb => hY b (h1 b hb)⟩⟩
    rcases sat_or s n with hsat | hu
    · obtain ⟨F, hF⟩ := e b2 hsat
      obtain ⟨G, hG⟩ := e' b2 (hss.1 hsat)
      obtain ⟨a1, a2⟩ := not_bad.1 b1
      obtain ⟨c1, c2⟩ := not_bad.1 b2
      obtain ⟨a, rfl⟩ : ∃ a : Nat, i = (a : Int) := ⟨i.toNat, by omega⟩
      obtain ⟨b, rfl⟩ : ∃ b : Nat, j = (b : Int) := ⟨j.toNat, by omega⟩
      rw [Int.toNat_natCast] at hF hG
      rw [bndM_eq (by omega) (by omega) hsat hF, bndM_eq (by omega) (by omega) (hss.1 hsat) hG, hF.one hG (sys_le hs hs' h1) (sys_le hs' hs h2)]
    · rw [bndM_no (.inr (.inr hu)), bndM_no (.inr (.inr (uns_iff.2 (fun q => uns_iff.1 hu (hss.2 q)))))]
end Go.Proofs.Ytbmofagaammgmaa
