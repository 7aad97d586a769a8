/- Satisfiable as a whole; values of larger systems. -/
import Derived.Test.YtbmofagaammgmaaDsy
namespace Go.Proofs.Ytbmofagaammgmaa
open Go.ChangeShapes Go.WideShapes Go.ChangeAt Go.RowKit Go.ChangeMaps

noncomputable def satM (s : St) (n : Nat) : Bool := open Classical in decide (Sat s n)
theorem satM_t {s : St} {n : Nat} (h : Sat s n) : satM s n = true := by unfold satM; exact @decide_eq_true _ (Classical.propDecidable _) h
theorem satM_f {s : St} {n : Nat} (h : ¬ Sat s n) : satM s n = false := by unfold satM; exact @decide_eq_false _ (Classical.propDecidable _) h
theorem Sat_any (w : World) (B g n : Nat) (s : St) (h : MX w B g n s) : Calls Try.prog 15 #[.pointer (some ⟨g, 0, none⟩)] w fun e w' => e = .returned (.bool (satM s n)) ∧ Below w.heap.size w w' := by
  rcases sat_or s n with hs | hu
  · rw [satM_t hs]; exact Sat_sat w B g n s h hs
  · rw [satM_f (uns_iff.1 hu)]; exact Sat_uns w B g n s h hu
theorem walk_tr {E E' : Nat → Nat → Int → Prop} (t : ∀ i u c, E i u c → ∃ c', E' i u c' ∧ c' ≤ c) {j i : Nat} {a : Int} (hw : Walk E j i a) : ∃ a', Walk E' j i a' ∧ a' ≤ a := by
  induction hw with
  | nil => exact ⟨0, .nil, Int.le_refl _⟩
  | cons he _ ih =>
    obtain ⟨a', hw', hl⟩ := ih
    obtain ⟨c', he', hc⟩ := t _ _ _ he
    exact ⟨_, .cons he' hw', by omega⟩
theorem bndM_some {s : St} {n : Nat} {i j : Nat} {a : Int} (h : bndM s n (i : Int) (j : Int) = some a) : Sat s n ∧ i ≤ n ∧ j ≤ n ∧ ∃ F, IsB s.c s.prs j F ∧ F i = some a := by
  unfold bndM at h
  split at h
  · rename_i q
    obtain ⟨q1, q2, q3, q4⟩ := q
    have hc := Exists.choose_spec q4
    obtain ⟨F, hF⟩ : ∃ F, F = Exists.choose q4 := ⟨_, rfl⟩
    rw [← hF] at hc
    have h : F (i : Int).toNat = some a := by rw [hF]; exact h
    rw [Int.toNat_natCast] at hc h
    have := (not_bad.1 q1).2
    have := (not_bad.1 q2).2
    exact ⟨q3, by omega, by omega, _, hc, h⟩
  · cases h
theorem edges_tr {c c' : Nat × Nat → Int} {P P' : List (Nat × Nat)} (t : ∀ p ∈ P, ∃ q ∈ P', q = p ∧ c' q ≤ c p) : ∀ i u k, EE c P i u k → ∃ k', EE c' P' i u k' ∧ k' ≤ k := fun i u k hk => by
  obtain ⟨q, hq, rfl, hl⟩ := t _ hk.1
  exact ⟨_, ⟨hq, rfl⟩, by rw [hk.2]; exact hl⟩
theorem bndM_mono {s s' : St} {n : Nat} {B B' : List Bd} (hs : Sys B s.c s.prs) (hs' : Sys B' s'.c s'.prs) (hB : ∀ b ∈ B, b ∈ B') (hsat : Sat s' n) {i j : Nat} (e' : BE s' n (j : Int)) {a : Int} (h : bndM s n (i : Int) (j : Int) = some a) : ∃ a', bndM s' n (i : Int) (j : Int) = some a' ∧ a' ≤ a := by
  obtain ⟨-, hi, hj, F, hF, ha⟩ := bndM_some h
  obtain ⟨G, hG⟩ := e' (not_bad.2 ⟨by omega, by omega⟩) hsat
  rw [Int.toNat_natCast] at hG
  rw [bndM_eq hi hj hsat hG]
  obtain ⟨a1, hw, hl⟩ := walk_tr (edges_tr (sys_le hs hs' hB)) (hF.2 i a ha)
  obtain ⟨b, hb, hl2⟩ := hG.1.walk hw
  exact ⟨b, hb, by omega⟩
theorem sat_mono {s s' : St} {n : Nat} {B B' : List Bd} (hg : SG s n) (hg' : SG s' n) (hs : Sys B s.c s.prs) (hs' : Sys B' s'.c s'.prs) (hB : ∀ b ∈ B, b ∈ B') (hsat : Sat s' n) : Sat s n := by
  obtain ⟨Y, hY⟩ := (sat_iff hg' hs').1 hsat
  exact (sat_iff hg hs).2 ⟨Y, fun b hb => hY b (hB b hb)⟩
theorem add_sg {s : St} {n : Nat} (h : SG s n) {i j c : Int} (he : addE n i j c = 0) : SG (addS s i j c) n := h.add (addE_ok he).1 (addE_ok he).2.1
theorem add_sys {s : St} {n : Nat} (h : SG s n) {B : List Bd} (hs : Sys B s.c s.prs) {i j c : Int} (he : addE n i j c = 0) : Sys (B ++ [⟨i.toNat, j.toNat, c⟩]) (addS s i j c).c (addS s i j c).prs := Sys.add h hs (addE_ok he).1 (addE_ok he).2.1
/-- The values of Bound for all pairs, line by line. -/
noncomputable def tab (s : St) (n k : Nat) : Option Int := bndM s n ((k / (n + 1) : Nat) : Int) ((k % (n + 1) : Nat) : Int)
theorem tab_at {s : St} {n p q : Nat} (hq : q < n + 1) : tab s n (p * (n + 1) + q) = bndM s n (p : Int) (q : Int) := by
  unfold tab
  rw [Nat.mul_comm, Nat.mul_add_div (by omega), Nat.mul_add_mod, Nat.div_eq_of_lt hq, Nat.mod_eq_of_lt hq, Nat.add_zero]
noncomputable def vals (s : St) (n k : Nat) : List Value := (List.range k).map fun i => .int .i64 ((tab s n i).getD 0)
noncomputable def knos (s : St) (n k : Nat) : List Value := (List.range k).map fun i => .bool (tab s n i).isSome
theorem vals_succ (s : St) (n k : Nat) : vals s n (k + 1) = vals s n k ++ [.int .i64 ((tab s n k).getD 0)] := by unfold vals; rw [List.range_succ, List.map_append]; rfl
theorem knos_succ (s : St) (n k : Nat) : knos s n (k + 1) = knos s n k ++ [.bool (tab s n k).isSome] := by unfold knos; rw [List.range_succ, List.map_append]; rfl
theorem Try.info4 : (Try.prog.info? 4).map (fun i => (i.zero, i.size, i.bytes)) = some (some (.bool false), 1, 1) := by kernel_rfl
end Go.Proofs.Ytbmofagaammgmaa
