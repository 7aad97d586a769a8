/- What the least box contains; the hull of the program and the reference's, side by side. -/
import Derived.Test.YtcocdhndhlegiaaSpv
import Derived.Test.YtcocdhndhlegiaaSrb
namespace Go.Proofs.Ytcocdhndhlegiaa
open Go.ChangeShapes Go.WideShapes Go.ChangeAt Go.RowKit Go.ChangeMaps

theorem tmn_left (a b : ByteArray) : tle (tmn a b) a = true := by
  have h := tmn_ge a b (tmn a b)
  rw [tle_refl] at h
  exact (Bool.and_eq_true_iff.1 h.symm).1
theorem tmn_right (a b : ByteArray) : tle (tmn a b) b = true := by
  have h := tmn_ge a b (tmn a b)
  rw [tle_refl] at h
  exact (Bool.and_eq_true_iff.1 h.symm).2
theorem tmx_left (a b : ByteArray) : tle a (tmx a b) = true := by
  have h := tmx_le a b (tmx a b)
  rw [tle_refl] at h
  exact (Bool.and_eq_true_iff.1 h.symm).1
theorem tmx_right (a b : ByteArray) : tle b (tmx a b) = true := by
  have h := tmx_le a b (tmx a b)
  rw [tle_refl] at h
  exact (Bool.and_eq_true_iff.1 h.symm).2
theorem with_in1 (s t : Sd) (x : V3) (h : s.inB x = true) : (withM s t).inB x = true := by
  obtain ⟨k, n, b⟩ := x
  unfold Sd.inB at h ⊢
  unfold withM
  dsimp only at h ⊢
  by_cases h0 : k = 0
  · rw [if_pos h0] at h ⊢
    cases hs : s.ot <;> cases ht : t.ot <;> simp [h]
  · rw [if_neg h0] at h ⊢
    by_cases h1 : k = 1
    · rw [if_pos h1] at h ⊢
      simp only [Bool.and_eq_true, decide_eq_true_eq] at h
      rw [h.1]
      cases ht : t.ot
      · simp [h.1, h.2.1, h.2.2]
      · simp only [Bool.true_eq_false, if_false, if_true, Bool.true_and, Bool.and_eq_true, decide_eq_true_eq]
        constructor <;> split <;> omega
    · rw [if_neg h1] at h ⊢
      simp only [Bool.and_eq_true] at h
      rw [h.1]
      cases ht : t.ot
      · simp [h.1, h.2.1, h.2.2]
      · simp only [Bool.true_eq_false, if_false, if_true, Bool.true_and, Bool.and_eq_true]
        exact ⟨tle_trans (tmn_left _ _) h.2.1, tle_trans h.2.2 (tmx_left _ _)⟩
theorem with_in2 (s t : Sd) (x : V3) (h : t.inB x = true) : (withM s t).inB x = true := by
  obtain ⟨k, n, b⟩ := x
  unfold Sd.inB at h ⊢
  unfold withM
  dsimp only at h ⊢
  by_cases h0 : k = 0
  · rw [if_pos h0] at h ⊢
    cases hs : s.ot <;> cases ht : t.ot <;> simp [h]
  · rw [if_neg h0] at h ⊢
    by_cases h1 : k = 1
    · rw [if_pos h1] at h ⊢
      simp only [Bool.and_eq_true, decide_eq_true_eq] at h
      rw [h.1]
      cases hs : s.ot
      · simp [h.1, h.2.1, h.2.2]
      · simp only [Bool.true_eq_false, if_false, if_true, Bool.true_and, Bool.and_eq_true, decide_eq_true_eq]
        constructor <;> split <;> omega
    · rw [if_neg h1] at h ⊢
      simp only [Bool.and_eq_true] at h
      rw [h.1]
      cases hs : s.ot
      · simp [h.1, h.2.1, h.2.2]
      · simp only [Bool.true_eq_false, if_false, if_true, Bool.true_and, Bool.and_eq_true]
        exact ⟨tle_trans (tmn_right _ _) h.2.1, tle_trans h.2.2 (tmx_right _ _)⟩
theorem hull_zip1 : ∀ (R S : List Sd) (X : List V3), R.length = S.length → zipAll Sd.inB R X = true → zipAll Sd.inB (hullL R S) X = true
  | [], _, _, _, _ => by simp [hullL, zipAll]
  | _ :: _, [], _, h, _ => by cases h
  | _ :: _, _ :: _, [], _, _ => by simp [hullL, zipAll]
  | r :: R, s :: S, x :: X, hl, h => by
    have h : (r.inB x && zipAll Sd.inB R X) = true := h
    simp only [Bool.and_eq_true] at h
    show ((withM r s).inB x && zipAll Sd.inB (hullL R S) X) = true
    rw [with_in1 r s x h.1, hull_zip1 R S X (by simpa using hl) h.2]; rfl
theorem hull_zip2 : ∀ (R S : List Sd) (X : List V3), R.length = S.length → zipAll Sd.inB S X = true → zipAll Sd.inB (hullL R S) X = true
  | [], _, _, _, _ => by simp [hullL, zipAll]
  | _ :: _, [], _, h, _ => by cases h
  | _ :: _, _ :: _, [], _, _ => by simp [hullL, zipAll]
  | r :: R, s :: S, x :: X, hl, h => by
    have h : (s.inB x && zipAll Sd.inB S X) = true := h
    simp only [Bool.and_eq_true] at h
    show ((withM r s).inB x && zipAll Sd.inB (hullL R S) X) = true
    rw [with_in2 r s x h.1, hull_zip2 R S X (by simpa using hl) h.2]; rfl
theorem hull_cont {R S : List Sd} {X : List V3} (hl : R.length = S.length) (h : contB R X = true ∨ contB S X = true) : contB (hullL R S) X = true := by
  have hL : (hullL R S).length = R.length := by unfold hullL; rw [List.length_zipWith, hl, Nat.min_self]
  unfold contB
  rw [hL]
  rcases h with h | h
  · obtain ⟨a, b, c⟩ := contB_facts h
    rw [if_neg a, if_pos b]
    exact hull_zip1 R S X hl c
  · obtain ⟨a, b, c⟩ := contB_facts h
    rw [if_neg (by rw [hl]; exact a), if_pos (by rw [hl]; exact b)]
    exact hull_zip2 R S X hl c
theorem contB_nil {R : List Sd} {X : List V3} (h : R.length = 0) : contB R X = false := by unfold contB; rw [if_pos h]
theorem hull_pack (t : Int) (A0 : Option Addr) (n0 c0 : Nat) (R0 : List Sd) (A1 : Option Addr) (n1 c1 : Nat) (R1 : List Sd) (h0 : R0.length = n0) (h1 : R1.length = n1) (hn0 : n0 ≤ 1000) (hn1 : n1 ≤ 1000) (hc : n0 = n1 ∨ n0 = 0 ∨ n1 = 0) :
    ∃ (m : Nat) (T : List Sd), m ≤ 1000 ∧ (∀ X, contB R0 X = true ∨ contB R1 X = true → contB T X = true) ∧
      (∀ (W : World) (X Y : Option Addr) (x y : Nat), Sds W X n0 R0 → Sds W Y n1 R1 → Calls Try.prog 17 #[.agg #[.int .i64 t, .slice X n0 x], .agg #[.int .i64 t, .slice Y n1 y]] W fun e w' => ∃ A' c', e = .returned (.agg #[.int .i64 t, .slice A' m c']) ∧ Sds w' A' m T ∧ Below W.heap.size W w') ∧
      (∀ (W : World), Sds W A0 n0 R0 → Sds W A1 n1 R1 → Calls Try.prog 20 #[.agg #[.int .i64 t, .slice A0 n0 c0], .agg #[.int .i64 t, .slice A1 n1 c1]] W fun e w' => ∃ A' c', e = .returned (.agg #[.int .i64 t, .slice A' m c']) ∧ Sds w' A' m T ∧ Below W.heap.size W w') := by
  by_cases hz : n0 = 0
  · refine ⟨n1, R1, hn1, fun X h => ?_, fun W X Y x y hX hY => Hull_left t t X n0 x R0 Y n1 y R1 W hX hY hn0 hn1 hz, fun W hX hY => (RHull_left t t A0 n0 c0 A1 n1 c1 W hn0 hn1 hz).mono ?_⟩
    · rcases h with h | h
      · rw [contB_nil (by omega)] at h; cases h
      · exact h
    · rintro e w' ⟨rfl, hb⟩
      exact ⟨A1, c1, rfl, hY.below hb, hb⟩
  · by_cases hz2 : n1 = 0
    · refine ⟨n0, R0, hn0, fun X h => ?_, fun W X Y x y hX hY => Hull_right t t X n0 x R0 Y n1 y R1 W hX hY hn0 hn1 hz hz2, fun W hX hY => (RHull_right t t A0 n0 c0 A1 n1 c1 W hn0 hn1 hz hz2).mono ?_⟩
      · rcases h with h | h
        · exact h
        · rw [contB_nil (by omega)] at h; cases h
      · rintro e w' ⟨rfl, hb⟩
        exact ⟨A0, c0, rfl, hX.below hb, hb⟩
    · obtain rfl : n0 = n1 := by omega
      exact ⟨n0, hullL R0 R1, hn0, fun X h => hull_cont (by omega) h, fun W X Y x y hX hY => Hull_both t t X n0 x R0 Y y R1 _ rfl W hX hY hn0 hz, fun W hX hY => RHull_both t t A0 n0 c0 R0 A1 c1 R1 _ rfl W hX hY hn0 hz⟩
theorem sds_set {W : World} {D : Option Addr} {m g q r : Nat} {T : List Sd} {x : Int} {P : Option Addr} {t : TypeId} (h : Sds W D m T) (hg : Blk W g t #[.int .i64 x, .slice P q r]) (ds : Array Value) : Sds (W.setRow g ds) D m T := by
  have gr := grown_row W g ds
  refine ⟨h.1, fun hm => ?_⟩
  obtain ⟨b, off, e, hb, hc⟩ := h.2 hm
  refine ⟨b, off, e, Nat.lt_of_lt_of_le hb gr.size, fun j v hj => ?_⟩
  have hne : b ≠ g := by
    intro hbg
    subst hbg
    have hl := h.len
    match T, hl with
    | [], hl => simp at hl; omega
    | s :: T, _ =>
      have c := hc 0 (.bool s.nu) rfl
      rw [hg.cell] at c
      rcases off with _ | _ | off <;> simp at c
  rw [← hc j v hj]
  exact World.cell?_of_block (gr.block b hb (by simp; exact fun h => hne h))
end Go.Proofs.Ytcocdhndhlegiaa
