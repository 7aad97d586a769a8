/- Appends: what a scan reads then. -/
import Derived.Test.YtgpofkabidginaaWgd
namespace Go.Proofs.Ytgpofkabidginaa
open Go.ChangeShapes Go.WideShapes Go.ChangeAt Go.RowKit Go.ChangeMaps

/-- The reference's append. -/
theorem ref_step2 (w : World) (B p q r t g m f c e k : Nat) (S : List UInt8) (v : Value) (s : St) (h : PM w B p q r t g m f c e k S v s s) (hrg : Rg B w m r f c e k S v) (he : e < 4294967296) (hf : f ≤ 65536) (hc : c ≤ 12) (hS : S.length ≤ 59 * c) (hk : k ≤ 1000) (hx : s.x ≤ 100000) (hr : f + c ≤ s.R.length)
    (A : Option Addr) (m0 c0 : Nat) (b : List UInt8) (hb : BA (fun k => B ≤ k) w A m0 b) (hm : m0 ≤ 400) (hmc : m0 ≤ c0) (hcc : c0 ≤ 9223372036854775807) :
    Calls Try.prog 17 #[.pointer (some ⟨m, 0, none⟩), .slice A m0 c0] w fun e' w' => ∃ v', e' = .returned (.int .i64 ((lgOf f c e k S).app s b).2.2) ∧ PM w' B p q r t g m f c e k S v' s ((lgOf f c e k S).app s b).2.1 ∧
      (((lgOf f c e k S).app s b).2.2 = 0 → Rg B w' m r f c e (k + 1) (S ++ nb4 b.length ++ b) v') ∧ (((lgOf f c e k S).app s b).2.2 = 16 → Rg B w' m r f c e k S v') ∧ Chg (FS p q r t g m B) w w' ∧ Chg (FO (fun k => PQ r t k ∨ k = m) v) w w' := by
  have hbl : b.length = m0 := hb.1
  by_cases hfr : freeM (59 * (c : Int) - (S.length : Int)) < (m0 : Int)
  · have e1 : (lgOf f c e k S).app s b = (lgOf f c e k S, s, 16) := by
      unfold Lg.app
      rw [if_pos (show freeM (59 * ((lgOf f c e k S).c : Int) - ((lgOf f c e k S).n : Int)) < (b.length : Int) from by rw [hbl]; exact hfr)]
    rw [e1]
    refine (RApp_full B w m r f c e k S v hrg (by omega) (by omega) A m0 c0 (by omega) hfr).mono ?_
    rintro e' w' ⟨rfl, hbe⟩
    exact ⟨v, rfl, h.below hbe, fun h0 => by simp at h0, fun _ => hrg.below hbe, Chg.of_below hbe, Chg.of_below hbe⟩
  · have hfb2 : ∀ k, F6 p q r t g m k → k < w.heap.size := fun k hk => Nat.lt_of_lt_of_le (h.fb k hk) h.b
    refine (RApp2 (F6 p q r t g m) B w m r t f c e k S v s hrg h.rk (.inl (.inr (.inr (.inl rfl)))) (.inl (.inr (.inr (.inr rfl)))) (.inr (.inr rfl)) (fun hh => h.m (F4_rt hh)) h.own h.fb h.b he hf (by omega) (by omega) (by omega) A m0 c0 b hb (by omega) hmc hcc (by omega) (by omega)).mono ?_
    rintro e' w' ⟨v', rfl, hrk, hrg', hcg, hmv, hvl⟩
    have hnp : ∀ x, F6 p q r t g m x → ¬ PQ r t x → x ≠ m → ¬ FO (fun k => PQ r t k ∨ k = m) v x := fun x hx h1 h2 hh => by
      rcases hh with (hh | hh) | hh
      · exact h1 hh
      · exact h2 hh
      · exact h.own x hh hx
    have hF' : ∀ x, x < w.heap.size → ¬ FO (F6 p q r t g m) v x → ¬ FO (F6 p q r t g m) v' x := fun x hx hf1 hf2 => by
      rcases hf2 with hh | hh
      · exact hf1 (.inl hh)
      · rcases hmv x hh with h1 | h1
        · exact hf1 (.inr h1)
        · omega
    have hsub : ∀ x, FO (fun k => PQ r t k ∨ k = m) v x → FO (F6 p q r t g m) v x := fun x hx => by
      rcases hx with (hh | hh) | hh
      · exact .inl (.inl (F4_rt hh))
      · exact .inl (.inr (.inr hh))
      · exact .inr hh
    have hvv : ∀ j, v'.ownBlock = some j → B ≤ j := fun j hj => by
      rcases hmv j hj with h1 | h1
      · exact (h.v j h1).1
      · exact Nat.le_trans h.b h1
    have hpm : PM w' B p q r t g m f c e k S v' s ((lgOf f c e k S).app s b).2.1 := by
      refine ⟨h.d.chg hcg (hnp p (.inl (.inl rfl)) (fun hh => by rcases hh with e | e; (· exact h.ne.1 e.symm); exact h.ne.2.2.1 e.symm) (fun e => h.m (.inl e.symm))) (hnp q (.inl (.inr (.inl rfl))) (fun hh => by rcases hh with e | e; (· exact h.ne.2.1 e.symm); exact h.ne.2.2.2 e.symm) (fun e => h.m (.inr (.inl e.symm)))), hrk, h.l.re hcg hsub (hnp g (.inr (.inl rfl)) (fun hh => h.g.1 (F4_rt hh)) h.g.2) hF', h.fb, Nat.le_trans h.b hcg.size, fun j hj => ⟨hvv j hj, hvl j hj⟩, h.ne, h.g, h.m⟩
    exact ⟨v', rfl, hpm, hrg', fun h16 => absurd h16 (app_not16 hr (by rw [hbl]; exact hfr)), hcg.mono (fun x hx => by
      rcases hx with (hh | hh) | hh
      · exact .inl (.inl (F4_rt hh))
      · exact .inl (.inr (.inr hh))
      · exact .inr (h.v x hh).1), hcg⟩
/-- What a scan reads after an append. -/
theorem app_good {f c e k : Nat} {S : List UInt8} {s : St} {b : List UInt8} (he : e < 4294967296) (hr : f + c ≤ s.R.length) (h64 : ∀ r ∈ s.R, r.length = 64) (hb : s.b ≤ 64) (hf : s.f = false) (hg : Good e (seg s f c) S) :
    (((lgOf f c e k S).app s b).2.2 = 0 ∧ Good e (seg ((lgOf f c e k S).app s b).2.1 f c) (S ++ nb4 b.length ++ b) ∧ (s.a = 0 → ((lgOf f c e k S).app s b).2.1.a = 0) ∧ (∀ r ∈ ((lgOf f c e k S).app s b).2.1.R, r.length = 64) ∧ ((lgOf f c e k S).app s b).2.1.b = s.b) ∨
    (((lgOf f c e k S).app s b).2.2 = 16 ∧ (lgOf f c e k S).app s b = (lgOf f c e k S, s, 16)) ∨
    (((lgOf f c e k S).app s b).2.2 = 15 ∧ s.a ≠ 0 ∧ ∃ m, m ≤ (frame b).length ∧ streamM e (seg ((lgOf f c e k S).app s b).2.1 f c) = S ++ (frame b).take m) := by
  have hS := good_len hg
  rw [seg_len hr] at hS
  by_cases hfr : freeM (59 * (c : Int) - (S.length : Int)) < (b.length : Int)
  · right; left
    have e1 : (lgOf f c e k S).app s b = (lgOf f c e k S, s, 16) := by
      unfold Lg.app
      rw [if_pos (show freeM (59 * ((lgOf f c e k S).c : Int) - ((lgOf f c e k S).n : Int)) < (b.length : Int) from hfr)]
    rw [e1]
    exact ⟨rfl, rfl⟩
  · have hle : S.length + 4 + b.length ≤ 59 * c := by unfold freeM at hfr; omega
    have key := app_ref (f := f) (c := c) (e := e) (k := k) (S := S) (s := s) (b := b) hfr
    have hST : S.take (59 * (S.length / 59)) ++ tailOf S = S := by unfold tailOf; exact List.take_append_drop _ _
    have hbl : (S.take (59 * (S.length / 59))).length = 59 * (S.length / 59) := by rw [List.length_take]; omega
    have htl := tailOf_lt S
    have htl2 : (tailOf S).length = S.length - 59 * (S.length / 59) := by unfold tailOf; rw [List.length_drop]
    have hfl : (frame b).length = 4 + b.length := frame_len b
    have hdd : tailOf S ++ nb4 b.length ++ b = tailOf S ++ frame b := by rw [List.append_assoc]; rfl
    rw [hdd] at key
    have hw := wl_good (f := f) (c := c) he (tailOf S ++ frame b).length s (S.length / 59) (S.take (59 * (S.length / 59))) (tailOf S) (frame b) (Nat.le_refl _) h64 hb hf hr (by rw [hST]; exact hg) hbl htl (fun h => by rw [h] at hfl; simp at hfl; omega) (by rw [List.length_append]; omega)
    rw [key]
    rcases hw with ⟨h1, h2, h3, h4, h5, h6⟩ | ⟨h1, h2, m, h3, h4, h5⟩
    · left
      rw [if_pos (show (wl e s (f + S.length / 59) (tailOf S ++ frame b)).2 = 0 from h1)]
      refine ⟨rfl, ?_, h4, h5, h6⟩
      rw [← List.append_assoc, hST] at h2
      rw [List.append_assoc]
      exact h2
    · right; right
      have h15 : (wl e s (f + S.length / 59) (tailOf S ++ frame b)).2 = 15 := h1
      rw [if_neg (by rw [h15]; decide)]
      refine ⟨h15, h2, m - (tailOf S).length, by rw [List.length_append] at h3; omega, ?_⟩
      show streamM e (seg (wloop e _ s (f + S.length / 59) (tailOf S ++ frame b)).1 f c) = _
      rw [h5]
      rw [List.take_append, List.take_of_length_le h4, ← List.append_assoc, hST]
theorem flat_snoc (D : List (List UInt8)) (b : List UInt8) : (D ++ [b]).flatMap frame = D.flatMap frame ++ nb4 b.length ++ b := by
  rw [List.flatMap_append, List.append_assoc]
  simp [frame]
/-- A free range reads as nothing. -/
theorem free_good {s : St} {f c e : Nat} (hr : f + c ≤ s.R.length) (h : ∀ i : Nat, (f : Int) ≤ (i : Int) → (i : Int) < (f : Int) + (c : Int) → ends (s.R.getD i []) ≠ e) : Good e (seg s f c) [] := by
  apply good_none
  intro b hb
  obtain ⟨j, hj, rfl⟩ := List.mem_iff_getElem.1 hb
  have hl := seg_len hr
  rw [hl] at hj
  have h2 := h (f + j) (by omega) (by omega)
  rw [← seg_get hj] at h2
  rw [List.getD_eq_getElem?_getD, List.getElem?_eq_getElem (by rw [hl]; exact hj)] at h2
  exact h2
end Go.Proofs.Ytgpofkabidginaa
