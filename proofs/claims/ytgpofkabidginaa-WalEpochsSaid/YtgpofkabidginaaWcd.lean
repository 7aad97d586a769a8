/- What writing some data leaves: the model. -/
import Derived.Test.YtgpofkabidginaaWrc
namespace Go.Proofs.Ytgpofkabidginaa
open Go.ChangeShapes Go.WideShapes Go.ChangeAt Go.RowKit Go.ChangeMaps

theorem St.Wr_f {s : St} {i : Int} {d : List UInt8} (h : (s.Wr i d).2 = 0) : s.f = false ∧ (s.Wr i d).1.f = false := by
  unfold St.Wr at *
  split at h
  · simp at h
  · rename_i hf
    split at h
    · rename_i hh
      rw [if_neg hf, if_pos hh]
      unfold St.wr at *
      split at h
      · simp at h
      · rename_i ha
        rw [if_neg ha]
        simp at hf
        exact ⟨hf, hf⟩
    · simp at h
theorem St.Wr_code {s : St} {i : Nat} {d : List UInt8} (hi : i < s.R.length) (hd : d.length = 64) : (s.Wr (i : Int) d).2 = 0 ∨ (s.Wr (i : Int) d).2 = 15 := by
  unfold St.Wr
  split
  · exact .inr rfl
  · rw [if_pos ⟨by omega, by omega, hd⟩]
    unfold St.wr
    split
    · exact .inr rfl
    · exact .inl rfl
theorem wloop_facts (e : Nat) : ∀ (n : Nat) (s : St) (i : Nat) (d : List UInt8), d.length ≤ n →
    (wloop e n s i d).1.R.length = s.R.length ∧ (wloop e n s i d).1.x ≤ s.x + d.length ∧ ((wloop e n s i d).2 = 0 → s.f = false → (wloop e n s i d).1.f = false) ∧ (59 * i + d.length ≤ 59 * s.R.length → (wloop e n s i d).2 = 0 ∨ (wloop e n s i d).2 = 15)
  | 0, s, i, d, h => by simp [wloop]
  | n + 1, s, i, d, h => by
    unfold wloop
    split
    · simp
    · rename_i hd
      have hl : 0 < d.length := List.length_pos_iff.2 hd
      have h1 := St.Wr_len s (i : Int) (wsec e (d.take 59))
      have h2 := St.Wr_x s (i : Int) (wsec e (d.take 59))
      split
      · rename_i h0
        have hf := St.Wr_f h0
        obtain ⟨a1, a2, a3, a4⟩ := wloop_facts e n (s.Wr (i : Int) (wsec e (d.take 59))).1 (i + 1) (d.drop 59) (by simp; omega)
        rw [h1] at a1 a4
        rw [List.length_drop] at a2 a4
        refine ⟨a1, by omega, fun h3 _ => a3 h3 hf.2, fun hr => ?_⟩
        by_cases h59 : d.length ≤ 59
        · have hdn : d.drop 59 = [] := List.drop_of_length_le h59
          rw [hdn]
          left
          cases n <;> simp [wloop]
        · exact a4 (by omega)
      · rename_i h0
        refine ⟨h1, by omega, fun h3 => absurd h3 h0, fun hr => ?_⟩
        exact St.Wr_code (by omega) (wsec_len _ _ (take59 d))
theorem wl_facts (e : Nat) (s : St) (i : Nat) (d : List UInt8) : (wl e s i d).1.R.length = s.R.length ∧ (wl e s i d).1.x ≤ s.x + d.length ∧ ((wl e s i d).2 = 0 → s.f = false → (wl e s i d).1.f = false) ∧ (59 * i + d.length ≤ 59 * s.R.length → (wl e s i d).2 = 0 ∨ (wl e s i d).2 = 15) :=
  wloop_facts e d.length s i d (Nat.le_refl _)
/-- The facts of an append. -/
theorem app_facts {f c e k : Nat} {S : List UInt8} {s : St} {b : List UInt8} (hr : f + c ≤ s.R.length) (hS : S.length ≤ 59 * c) (hf : s.f = false) :
    ((lgOf f c e k S).app s b).2.1.R.length = s.R.length ∧ ((lgOf f c e k S).app s b).2.1.x ≤ s.x + 63 + b.length ∧
    (((lgOf f c e k S).app s b).2.2 = 0 ∧ ((lgOf f c e k S).app s b).2.1.f = false ∧ S.length + 4 + b.length ≤ 59 * c ∧ ((lgOf f c e k S).app s b).1 = lgOf f c e (k + 1) (S ++ nb4 b.length ++ b) ∨
     ((lgOf f c e k S).app s b).2.2 = 16 ∧ ((lgOf f c e k S).app s b) = (lgOf f c e k S, s, 16) ∨ ((lgOf f c e k S).app s b).2.2 = 15) := by
  by_cases hfr : freeM (59 * (c : Int) - (S.length : Int)) < (b.length : Int)
  · have e1 : (lgOf f c e k S).app s b = (lgOf f c e k S, s, 16) := by
      unfold Lg.app
      rw [if_pos (show freeM (59 * ((lgOf f c e k S).c : Int) - ((lgOf f c e k S).n : Int)) < (b.length : Int) from hfr)]
    rw [e1]
    exact ⟨rfl, by simp only; omega, .inr (.inl ⟨rfl, rfl⟩)⟩
  · have hle : S.length + 4 + b.length ≤ 59 * c := by unfold freeM at hfr; omega
    have hd : (tailOf S ++ nb4 b.length ++ b).length = S.length - 59 * (S.length / 59) + 4 + b.length := by
      rw [List.length_append, List.length_append, nb4_len]
      unfold tailOf
      rw [List.length_drop]
    obtain ⟨a1, a2, a3, a4⟩ := wl_facts e s (f + S.length / 59) (tailOf S ++ nb4 b.length ++ b)
    have h4 := a4 (by rw [hd]; omega)
    rw [hd] at a2
    have key := app_ref (f := f) (c := c) (e := e) (k := k) (S := S) (s := s) (b := b) hfr
    rcases h4 with h0 | h15
    · rw [if_pos h0] at key
      rw [key]
      exact ⟨a1, by simp only; omega, .inl ⟨rfl, a3 h0 hf, hle, rfl⟩⟩
    · rw [if_neg (by rw [h15]; decide)] at key
      rw [key]
      exact ⟨a1, by simp only; omega, .inr (.inr h15)⟩
theorem app_not16 {f c e k : Nat} {S : List UInt8} {s : St} {b : List UInt8} (hr : f + c ≤ s.R.length) (hfr : ¬ freeM (59 * (c : Int) - (S.length : Int)) < (b.length : Int)) : ((lgOf f c e k S).app s b).2.2 ≠ 16 := by
  have hle : S.length + 4 + b.length ≤ 59 * c := by unfold freeM at hfr; omega
  have hd : (tailOf S ++ nb4 b.length ++ b).length = S.length - 59 * (S.length / 59) + 4 + b.length := by
    rw [List.length_append, List.length_append, nb4_len]
    unfold tailOf
    rw [List.length_drop]
  have h4 := (wl_facts e s (f + S.length / 59) (tailOf S ++ nb4 b.length ++ b)).2.2.2 (by rw [hd]; omega)
  have key := app_ref (f := f) (c := c) (e := e) (k := k) (S := S) (s := s) (b := b) hfr
  rw [key]
  rcases h4 with h0 | h15
  · rw [if_pos h0]; simp
  · rw [if_neg (by rw [h15]; decide)]
    show (wl e s (f + S.length / 59) (tailOf S ++ nb4 b.length ++ b)).2 ≠ 16
    rw [h15]
    decide
theorem RApp_full (B : Nat) (w : World) (m r f c e k : Nat) (S : List UInt8) (v : Value) (h : Rg B w m r f c e k S v) (hc : c ≤ 65536) (hn : S.length ≤ 100000000) (A : Option Addr) (m0 c0 : Nat) (hm : m0 ≤ 100000000) (hfree : freeM (59 * (c : Int) - (S.length : Nat)) < (m0 : Int)) :
    Calls Try.prog 17 #[.pointer (some ⟨m, 0, none⟩), .slice A m0 c0] w fun e w' => e = .returned (.int .i64 16) ∧ Below w.heap.size w w' := by
  have HFR := Lib.hid (FreeR_any B w m r f c e k S v h hc hn)
  obtain ⟨fr, hfr⟩ : ∃ x, freeM (59 * (c : Int) - (S.length : Nat)) = x := ⟨_, rfl⟩
  rw [hfr] at HFR hfree
  clear hfr h
  go_enter Try.func17, Try.ntmps17
  go_wp2_with fail
  refine HFR.out.mono ?_
  rintro e w1 ⟨rfl, kk, rfl⟩
  go_wp2
  go_ret
  exact ⟨rfl, below_drewN (Below.refl _ _)⟩
theorem Lk.re {F F' G : Nat → Prop} {w w' : World} {g p : Nat} {L : Lg} (h : Lk F w g p L) (hc : Chg G w w') (hG : ∀ k, G k → F k) (hg : ¬ G g) (hF : ∀ k, k < w.heap.size → ¬ F k → ¬ F' k) : Lk F' w' g p L := by
  obtain ⟨A, cap, h1, h2, h3⟩ := h
  exact ⟨A, cap, h1.chg hc hg, h2.re hc hG hF, h3⟩
/-- A log and its reference. -/
structure PM (w : World) (B p q r t g m f c e k : Nat) (S : List UInt8) (v : Value) (s s' : St) : Prop where
  d : Dk w p q s
  rk : Rk (FO (F6 p q r t g m) v) w r t s'
  l : Lk (FO (F6 p q r t g m) v) w g p (lgOf f c e k S)
  fb : ∀ k, F6 p q r t g m k → k < B
  b : B ≤ w.heap.size
  v : ∀ j, v.ownBlock = some j → B ≤ j ∧ j < w.heap.size
  ne : r ≠ p ∧ r ≠ q ∧ t ≠ p ∧ t ≠ q
  g : ¬ F4 p q r t g ∧ g ≠ m
  m : ¬ F4 p q r t m
theorem PM.below {w w' : World} {B p q r t g m f c e k : Nat} {S : List UInt8} {v : Value} {s s' : St} (h : PM w B p q r t g m f c e k S v s s') (hb : Below w.heap.size w w') : PM w' B p q r t g m f c e k S v s s' :=
  ⟨h.d.below hb, h.rk.below hb, h.l.below hb, h.fb, Nat.le_trans h.b hb.size, fun j hj => ⟨(h.v j hj).1, Nat.lt_of_lt_of_le (h.v j hj).2 hb.size⟩, h.ne, h.g, h.m⟩
def FS (p q r t g m B : Nat) : Nat → Prop := fun k => F6 p q r t g m k ∨ B ≤ k
theorem PM.own {w : World} {B p q r t g m f c e k : Nat} {S : List UInt8} {v : Value} {s s' : St} (h : PM w B p q r t g m f c e k S v s s') : ∀ j, v.ownBlock = some j → ¬ F6 p q r t g m j := fun j hj hb => by
  have h1 := h.v j hj
  have h2 := h.fb j hb
  omega
/-- The reference's append. -/
theorem ref_step (w : World) (B p q r t g m f c e k : Nat) (S : List UInt8) (v : Value) (s : St) (h : PM w B p q r t g m f c e k S v s s) (hrg : Rg B w m r f c e k S v) (he : e < 4294967296) (hf : f ≤ 65536) (hc : c ≤ 12) (hS : S.length ≤ 59 * c) (hk : k ≤ 1000) (hx : s.x ≤ 100000) (hr : f + c ≤ s.R.length)
    (A : Option Addr) (m0 c0 : Nat) (b : List UInt8) (hb : BA (fun k => B ≤ k) w A m0 b) (hm : m0 ≤ 400) (hmc : m0 ≤ c0) (hcc : c0 ≤ 9223372036854775807) :
    Calls Try.prog 17 #[.pointer (some ⟨m, 0, none⟩), .slice A m0 c0] w fun e' w' => ∃ v', e' = .returned (.int .i64 ((lgOf f c e k S).app s b).2.2) ∧ PM w' B p q r t g m f c e k S v' s ((lgOf f c e k S).app s b).2.1 ∧
      (((lgOf f c e k S).app s b).2.2 = 0 → Rg B w' m r f c e (k + 1) (S ++ nb4 b.length ++ b) v') ∧ (((lgOf f c e k S).app s b).2.2 = 16 → Rg B w' m r f c e k S v') ∧ Chg (FS p q r t g m B) w w' := by
  have hbl : b.length = m0 := hb.1
  by_cases hfr : freeM (59 * (c : Int) - (S.length : Int)) < (m0 : Int)
  · have e1 : (lgOf f c e k S).app s b = (lgOf f c e k S, s, 16) := by
      unfold Lg.app
      rw [if_pos (show freeM (59 * ((lgOf f c e k S).c : Int) - ((lgOf f c e k S).n : Int)) < (b.length : Int) from by rw [hbl]; exact hfr)]
    rw [e1]
    refine (RApp_full B w m r f c e k S v hrg (by omega) (by omega) A m0 c0 (by omega) hfr).mono ?_
    rintro e' w' ⟨rfl, hbe⟩
    exact ⟨v, rfl, h.below hbe, fun h0 => by simp at h0, fun _ => hrg.below hbe, Chg.of_below hbe⟩
  · have hfb2 : ∀ k, F6 p q r t g m k → k < w.heap.size := fun k hk => Nat.lt_of_lt_of_le (h.fb k hk) h.b
    refine (RApp2 (F6 p q r t g m) B w m r t f c e k S v s hrg h.rk (.inl (.inr (.inr (.inl rfl)))) (.inl (.inr (.inr (.inr rfl)))) (.inr (.inr rfl)) (fun hh => h.m (F4_rt hh)) h.own h.fb h.b he hf (by omega) (by omega) (by omega) A m0 c0 b hb (by omega) hmc hcc (by omega) (by omega)).mono ?_
    rintro e' w' ⟨v', rfl, hrk, hrg', hcg, hmv, hvl⟩
    have hnp : ∀ x, F6 p q r t g m x → ¬ PQ r t x → x ≠ m → ¬ FO (fun k => PQ r t k ∨ k = m) v x := fun x hx h1 h2 hh => by
      rcases hh with (hh | hh) | hh
      · exact h1 hh
      · exact h2 hh
      · exact h.own x hh hx
    have hF' : ∀ x, x < w.heap.size → ¬ FO (F6 p q r t g m) v x → ¬ FO (F6 p q r t g m) v' x := fun x hx hf1 hf2 => by
      rcases hf2 with hh | hh
      · exact hf1 (.inl hh)
      · rcases hmv x hh with h1 | h1
        · exact hf1 (.inr h1)
        · omega
    have hsub : ∀ x, FO (fun k => PQ r t k ∨ k = m) v x → FO (F6 p q r t g m) v x := fun x hx => by
      rcases hx with (hh | hh) | hh
      · exact .inl (.inl (F4_rt hh))
      · exact .inl (.inr (.inr hh))
      · exact .inr hh
    have hvv : ∀ j, v'.ownBlock = some j → B ≤ j := fun j hj => by
      rcases hmv j hj with h1 | h1
      · exact (h.v j h1).1
      · exact Nat.le_trans h.b h1
    have hpm : PM w' B p q r t g m f c e k S v' s ((lgOf f c e k S).app s b).2.1 := by
      refine ⟨h.d.chg hcg (hnp p (.inl (.inl rfl)) (fun hh => by rcases hh with e | e; (· exact h.ne.1 e.symm); exact h.ne.2.2.1 e.symm) (fun e => h.m (.inl e.symm))) (hnp q (.inl (.inr (.inl rfl))) (fun hh => by rcases hh with e | e; (· exact h.ne.2.1 e.symm); exact h.ne.2.2.2 e.symm) (fun e => h.m (.inr (.inl e.symm)))), hrk, h.l.re hcg hsub (hnp g (.inr (.inl rfl)) (fun hh => h.g.1 (F4_rt hh)) h.g.2) hF', h.fb, Nat.le_trans h.b hcg.size, fun j hj => ⟨hvv j hj, hvl j hj⟩, h.ne, h.g, h.m⟩
    exact ⟨v', rfl, hpm, hrg', fun h16 => absurd h16 (app_not16 hr (by rw [hbl]; exact hfr)), hcg.mono (fun x hx => by
      rcases hx with (hh | hh) | hh
      · exact .inl (.inl (F4_rt hh))
      · exact .inl (.inr (.inr hh))
      · exact .inr (h.v x hh).1)⟩
/-- The program's append. -/
theorem prog_step (w : World) (B p q r t g m f c e k : Nat) (S : List UInt8) (v : Value) (s : St) (hsf : s.f = false) (b : List UInt8) (h : PM w B p q r t g m f c e k S v s ((lgOf f c e k S).app s b).2.1) (he : e < 4294967296) (hf : f ≤ 65536) (hc : c ≤ 12) (hS : S.length ≤ 59 * c) (hk : k ≤ 1000) (hx : s.x ≤ 100000) (hr : f + c ≤ s.R.length)
    (A : Option Addr) (m0 c0 : Nat) (hb : BA (fun k => B ≤ k) w A m0 b) (hbF : BA (FO (F6 p q r t g m) v) w A m0 b) (hm : m0 ≤ 400) (hmc : m0 ≤ c0) (hcc : c0 ≤ 9223372036854775807) :
    Calls Try.prog 18 #[.pointer (some ⟨g, 0, none⟩), .slice A m0 c0] w fun e' w' => e' = .returned (.int .i64 ((lgOf f c e k S).app s b).2.2) ∧ Dk w' p q ((lgOf f c e k S).app s b).2.1 ∧ Rk (FO (F6 p q r t g m) v) w' r t ((lgOf f c e k S).app s b).2.1 ∧
      (((lgOf f c e k S).app s b).2.2 = 0 → PM w' B p q r t g m f c e (k + 1) (S ++ nb4 b.length ++ b) v ((lgOf f c e k S).app s b).2.1 ((lgOf f c e k S).app s b).2.1) ∧ (((lgOf f c e k S).app s b).2.2 = 16 → PM w' B p q r t g m f c e k S v s s) ∧ Chg (G3 p q g) w w' := by
  have hbl : b.length = m0 := hb.1
  by_cases hfr : freeM (59 * (c : Int) - (S.length : Int)) < (m0 : Int)
  · have e1 : (lgOf f c e k S).app s b = (lgOf f c e k S, s, 16) := by
      unfold Lg.app
      rw [if_pos (show freeM (59 * ((lgOf f c e k S).c : Int) - ((lgOf f c e k S).n : Int)) < (b.length : Int) from by rw [hbl]; exact hfr)]
    rw [e1] at h ⊢
    refine (App_full _ w g p _ h.l (by simp only [lgOf]; omega) (by simp only [lgOf]; omega) A m0 c0 (by omega) hfr).mono ?_
    rintro e' w' ⟨rfl, hbe⟩
    exact ⟨rfl, h.d.below hbe, h.rk.below hbe, fun h0 => by simp at h0, fun _ => h.below hbe, Chg.of_below hbe⟩
  · have hlt : ∀ k, FO (F6 p q r t g m) v k → k < w.heap.size := fun k hk => by
      rcases hk with hh | hh
      · exact Nat.lt_of_lt_of_le (h.fb k hh) h.b
      · exact (h.v k hh).2
    have hgp : ¬ PQ p q g := fun hh => h.g.1 (F4_pq hh)
    have hg3 : ∀ k, G3 p q g k → FO (F6 p q r t g m) v k := fun k hk => by
      rcases hk with e | e | e
      · exact .inl (.inl (.inl e))
      · exact .inl (.inl (.inr (.inl e)))
      · exact .inl (.inr (.inl e))
    refine (App_loop (FO (F6 p q r t g m) v) w g p q (lgOf f c e k S) s h.l h.d (.inl (.inr (.inl rfl))) (.inl (.inl (.inl rfl))) (.inl (.inl (.inr (.inl rfl)))) hgp hlt he hf (by simp only [lgOf]; omega) (by simp only [lgOf]; omega) (by simp only [lgOf]; omega) A m0 c0 b hbF (by omega) hmc hcc (tailOf_lt S) (by omega) (by simp only [lgOf]; omega) hsf).mono ?_
    rintro e' w' ⟨rfl, hd, hl, hcg⟩
    have hrk : Rk (FO (F6 p q r t g m) v) w' r t ((lgOf f c e k S).app s b).2.1 := h.rk.chg hcg hg3 (fun hh => by
      rcases hh with e | e | e
      · exact h.ne.1 e
      · exact h.ne.2.1 e
      · exact h.g.1 (by rw [← e]; exact .inr (.inr (.inl rfl)))) (fun hh => by
      rcases hh with e | e | e
      · exact h.ne.2.2.1 e
      · exact h.ne.2.2.2 e
      · exact h.g.1 (by rw [← e]; exact .inr (.inr (.inr rfl))))
    refine ⟨rfl, hd, hrk, fun h0 => ⟨hd, hrk, ?_, h.fb, Nat.le_trans h.b hcg.size, fun j hj => ⟨(h.v j hj).1, Nat.lt_of_lt_of_le (h.v j hj).2 hcg.size⟩, h.ne, h.g, h.m⟩, fun h16 => absurd h16 (app_not16 hr (by rw [hbl]; exact hfr)), hcg⟩
    have := hl h0
    rw [lgOf_app f c e k S s b h0] at this
    exact this
end Go.Proofs.Ytgpofkabidginaa
