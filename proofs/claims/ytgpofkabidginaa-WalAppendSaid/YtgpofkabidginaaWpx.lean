/- Appends beside another block that grows. -/
import Derived.Test.YtgpofkabidginaaWge
import Derived.Test.YtgpofkabidginaaWrd
namespace Go.Proofs.Ytgpofkabidginaa
open Go.ChangeShapes Go.WideShapes Go.ChangeAt Go.RowKit Go.ChangeMaps

/-- The structures and another block. -/
def FX (p q r t g m : Nat) (X : Nat → Prop) : Nat → Prop := fun k => F6 p q r t g m k ∨ X k
/-- A log and its reference. -/
structure PX (X : Nat → Prop) (w : World) (B p q r t g m f c e k : Nat) (S : List UInt8) (v : Value) (s s' : St) : Prop where
  d : Dk w p q s
  rk : Rk (FO (FX p q r t g m X) v) w r t s'
  l : Lk (FO (FX p q r t g m X) v) w g p (lgOf f c e k S)
  fb : ∀ k, F6 p q r t g m k → k < B
  b : B ≤ w.heap.size
  vb : ∀ j, v.ownBlock = some j → B ≤ j ∧ j < w.heap.size
  x : ∀ k, X k → k < w.heap.size
  vx : ∀ j, v.ownBlock = some j → ¬ X j
  ne : r ≠ p ∧ r ≠ q ∧ t ≠ p ∧ t ≠ q
  g : ¬ F4 p q r t g ∧ g ≠ m
  m : ¬ F4 p q r t m
theorem PX.below {X : Nat → Prop} {w w' : World} {B p q r t g m f c e k : Nat} {S : List UInt8} {v : Value} {s s' : St} (h : PX X w B p q r t g m f c e k S v s s') (hb : Below w.heap.size w w') : PX X w' B p q r t g m f c e k S v s s' :=
  ⟨h.d.below hb, h.rk.below hb, h.l.below hb, h.fb, Nat.le_trans h.b hb.size, fun j hj => ⟨(h.vb j hj).1, Nat.lt_of_lt_of_le (h.vb j hj).2 hb.size⟩, fun k hk => Nat.lt_of_lt_of_le (h.x k hk) hb.size, h.vx, h.ne, h.g, h.m⟩
theorem PX.own {X : Nat → Prop} {w : World} {B p q r t g m f c e k : Nat} {S : List UInt8} {v : Value} {s s' : St} (h : PX X w B p q r t g m f c e k S v s s') : ∀ j, v.ownBlock = some j → ¬ F6 p q r t g m j := fun j hj hb => by
  have h1 := h.vb j hj
  have h2 := h.fb j hb
  omega
theorem PX.ox {X : Nat → Prop} {w : World} {B p q r t g m f c e k : Nat} {S : List UInt8} {v : Value} {s s' : St} (h : PX X w B p q r t g m f c e k S v s s') : ∀ j, v.ownBlock = some j → ¬ FX p q r t g m X j := fun j hj hb => by
  rcases hb with hb | hb
  · exact h.own j hj hb
  · exact h.vx j hj hb
theorem PX.of {w : World} {B p q r t g m f c e k : Nat} {S : List UInt8} {v : Value} {s s' : St} (h : PM w B p q r t g m f c e k S v s s') : PX (fun _ => False) w B p q r t g m f c e k S v s s' := by
  have hF : ∀ k, k < w.heap.size → ¬ FO (F6 p q r t g m) v k → ¬ FO (FX p q r t g m (fun _ => False)) v k := fun k _ hf hf2 => by
    rcases hf2 with (h1 | h1) | h1
    · exact hf (.inl h1)
    · exact h1
    · exact hf (.inr h1)
  exact ⟨h.d, h.rk.re (Chg.refl (fun _ => False) w) (fun _ e => e.elim) (fun e => e) (fun e => e) hF, h.l.re (Chg.refl (fun _ => False) w) (fun _ e => e.elim) (fun e => e) hF, h.fb, h.b, h.v, fun _ e => e.elim, fun _ _ e => e, h.ne, h.g, h.m⟩
/-- The other block changes. -/
theorem PX.turn {X X' : Nat → Prop} {w w' : World} {B p q r t g m f c e k : Nat} {S : List UInt8} {v : Value} {s s' : St} (h : PX X w B p q r t g m f c e k S v s s') (hc : Chg X w w') (hn : ∀ k, F6 p q r t g m k → ¬ X k) (hX : ∀ k, X' k → k < w'.heap.size ∧ (X k ∨ w.heap.size ≤ k)) : PX X' w' B p q r t g m f c e k S v s s' := by
  have hF : ∀ k, k < w.heap.size → ¬ FO (FX p q r t g m X) v k → ¬ FO (FX p q r t g m X') v k := fun k hk hf hf2 => by
    rcases hf2 with (h1 | h1) | h1
    · exact hf (.inl (.inl h1))
    · rcases (hX k h1).2 with h2 | h2
      · exact hf (.inl (.inr h2))
      · omega
    · exact hf (.inr h1)
  have hs : ∀ k, X k → FO (FX p q r t g m X) v k := fun k hk => .inl (.inr hk)
  exact ⟨h.d.chg hc (hn p (.inl (.inl rfl))) (hn q (.inl (.inr (.inl rfl)))), h.rk.re hc hs (hn r (.inl (.inr (.inr (.inl rfl))))) (hn t (.inl (.inr (.inr (.inr rfl))))) hF, h.l.re hc hs (hn g (.inr (.inl rfl))) hF, h.fb, Nat.le_trans h.b hc.size, fun j hj => ⟨(h.vb j hj).1, Nat.lt_of_lt_of_le (h.vb j hj).2 hc.size⟩, fun k hk => (hX k hk).1, fun j hj hx => by
    rcases (hX j hx).2 with h2 | h2
    · exact h.vx j hj h2
    · have := (h.vb j hj).2; omega, h.ne, h.g, h.m⟩
/-- The reference's append. -/
theorem ref_step3 (X : Nat → Prop) (w : World) (B p q r t g m f c e k : Nat) (S : List UInt8) (v : Value) (s : St) (h : PX X w B p q r t g m f c e k S v s s) (hrg : Rg B w m r f c e k S v) (he : e < 4294967296) (hf : f ≤ 65536) (hc : c ≤ 12) (hS : S.length ≤ 59 * c) (hk : k ≤ 1000) (hx : s.x ≤ 100000) (hr : f + c ≤ s.R.length)
    (A : Option Addr) (m0 c0 : Nat) (b : List UInt8) (hb : BA (fun k => B ≤ k) w A m0 b) (hm : m0 ≤ 400) (hmc : m0 ≤ c0) (hcc : c0 ≤ 9223372036854775807) :
    Calls Try.prog 17 #[.pointer (some ⟨m, 0, none⟩), .slice A m0 c0] w fun e' w' => ∃ v', e' = .returned (.int .i64 ((lgOf f c e k S).app s b).2.2) ∧ PX X w' B p q r t g m f c e k S v' s ((lgOf f c e k S).app s b).2.1 ∧
      (((lgOf f c e k S).app s b).2.2 = 0 → Rg B w' m r f c e (k + 1) (S ++ nb4 b.length ++ b) v') ∧ (((lgOf f c e k S).app s b).2.2 = 16 → Rg B w' m r f c e k S v') ∧ Chg (FS p q r t g m B) w w' ∧ Chg (FO (fun k => PQ r t k ∨ k = m) v) w w' := by
  have hbl : b.length = m0 := hb.1
  by_cases hfr : freeM (59 * (c : Int) - (S.length : Int)) < (m0 : Int)
  · have e1 : (lgOf f c e k S).app s b = (lgOf f c e k S, s, 16) := by
      unfold Lg.app
      rw [if_pos (show freeM (59 * ((lgOf f c e k S).c : Int) - ((lgOf f c e k S).n : Int)) < (b.length : Int) from by rw [hbl]; exact hfr)]
    rw [e1]
    refine (RApp_full B w m r f c e k S v hrg (by omega) (by omega) A m0 c0 (by omega) hfr).mono ?_
    rintro e' w' ⟨rfl, hbe⟩
    exact ⟨v, rfl, h.below hbe, fun h0 => by simp at h0, fun _ => hrg.below hbe, Chg.of_below hbe, Chg.of_below hbe⟩
  · have hfb2 : ∀ k, FX p q r t g m X k → k < w.heap.size := fun k hk => by
      rcases hk with hk | hk
      · exact Nat.lt_of_lt_of_le (h.fb k hk) h.b
      · exact h.x k hk
    refine (RApp3 (FX p q r t g m X) B w m r t f c e k S v s hrg h.rk (.inl (.inl (.inr (.inr (.inl rfl))))) (.inl (.inl (.inr (.inr (.inr rfl))))) (.inl (.inr (.inr rfl))) (fun hh => h.m (F4_rt hh)) h.ox hfb2 h.b he hf (by omega) (by omega) (by omega) A m0 c0 b hb (by omega) hmc hcc (by omega) (by omega)).mono ?_
    rintro e' w' ⟨v', rfl, hrk, hrg', hcg, hmv, hvl⟩
    have hnp : ∀ x, F6 p q r t g m x → ¬ PQ r t x → x ≠ m → ¬ FO (fun k => PQ r t k ∨ k = m) v x := fun x hx h1 h2 hh => by
      rcases hh with (hh | hh) | hh
      · exact h1 hh
      · exact h2 hh
      · exact h.own x hh hx
    have hF' : ∀ x, x < w.heap.size → ¬ FO (FX p q r t g m X) v x → ¬ FO (FX p q r t g m X) v' x := fun x hx hf1 hf2 => by
      rcases hf2 with hh | hh
      · exact hf1 (.inl hh)
      · rcases hmv x hh with h1 | h1
        · exact hf1 (.inr h1)
        · omega
    have hsub : ∀ x, FO (fun k => PQ r t k ∨ k = m) v x → FO (FX p q r t g m X) v x := fun x hx => by
      rcases hx with (hh | hh) | hh
      · exact .inl (.inl (.inl (F4_rt hh)))
      · exact .inl (.inl (.inr (.inr hh)))
      · exact .inr hh
    have hvv : ∀ j, v'.ownBlock = some j → B ≤ j := fun j hj => by
      rcases hmv j hj with h1 | h1
      · exact (h.vb j h1).1
      · exact Nat.le_trans h.b h1
    have hpm : PX X w' B p q r t g m f c e k S v' s ((lgOf f c e k S).app s b).2.1 := by
      refine ⟨h.d.chg hcg (hnp p (.inl (.inl rfl)) (fun hh => by rcases hh with e | e; (· exact h.ne.1 e.symm); exact h.ne.2.2.1 e.symm) (fun e => h.m (.inl e.symm))) (hnp q (.inl (.inr (.inl rfl))) (fun hh => by rcases hh with e | e; (· exact h.ne.2.1 e.symm); exact h.ne.2.2.2 e.symm) (fun e => h.m (.inr (.inl e.symm)))), hrk, h.l.re hcg hsub (hnp g (.inr (.inl rfl)) (fun hh => h.g.1 (F4_rt hh)) h.g.2) hF', h.fb, Nat.le_trans h.b hcg.size, fun j hj => ⟨hvv j hj, hvl j hj⟩, fun k hk => Nat.lt_of_lt_of_le (h.x k hk) hcg.size, fun j hj hx => by
        rcases hmv j hj with h1 | h1
        · exact h.vx j h1 hx
        · have := h.x j hx; omega, h.ne, h.g, h.m⟩
    exact ⟨v', rfl, hpm, hrg', fun h16 => absurd h16 (app_not16 hr (by rw [hbl]; exact hfr)), hcg.mono (fun x hx => by
      rcases hx with (hh | hh) | hh
      · exact .inl (.inl (F4_rt hh))
      · exact .inl (.inr (.inr hh))
      · exact .inr (h.vb x hh).1), hcg⟩
/-- The program's append. -/
theorem prog_step3 (X : Nat → Prop) (w : World) (B p q r t g m f c e k : Nat) (S : List UInt8) (v : Value) (s : St) (hsf : s.f = false) (b : List UInt8) (h : PX X w B p q r t g m f c e k S v s ((lgOf f c e k S).app s b).2.1) (he : e < 4294967296) (hf : f ≤ 65536) (hc : c ≤ 12) (hS : S.length ≤ 59 * c) (hk : k ≤ 1000) (hx : s.x ≤ 100000) (hr : f + c ≤ s.R.length)
    (A : Option Addr) (m0 c0 : Nat) (hb : BA (fun k => B ≤ k) w A m0 b) (hbF : BA (FO (FX p q r t g m X) v) w A m0 b) (hm : m0 ≤ 400) (hmc : m0 ≤ c0) (hcc : c0 ≤ 9223372036854775807) :
    Calls Try.prog 18 #[.pointer (some ⟨g, 0, none⟩), .slice A m0 c0] w fun e' w' => e' = .returned (.int .i64 ((lgOf f c e k S).app s b).2.2) ∧ Dk w' p q ((lgOf f c e k S).app s b).2.1 ∧ Rk (FO (FX p q r t g m X) v) w' r t ((lgOf f c e k S).app s b).2.1 ∧
      (((lgOf f c e k S).app s b).2.2 = 0 → PX X w' B p q r t g m f c e (k + 1) (S ++ nb4 b.length ++ b) v ((lgOf f c e k S).app s b).2.1 ((lgOf f c e k S).app s b).2.1) ∧ (((lgOf f c e k S).app s b).2.2 = 16 → PX X w' B p q r t g m f c e k S v s s) ∧ Chg (G3 p q g) w w' := by
  have hbl : b.length = m0 := hb.1
  by_cases hfr : freeM (59 * (c : Int) - (S.length : Int)) < (m0 : Int)
  · have e1 : (lgOf f c e k S).app s b = (lgOf f c e k S, s, 16) := by
      unfold Lg.app
      rw [if_pos (show freeM (59 * ((lgOf f c e k S).c : Int) - ((lgOf f c e k S).n : Int)) < (b.length : Int) from by rw [hbl]; exact hfr)]
    rw [e1] at h ⊢
    refine (App_full _ w g p _ h.l (by simp only [lgOf]; omega) (by simp only [lgOf]; omega) A m0 c0 (by omega) hfr).mono ?_
    rintro e' w' ⟨rfl, hbe⟩
    exact ⟨rfl, h.d.below hbe, h.rk.below hbe, fun h0 => by simp at h0, fun _ => h.below hbe, Chg.of_below hbe⟩
  · have hlt : ∀ k, FO (FX p q r t g m X) v k → k < w.heap.size := fun k hk => by
      rcases hk with hh | hh
      · rcases hh with hh | hh
        · exact Nat.lt_of_lt_of_le (h.fb k hh) h.b
        · exact h.x k hh
      · exact (h.vb k hh).2
    have hgp : ¬ PQ p q g := fun hh => h.g.1 (F4_pq hh)
    have hg3 : ∀ k, G3 p q g k → FO (FX p q r t g m X) v k := fun k hk => by
      rcases hk with e | e | e
      · exact .inl (.inl (.inl (.inl e)))
      · exact .inl (.inl (.inl (.inr (.inl e))))
      · exact .inl (.inl (.inr (.inl e)))
    refine (App_loop (FO (FX p q r t g m X) v) w g p q (lgOf f c e k S) s h.l h.d (.inl (.inl (.inr (.inl rfl)))) (.inl (.inl (.inl (.inl rfl)))) (.inl (.inl (.inl (.inr (.inl rfl))))) hgp hlt he hf (by simp only [lgOf]; omega) (by simp only [lgOf]; omega) (by simp only [lgOf]; omega) A m0 c0 b hbF (by omega) hmc hcc (tailOf_lt S) (by omega) (by simp only [lgOf]; omega) hsf).mono ?_
    rintro e' w' ⟨rfl, hd, hl, hcg⟩
    have hrk : Rk (FO (FX p q r t g m X) v) w' r t ((lgOf f c e k S).app s b).2.1 := h.rk.chg hcg hg3 (fun hh => by
      rcases hh with e | e | e
      · exact h.ne.1 e
      · exact h.ne.2.1 e
      · exact h.g.1 (by rw [← e]; exact .inr (.inr (.inl rfl)))) (fun hh => by
      rcases hh with e | e | e
      · exact h.ne.2.2.1 e
      · exact h.ne.2.2.2 e
      · exact h.g.1 (by rw [← e]; exact .inr (.inr (.inr rfl))))
    refine ⟨rfl, hd, hrk, fun h0 => ⟨hd, hrk, ?_, h.fb, Nat.le_trans h.b hcg.size, fun j hj => ⟨(h.vb j hj).1, Nat.lt_of_lt_of_le (h.vb j hj).2 hcg.size⟩, fun k hk => Nat.lt_of_lt_of_le (h.x k hk) hcg.size, h.vx, h.ne, h.g, h.m⟩, fun h16 => absurd h16 (app_not16 hr (by rw [hbl]; exact hfr)), hcg⟩
    have := hl h0
    rw [lgOf_app f c e k S s b h0] at this
    exact this
end Go.Proofs.Ytgpofkabidginaa
