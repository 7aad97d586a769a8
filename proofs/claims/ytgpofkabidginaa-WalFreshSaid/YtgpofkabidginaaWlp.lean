/- Writing the sectors of some data: the model. -/
import Derived.Test.YtgpofkabidginaaWgr
namespace Go.Proofs.Ytgpofkabidginaa
open Go.ChangeShapes Go.WideShapes Go.ChangeAt Go.RowKit Go.ChangeMaps

def wloop (e : Nat) : Nat → St → Nat → List UInt8 → St × Int
  | 0, s, _, _ => (s, 0)
  | n + 1, s, i, d => if d = [] then (s, 0) else if (s.Wr (i : Int) (wsec e (d.take 59))).2 = 0 then wloop e n (s.Wr (i : Int) (wsec e (d.take 59))).1 (i + 1) (d.drop 59) else s.Wr (i : Int) (wsec e (d.take 59))
theorem wloop_more (e : Nat) : ∀ (n m : Nat) (s : St) (i : Nat) (d : List UInt8), d.length ≤ n → d.length ≤ m → wloop e n s i d = wloop e m s i d
  | 0, 0, _, _, _, _, _ => rfl
  | 0, m + 1, s, i, d, h, _ => by
    obtain rfl : d = [] := List.eq_nil_of_length_eq_zero (by omega)
    simp [wloop]
  | n + 1, 0, s, i, d, _, h => by
    obtain rfl : d = [] := List.eq_nil_of_length_eq_zero (by omega)
    simp [wloop]
  | n + 1, m + 1, s, i, d, h1, h2 => by
    unfold wloop
    split
    · rfl
    · split
      · exact wloop_more e n m _ _ _ (by simp; omega) (by simp; omega)
      · rfl
def wl (e : Nat) (s : St) (i : Nat) (d : List UInt8) : St × Int := wloop e d.length s i d
theorem wl_nil (e : Nat) (s : St) (i : Nat) : wl e s i [] = (s, 0) := rfl
theorem wl_ok {e : Nat} {s : St} {i : Nat} {d : List UInt8} (hd : d ≠ []) (h : (s.Wr (i : Int) (wsec e (d.take 59))).2 = 0) : wl e s i d = wl e (s.Wr (i : Int) (wsec e (d.take 59))).1 (i + 1) (d.drop 59) := by
  unfold wl
  have hl : 0 < d.length := List.length_pos_iff.2 hd
  obtain ⟨n, hn⟩ : ∃ n, d.length = n + 1 := ⟨d.length - 1, by omega⟩
  rw [hn]
  conv => lhs; unfold wloop
  rw [if_neg hd, if_pos h]
  exact wloop_more e _ _ _ _ _ (by simp; omega) (Nat.le_refl _)
theorem wl_bad {e : Nat} {s : St} {i : Nat} {d : List UInt8} (hd : d ≠ []) (h : (s.Wr (i : Int) (wsec e (d.take 59))).2 ≠ 0) : wl e s i d = s.Wr (i : Int) (wsec e (d.take 59)) := by
  unfold wl
  have hl : 0 < d.length := List.length_pos_iff.2 hd
  obtain ⟨n, hn⟩ : ∃ n, d.length = n + 1 := ⟨d.length - 1, by omega⟩
  rw [hn]
  unfold wloop
  rw [if_neg hd, if_neg h]
def tailOf (d : List UInt8) : List UInt8 := d.drop (59 * (d.length / 59))
theorem tailOf_short {d : List UInt8} (h : d.length < 59) : tailOf d = d := by
  unfold tailOf; rw [Nat.div_eq_of_lt h]; rfl
theorem tailOf_more {d : List UInt8} (h : 59 ≤ d.length) : tailOf (d.drop 59) = tailOf d := by
  unfold tailOf
  rw [List.drop_drop, List.length_drop]
  congr 1
  omega
theorem tailOf_lt (d : List UInt8) : (tailOf d).length < 59 := by
  unfold tailOf; rw [List.length_drop]; omega
theorem St.Wr_x (s : St) (i : Int) (d : List UInt8) : (s.Wr i d).1.x ≤ s.x + 1 := by
  unfold St.Wr
  split
  · simp
  · split
    · unfold St.wr
      split <;> simp
    · simp
theorem St.wr_len (s : St) (i : Nat) (d : List UInt8) : (s.wr i d).1.R.length = s.R.length := by
  unfold St.wr; split <;> simp
theorem St.Wr_len (s : St) (i : Int) (d : List UInt8) : (s.Wr i d).1.R.length = s.R.length := by
  unfold St.Wr
  split
  · rfl
  · split
    · exact St.wr_len _ _ _
    · rfl
/-- A log after a record. -/
def Lg.app (L : Lg) (s : St) (b : List UInt8) : Lg × St × Int :=
  if freeM (59 * (L.c : Int) - (L.n : Int)) < (b.length : Int) then (L, s, 16)
  else if s.f = true then (L, s, 15)
  else if (wl L.e s (L.f + L.n / 59) (L.t ++ nb4 b.length ++ b)).2 = 0 then ({ L with n := L.n + 4 + b.length, k := L.k + 1, t := tailOf (L.t ++ nb4 b.length ++ b) }, (wl L.e s (L.f + L.n / 59) (L.t ++ nb4 b.length ++ b)).1, 0)
  else (L, (wl L.e s (L.f + L.n / 59) (L.t ++ nb4 b.length ++ b)).1, (wl L.e s (L.f + L.n / 59) (L.t ++ nb4 b.length ++ b)).2)
def G3 (p q g : Nat) : Nat → Prop := fun k => k = p ∨ k = q ∨ k = g
theorem G3_pq {p q g k : Nat} (h : PQ p q k) : G3 p q g k := by rcases h with h | h; (· exact .inl h); exact .inr (.inl h)
theorem Lk.setT {F : Nat → Prop} {w : World} {g p : Nat} {L : Lg} (h : Lk F w g p L) (hg : F g) {A : Option Addr} {n c : Nat} {tl : List UInt8} (hb : BA F w A n tl) (hn : n ≤ c) (hc : c ≤ 9223372036854775807) : Lk F (w.setCell ⟨g, 5, none⟩ (.slice A n c)) g p { L with t := tl } := by
  obtain ⟨A0, cap, h1, -⟩ := h
  have hl := hb.1
  subst hl
  exact ⟨A, c, Joins.block_setCell h1 _, hb.chg ((Chg.refl (fun k => k = g) w).set_ rfl |>.mono (fun k e => by rw [e]; exact hg)), hn, hc⟩
theorem Lk.setN {F : Nat → Prop} {w : World} {g p : Nat} {L : Lg} (h : Lk F w g p L) (hg : F g) (n k : Nat) : Lk F ((w.setCell ⟨g, 4, none⟩ (.int .i64 (n : Int))).setCell ⟨g, 6, none⟩ (.int .i64 (k : Int))) g p { L with n := n, k := k } := by
  obtain ⟨A0, cap, h1, h2, h3⟩ := h
  exact ⟨A0, cap, Joins.block_setCell (Joins.block_setCell h1 _) _, h2.chg ((((Chg.refl (fun k => k = g) w).set_ rfl).set_ rfl).mono (fun k e => by rw [e]; exact hg)), h3⟩
end Go.Proofs.Ytgpofkabidginaa
