/- What was written last. -/
import Derived.Test.YthdkcmbdbdhedaaTrn
namespace Go.Proofs.Ythdkcmbdbdhedaa
open Go.ChangeShapes Go.WideShapes Go.ChangeAt Go.RowKit Go.ChangeMaps

theorem Write_any (w : World) (p q : Nat) (s : St) (h : Dk w p q s) (hx : s.x < 1000000000) (i : Int) (A : Option Addr) (n c : Nat) (d : List UInt8) (hd : BA (PQ p q) w A n d) (hc : n ≤ c) :
    Calls Try.prog 22 #[.pointer (some ⟨p, 0, none⟩), .int .i64 i, .slice A n c] w fun e w' => e = .returned (.int .i64 (s.Wr i d).2) ∧ Dk w' p q (s.Wr i d).1 ∧ Chg (PQ p q) w w' := by
  cases hf : s.f
  · by_cases hi : 0 ≤ i ∧ i < s.R.length ∧ n = 64
    · obtain ⟨h1, h2, rfl⟩ := hi
      obtain ⟨k, rfl⟩ : ∃ k : Nat, i = (k : Int) := ⟨i.toNat, by omega⟩
      have hk : k < s.R.length := by omega
      by_cases ha : s.a = 1
      · have e : s.Wr k d = ({ s with R := s.R.set k (d.take s.b ++ (s.R.getD k []).drop s.b), f := true, a := 0 }, 15) := by
          unfold St.Wr
          rw [hf, if_neg (by decide), if_pos ⟨h1, h2, hd.1⟩]
          unfold St.wr
          rw [if_pos ha, Int.toNat_natCast]
        rw [e]
        exact Write_torn w p q s h hf ha k hk A c d hd.at hc
      · have e : s.Wr k d = ({ s with R := s.R.set k d, a := s.a - 1, x := s.x + 1 }, 0) := by
          unfold St.Wr
          rw [hf, if_neg (by decide), if_pos ⟨h1, h2, hd.1⟩]
          unfold St.wr
          rw [if_neg ha, Int.toNat_natCast]
          rw [hf]
        rw [e]
        rcases Nat.eq_zero_or_pos s.a with h0 | h0
        · exact Write_zero w p q s h hf h0 hx k hk A c d hd hc
        · exact Write_more w p q s h hf (by omega) hx k hk A c d hd hc
    · have e : s.Wr i d = (s, 1) := by
        unfold St.Wr
        rw [hf, if_neg (by decide), if_neg (by rw [hd.1]; exact hi)]
      rw [e]
      refine (Write_bad w p q s h hf i A n c (by omega)).mono ?_
      rintro e' w' ⟨h1, rfl⟩
      exact ⟨h1, h, Chg.refl _ _⟩
  · have e : s.Wr i d = (s, 15) := by unfold St.Wr; rw [hf]; rfl
    rw [e]
    refine (Write_fail w p q s h hf i _).mono ?_
    rintro e' w' ⟨h1, rfl⟩
    exact ⟨h1, h, Chg.refl _ _⟩
def FD (p q g : Nat) : Nat → Prop := fun k => k = p ∨ k = q ∨ k = g
theorem FD_of {p q g k : Nat} (h : PQ p q k) : FD p q g k := by rcases h with h | h; (· exact .inl h); exact .inr (.inl h)
/-- Four slices of bytes in a block of the call's own. -/
def arr4 (A : Nat → Option Addr) (m : Nat) : Array Value :=
  #[if 0 < m then .slice (A 0) 64 64 else .slice none 0 0, if 1 < m then .slice (A 1) 64 64 else .slice none 0 0, if 2 < m then .slice (A 2) 64 64 else .slice none 0 0, if 3 < m then .slice (A 3) 64 64 else .slice none 0 0]
def LS (w : World) (F : Nat → Prop) (g m : Nat) (R : List (List UInt8)) : Prop := ∃ A : Nat → Option Addr, Blk w g 46 (arr4 A m) ∧ ∀ i, i < m → BA F w (A i) 64 (R.getD i [])
theorem LS.chg {w w' : World} {F : Nat → Prop} {g m : Nat} {R : List (List UInt8)} (h : LS w F g m R) (hc : Chg F w w') (hb : w'.heap[g]? = w.heap[g]?) : LS w' F g m R := by
  obtain ⟨A, h1, h2⟩ := h
  exact ⟨A, hb.trans h1, fun i hi => (h2 i hi).chg hc⟩
theorem LS.pq {w w' : World} {p q g m : Nat} {R : List (List UInt8)} (h : LS w (FD p q g) g m R) (hc : Chg (PQ p q) w w') (hg : ¬ PQ p q g) : LS w' (FD p q g) g m R := by
  obtain ⟨A, h1, h2⟩ := h
  exact ⟨A, h1.chg hc hg, fun i hi => (h2 i hi).chg (hc.mono (fun _ => FD_of))⟩
theorem LS.below {w w' : World} {F : Nat → Prop} {g m : Nat} {R : List (List UInt8)} (h : LS w F g m R) (hb : Below w.heap.size w w') : LS w' F g m R := by
  obtain ⟨A, h1, h2⟩ := h
  exact ⟨A, h1.below hb, fun i hi => (h2 i hi).below hb⟩
theorem arr4_set (A : Nat → Option Addr) (m i : Nat) (B : Option Addr) (hi : i < 4) (hm : m ≤ 4) (him : i ≤ m) : (arr4 A m).setIfInBounds i (.slice B 64 64) = arr4 (fun j => if j = i then B else A j) (max m (i + 1)) := by
  unfold arr4
  match m, i, hi, hm, him with
  | 0, 0, _, _, _ => simp
  | 1, 0, _, _, _ => simp
  | 1, 1, _, _, _ => simp
  | 2, 0, _, _, _ => simp
  | 2, 1, _, _, _ => simp
  | 2, 2, _, _, _ => simp
  | 3, 0, _, _, _ => simp
  | 3, 1, _, _, _ => simp
  | 3, 2, _, _, _ => simp
  | 3, 3, _, _, _ => simp
  | 4, 0, _, _, _ => simp
  | 4, 1, _, _, _ => simp
  | 4, 2, _, _, _ => simp
  | 4, 3, _, _, _ => simp
theorem arr4_get (A : Nat → Option Addr) (i : Nat) (hi : i < 4) : (arr4 A 4)[i]? = some (.slice (A i) 64 64) := by
  unfold arr4
  match i, hi with
  | 0, _ => rfl
  | 1, _ => rfl
  | 2, _ => rfl
  | 3, _ => rfl
theorem LS.cell {w : World} {F : Nat → Prop} {g : Nat} {R : List (List UInt8)} (h : LS w F g 4 R) (i : Nat) (hi : i < 4) : ∃ A, w.cell? ⟨g, i, none⟩ = some (.slice A 64 64) ∧ BA F w A 64 (R.getD i []) := by
  obtain ⟨A, h1, h2⟩ := h
  exact ⟨A i, (h1.cell i).trans (arr4_get A i hi), h2 i hi⟩
theorem LS.free {w : World} {F : Nat → Prop} {g m : Nat} {R : List (List UInt8)} (h : LS w F g m R) (i : Nat) : w.frozen? ⟨g, i, none⟩ = false := by
  obtain ⟨A, h1, _⟩ := h
  exact Joins.unfrozen_of_block h1 i
theorem LS.there {w : World} {F : Nat → Prop} {g m : Nat} {R : List (List UInt8)} (h : LS w F g m R) (i : Nat) (hi : i < 4) : ∃ v, w.cell? ⟨g, i, none⟩ = some v := by
  obtain ⟨A, h1, _⟩ := h
  refine ⟨_, (h1.cell i).trans (Array.getElem?_eq_getElem ?_)⟩
  simpa [arr4] using hi
theorem LS.set {w : World} {p q g m : Nat} {R : List (List UInt8)} (h : LS w (FD p q g) g m R) (hm : m ≤ 4) (i : Nat) (hi : i < 4) (him : i ≤ m) (hR : R.length = 4) {B : Option Addr} {d : List UInt8} (hB : BA (FD p q g) w B 64 d) :
    LS (w.setCell ⟨g, i, none⟩ (.slice B 64 64)) (FD p q g) g (max m (i + 1)) (R.set i d) := by
  obtain ⟨A, h1, h2⟩ := h
  have hc : Chg (FD p q g) w (w.setCell ⟨g, i, none⟩ (.slice B 64 64)) := (Chg.refl _ _).set_ (.inr (.inr rfl))
  refine ⟨fun j => if j = i then B else A j, ?_, fun j hj => ?_⟩
  · rw [← arr4_set A m i B hi hm him]
    exact Joins.block_setCell h1 _
  · by_cases hji : j = i
    · subst hji
      simp only [if_true]
      rw [List.getD_eq_getElem?_getD, List.getElem?_set_self (by omega)]
      exact hB.chg hc
    · simp only [if_neg hji]
      rw [List.getD_eq_getElem?_getD, List.getElem?_set_ne (Ne.symm hji), ← List.getD_eq_getElem?_getD]
      exact (h2 j (by omega)).chg hc
end Go.Proofs.Ythdkcmbdbdhedaa
