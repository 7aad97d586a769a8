/- What a scan reads after writes, also torn ones. -/
import Derived.Test.YtgpofkabidginaaWcd
import Derived.Test.YtgpofkabidginaaWrl
namespace Go.Proofs.Ytgpofkabidginaa
open Go.ChangeShapes Go.WideShapes Go.ChangeAt Go.RowKit Go.ChangeMaps

def seg (s : St) (f c : Nat) : List (List UInt8) := (s.R.drop f).take c
theorem seg_set {R : List (List UInt8)} {f c k : Nat} {x : List UInt8} (hk : k < c) : ((R.set (f + k) x).drop f).take c = ((R.drop f).take c).set k x := by
  rw [List.drop_set, if_neg (by omega), show f + k - f = k by omega]
  apply List.ext_getElem?
  intro i
  rw [List.getElem?_take, List.getElem?_set, List.getElem?_set, List.getElem?_take, List.length_take]
  by_cases hi : i < c
  · rw [if_pos hi, if_pos hi]
    by_cases hki : k = i
    · subst hki
      simp only [if_true]
      by_cases hl : k < (R.drop f).length
      · rw [if_pos hl, if_pos (by omega)]
      · rw [if_neg hl, if_neg (by omega)]
    · rw [if_neg hki, if_neg hki]
  · rw [if_neg hi, if_neg hi]
    by_cases hki : k = i
    · omega
    · rw [if_neg hki]
theorem seg_len {s : St} {f c : Nat} (h : f + c ≤ s.R.length) : (seg s f c).length = c := by unfold seg; rw [List.length_take, List.length_drop]; omega
theorem seg_get {s : St} {f c k : Nat} (hk : k < c) : (seg s f c).getD k [] = s.R.getD (f + k) [] := by
  unfold seg
  rw [List.getD_eq_getElem?_getD, List.getD_eq_getElem?_getD, List.getElem?_take, if_pos hk, List.getElem?_drop]
theorem seg_64 {s : St} {f c : Nat} (h : ∀ r ∈ s.R, r.length = 64) : ∀ r ∈ seg s f c, r.length = 64 := fun r hr => h r (List.mem_of_mem_drop (List.mem_of_mem_take hr))
theorem wl_good {e f c : Nat} (he : e < 4294967296) : ∀ (n : Nat) (s : St) (k : Nat) (base t u : List UInt8), (t ++ u).length ≤ n → (∀ r ∈ s.R, r.length = 64) → s.b ≤ 64 → s.f = false → f + c ≤ s.R.length → Good e (seg s f c) (base ++ t) → base.length = 59 * k → t.length < 59 → (u = [] → t = []) → 59 * k + (t ++ u).length ≤ 59 * c →
    ((wloop e n s (f + k) (t ++ u)).2 = 0 ∧ Good e (seg (wloop e n s (f + k) (t ++ u)).1 f c) (base ++ (t ++ u)) ∧ (wloop e n s (f + k) (t ++ u)).1.f = false ∧ (s.a = 0 → (wloop e n s (f + k) (t ++ u)).1.a = 0) ∧ (∀ r ∈ (wloop e n s (f + k) (t ++ u)).1.R, r.length = 64) ∧ (wloop e n s (f + k) (t ++ u)).1.b = s.b) ∨
    ((wloop e n s (f + k) (t ++ u)).2 = 15 ∧ s.a ≠ 0 ∧ ∃ m, m ≤ (t ++ u).length ∧ t.length ≤ m ∧ streamM e (seg (wloop e n s (f + k) (t ++ u)).1 f c) = base ++ (t ++ u).take m)
  | 0, s, k, base, t, u, hn, h64, hb, hf, hr, hg, hbl, ht, hu, hc => by
    have hd : t ++ u = [] := List.eq_nil_of_length_eq_zero (by omega)
    obtain ⟨rfl, rfl⟩ := List.append_eq_nil_iff.1 hd
    left
    exact ⟨rfl, by simpa [wloop] using hg, hf, fun h => h, h64, rfl⟩
  | n + 1, s, k, base, t, u, hn, h64, hb, hf, hr, hg, hbl, ht, hu, hc => by
    by_cases hd : t ++ u = []
    · obtain ⟨rfl, rfl⟩ := List.append_eq_nil_iff.1 hd
      left
      unfold wloop
      rw [if_pos hd]
      exact ⟨rfl, by simpa using hg, hf, fun h => h, h64, rfl⟩
    · have hl : 0 < (t ++ u).length := List.length_pos_iff.2 hd
      have hkc : k < c := by omega
      have hne : u ≠ [] := fun h => hd (by rw [h, hu h]; rfl)
      obtain ⟨ch, hch⟩ : ∃ x, (t ++ u).take 59 = x := ⟨_, rfl⟩
      have hch2 : ch = t ++ u.take (59 - t.length) := by rw [← hch, List.take_append, List.take_of_length_le (by omega)]
      have hu1 : u.take (59 - t.length) ≠ [] := fun h => by
        have := congrArg List.length h
        rw [List.length_take, List.length_nil] at this
        have := List.length_pos_iff.2 hne
        omega
      have hchl : ch.length ≤ 59 := by rw [← hch]; exact take59 _
      have hchn : ch ≠ [] := fun h => by rw [h] at hch2; exact hu1 (List.append_eq_nil_iff.1 hch2.symm).2
      have hws : (wsec e ch).length = 64 := wsec_len e ch hchl
      have hsl : (seg s f c).length = c := seg_len hr
      have hW : s.Wr ((f + k : Nat) : Int) (wsec e ch) = s.wr (f + k) (wsec e ch) := by
        unfold St.Wr
        rw [if_neg (by rw [hf]; decide), if_pos ⟨by omega, by omega, hws⟩, Int.toNat_natCast]
      by_cases ha : s.a = 1
      · have hw : s.wr (f + k) (wsec e ch) = ({ s with R := s.R.set (f + k) ((wsec e ch).take s.b ++ (s.R.getD (f + k) []).drop s.b), f := true, a := 0 }, 15) := by unfold St.wr; rw [if_pos ha]
        right
        unfold wloop
        rw [if_neg hd, hch, hW, hw, if_neg (by simp)]
        refine ⟨rfl, by omega, ?_⟩
        have hst := stream_torn (k := k) (b := s.b) he hg hbl (by rw [← hch2]; exact hchl) ht (seg_64 h64) (by rw [hsl]; exact hkc) hb hu1
        rw [← hch2, seg_get hkc] at hst
        unfold seg at hst
        rw [← seg_set (R := s.R) (f := f) hkc] at hst
        rcases hst with h1 | h1
        · refine ⟨t.length, by rw [List.length_append]; omega, Nat.le_refl _, ?_⟩
          rw [List.take_append_of_le_length (Nat.le_refl _), List.take_length]
          exact h1
        · refine ⟨ch.length, by rw [← hch, List.length_take]; omega, by rw [hch2, List.length_append]; omega, ?_⟩
          rw [show (t ++ u).take ch.length = ch from by rw [← hch, List.length_take, List.take_eq_take_iff]; omega]
          exact stream_good he h1
      · have hw : s.wr (f + k) (wsec e ch) = ({ s with R := s.R.set (f + k) (wsec e ch), a := s.a - 1, x := s.x + 1 }, 0) := by unfold St.wr; rw [if_neg ha]
        unfold wloop
        rw [if_neg hd, hch, hW, hw, if_pos rfl]
        have hgw := good_write (k := k) hg hbl ht hchn hchl (by rw [hsl]; exact hkc)
        have hsg : seg ({ s with R := s.R.set (f + k) (wsec e ch), a := s.a - 1, x := s.x + 1 } : St) f c = (seg s f c).set k (wsec e ch) := seg_set hkc
        have h64' := set_len64 (i := f + k) h64 hws
        by_cases h59 : (t ++ u).length ≤ 59
        · have hdn : (t ++ u).drop 59 = [] := List.drop_of_length_le h59
          have hce : ch = t ++ u := by rw [← hch, List.take_of_length_le h59]
          left
          rw [hdn]
          have hz : ∀ s' : St, wloop e n s' (f + k + 1) [] = (s', 0) := fun s' => by cases n <;> simp [wloop]
          rw [hz]
          refine ⟨rfl, ?_, hf, fun h => by simp only; omega, h64', rfl⟩
          rw [hsg, ← hce]
          exact hgw
        · have hc59 : ch.length = 59 := by rw [← hch, List.length_take]; omega
          have hdc : (t ++ u) = ch ++ (t ++ u).drop 59 := by rw [← hch, List.take_append_drop]
          have ih := wl_good (f := f) (c := c) he n ({ s with R := s.R.set (f + k) (wsec e ch), a := s.a - 1, x := s.x + 1 } : St) (k + 1) (base ++ ch) [] ((t ++ u).drop 59) (by rw [List.nil_append, List.length_drop]; omega) h64' hb hf (by simpa using hr) (by rw [hsg, List.append_nil]; exact hgw) (by rw [List.length_append, hbl, hc59]; omega) (by simp) (fun _ => rfl) (by rw [List.nil_append, List.length_drop]; omega)
          rw [List.nil_append, ← Nat.add_assoc] at ih
          rcases ih with ⟨h1, h2, h3, h4, h5, h6⟩ | ⟨h1, h2, m, h3, h4, h5⟩
          · left
            refine ⟨h1, ?_, h3, fun h => h4 (by simp only; omega), h5, h6⟩
            rw [List.append_assoc, ← hdc] at h2
            exact h2
          · right
            refine ⟨h1, by simp only at h2; omega, 59 + m, by rw [List.length_drop] at h3; omega, by omega, ?_⟩
            rw [h5, List.append_assoc]
            congr 1
            have hq : ∀ (x y : List UInt8), x.length = 59 → (x ++ y).take (59 + m) = x ++ y.take m := fun x y hx => by
              rw [List.take_append, hx, List.take_of_length_le (by omega), show 59 + m - 59 = m by omega]
            have := hq ch ((t ++ u).drop 59) hc59
            rw [← hdc] at this
            exact this.symm
end Go.Proofs.Ytgpofkabidginaa
