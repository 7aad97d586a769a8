/- The lines that are taken. -/
import Derived.Test.YthageombfifffaaDoorNbr
namespace Go.Proofs.YthageombfifffaaDoor
open Go.ChangeShapes Go.WideShapes Go.ChangeAt Go.RowKit Go.ChangeMaps

theorem lineS_inj {a b : Act} (ha : vA a 8 = true) (hb : vA b 8 = true) (h : lineS a = lineS b) : a = b := by
  rw [← actS_inv a ha, ← actS_inv b hb, h]
theorem shapes (b : Act) (h : vA b 8 = true) {L : List UInt8} (hL : lineS b ++ [10] = L) :
    (L = [99, 104, 101, 99, 107, 112, 111, 105, 110, 116, 10] ∧ b = ⟨2, 0, 0, 0⟩) ∨ (L = [114, 101, 99, 111, 118, 101, 114, 10] ∧ b = ⟨4, 0, 0, 0⟩) ∨ (L = [99, 114, 97, 115, 104, 10] ∧ b = ⟨3, 0, 0, 0⟩) ∨
    (∃ n : Nat, n < 8 ∧ L = 115 :: 116 :: 101 :: 112 :: 32 :: (Lib.decDigits n ++ [10]) ∧ b = ⟨1, n, 0, 0⟩) ∨
    (∃ n m : Nat, n ≤ 1000000 ∧ m ≤ 64 ∧ L = 99 :: 114 :: 97 :: 115 :: 104 :: 32 :: (Lib.decDigits n ++ 32 :: (Lib.decDigits m ++ [10])) ∧ b = ⟨3, 0, n, m⟩) := by
  subst hL
  rcases vA_cases b h with ⟨n, hn, rfl⟩ | rfl | rfl | rfl | ⟨n, m, h0, h1, h2, rfl⟩
  · exact .inr (.inr (.inr (.inl ⟨n, hn, by rw [lineS_step]; simp [tStep], rfl⟩)))
  · exact .inl ⟨rfl, rfl⟩
  · exact .inr (.inl ⟨rfl, rfl⟩)
  · exact .inr (.inr (.inl ⟨rfl, rfl⟩))
  · exact .inr (.inr (.inr (.inr ⟨n, m, h1, h2, by rw [lineS_crash n m h0]; simp [tCrash], rfl⟩)))
/-- What is read serves every valid action that has this line. -/
def Serves (L : List UInt8) (a : Act) : Prop := ∀ b, vA b 8 = true → lineS b ++ [10] = L → a = b
theorem dec_pos (n : Nat) : 0 < (Lib.decDigits n).length := List.length_pos_iff.2 (decDigits_ne n)
theorem serves_check {L : List UInt8} (h : L = [99, 104, 101, 99, 107, 112, 111, 105, 110, 116, 10]) : Serves L ⟨2, 0, 0, 0⟩ := fun b hb hl => by
  subst h
  rcases shapes b hb hl with ⟨e, rfl⟩ | ⟨e, rfl⟩ | ⟨e, rfl⟩ | ⟨n, _, e, rfl⟩ | ⟨n, m, _, _, e, rfl⟩
  · rfl
  all_goals simp at e
theorem serves_recov {L : List UInt8} (h : L = [114, 101, 99, 111, 118, 101, 114, 10]) : Serves L ⟨4, 0, 0, 0⟩ := fun b hb hl => by
  subst h
  rcases shapes b hb hl with ⟨e, rfl⟩ | ⟨e, rfl⟩ | ⟨e, rfl⟩ | ⟨n, _, e, rfl⟩ | ⟨n, m, _, _, e, rfl⟩
  · simp at e
  · rfl
  all_goals simp at e
theorem serves_crash {L : List UInt8} (h : L = [99, 114, 97, 115, 104, 10]) : Serves L ⟨3, 0, 0, 0⟩ := fun b hb hl => by
  subst h
  rcases shapes b hb hl with ⟨e, rfl⟩ | ⟨e, rfl⟩ | ⟨e, rfl⟩ | ⟨n, _, e, rfl⟩ | ⟨n, m, _, _, e, rfl⟩
  · simp at e
  · simp at e
  · rfl
  all_goals simp at e
theorem serves_step {L : List UInt8} (h5 : L.take 5 = [115, 116, 101, 112, 32]) {x : List UInt8} (hx : x = (L.drop 5).take (L.length - 1 - 5)) : Serves L ⟨1, numF 0 x, 0, 0⟩ := fun b hb hl => by
  rcases shapes b hb hl with ⟨e, rfl⟩ | ⟨e, rfl⟩ | ⟨e, rfl⟩ | ⟨n, hn, e, rfl⟩ | ⟨n, m, _, _, e, rfl⟩
  · subst e; simp at h5
  · subst e; simp at h5
  · subst e; simp at h5
  · subst e
    have : x = Lib.decDigits n := by
      rw [hx]
      show (Lib.decDigits n ++ [10]).take ((115 :: 116 :: 101 :: 112 :: 32 :: (Lib.decDigits n ++ [10])).length - 1 - 5) = _
      have : (115 :: 116 :: 101 :: 112 :: 32 :: (Lib.decDigits n ++ [10]) : List UInt8).length - 1 - 5 = (Lib.decDigits n).length := by simp
      rw [this, List.take_left]
    rw [this, numF_of n (by omega)]
  · subst e; simp at h5
theorem first_at (p r : List UInt8) (hp : (32 : UInt8) ∉ p) (j : Nat) (h : (32 : UInt8) ∉ (p ++ 32 :: r).take j) (hj : (p ++ 32 :: r)[j]? = some 32) : j = p.length := by
  rcases Nat.lt_trichotomy j p.length with hl | hl | hl
  · rw [List.getElem?_append_left hl] at hj
    exact absurd (List.mem_of_getElem? hj) hp
  · exact hl
  · refine absurd ?_ h
    rw [List.take_append, List.take_of_length_le (by omega)]
    obtain ⟨d, hd⟩ : ∃ d, j - p.length = d + 1 := ⟨j - p.length - 1, by omega⟩
    rw [hd, List.take_succ_cons]
    simp
theorem serves_two {L : List UInt8} (h6 : L.take 6 = [99, 114, 97, 115, 104, 32]) (k : Nat) (hk : 6 ≤ k) (hn : (32 : UInt8) ∉ (L.drop 6).take (k - 6)) (hs : L[k]? = some 32) {x y : List UInt8} (hx : x = (L.drop 6).take (k - 6)) (hy : y = (L.drop (k + 1)).take (L.length - 1 - (k + 1))) :
    Serves L ⟨3, 0, numF 0 x, numF 0 y⟩ := fun b hb hl => by
  rcases shapes b hb hl with ⟨e, rfl⟩ | ⟨e, rfl⟩ | ⟨e, rfl⟩ | ⟨n, hn, e, rfl⟩ | ⟨n, m, h1, h2, e, rfl⟩
  · subst e; simp at h6
  · subst e; simp at h6
  · subst e; simp at h6
  · subst e; simp at h6
  · have ed : L.drop 6 = Lib.decDigits n ++ 32 :: (Lib.decDigits m ++ [10]) := by rw [e]; rfl
    have hs' : (L.drop 6)[k - 6]? = some 32 := by rw [List.getElem?_drop, show 6 + (k - 6) = k by omega]; exact hs
    rw [ed] at hn hs'
    have hj := first_at _ _ (dec_no32 n) _ hn hs'
    have ex : x = Lib.decDigits n := by rw [hx, ed, hj, List.take_left]
    have ey : y = Lib.decDigits m := by
      have e1 : L.drop (k + 1) = Lib.decDigits m ++ [10] := by
        rw [show k + 1 = 6 + ((Lib.decDigits n).length + 1) by omega, ← List.drop_drop, ed, ← List.drop_drop, List.drop_left]; rfl
      have e2 : L.length = 6 + ((Lib.decDigits n).length + 1 + ((Lib.decDigits m).length + 1)) := by rw [e]; simp; omega
      rw [hy, e1, show L.length - 1 - (k + 1) = (Lib.decDigits m).length by omega, List.take_left]
    rw [ex, ey, numF_of n (by omega), numF_of m (by omega)]
theorem serves_none {L : List UInt8} (h6 : L.take 6 = [99, 114, 97, 115, 104, 32]) (hn : (32 : UInt8) ∉ L.drop 6) (a : Act) : Serves L a := fun b hb hl => by
  rcases shapes b hb hl with ⟨e, rfl⟩ | ⟨e, rfl⟩ | ⟨e, rfl⟩ | ⟨n, _, e, rfl⟩ | ⟨n, m, h1, h2, e, rfl⟩
  · subst e; simp at h6
  · subst e; simp at h6
  · subst e; simp at h6
  · subst e; simp at h6
  · subst e; exact absurd (by simp) hn
theorem serves_other {L : List UInt8} (h1 : L ≠ [99, 104, 101, 99, 107, 112, 111, 105, 110, 116, 10]) (h2 : L ≠ [114, 101, 99, 111, 118, 101, 114, 10]) (h3 : L ≠ [99, 114, 97, 115, 104, 10])
    (h4 : ¬ (6 < L.length ∧ L.take 5 = [115, 116, 101, 112, 32])) (h5 : ¬ (6 < L.length ∧ L.take 6 = [99, 114, 97, 115, 104, 32])) (a : Act) : Serves L a := fun b hb hl => by
  rcases shapes b hb hl with ⟨e, rfl⟩ | ⟨e, rfl⟩ | ⟨e, rfl⟩ | ⟨n, _, e, rfl⟩ | ⟨n, m, _, _, e, rfl⟩
  · exact absurd e h1
  · exact absurd e h2
  · exact absurd e h3
  · subst e; exact absurd ⟨by have := dec_pos n; simp; omega, rfl⟩ h4
  · subst e; exact absurd ⟨by have := dec_pos n; simp; omega, rfl⟩ h5
/-- A line is taken. -/
def okL (t : List UInt8) : Bool := vA (actS t) 8 && (lineS (actS t) == t)
theorem okL_ref (t : List UInt8) (a : Act) (h : Serves (t ++ [10]) a) : (vA a 8 = true ∧ lineS a ++ [10] = t ++ [10]) ↔ okL t = true := by
  unfold okL
  rw [Bool.and_eq_true, beq_iff_eq]
  constructor
  · rintro ⟨h1, h2⟩
    have e : lineS a = t := List.append_cancel_right h2
    have : actS t = a := by rw [← e, actS_inv a h1]
    rw [this]; exact ⟨h1, e⟩
  · rintro ⟨h1, h2⟩
    have := h _ h1 (by rw [h2])
    rw [this]; exact ⟨h1, by rw [h2]⟩
theorem okL_act (t : List UInt8) (a : Act) (h : Serves (t ++ [10]) a) (ho : okL t = true) : a = actS t := by
  unfold okL at ho
  rw [Bool.and_eq_true, beq_iff_eq] at ho
  exact h _ ho.1 (by rw [ho.2])
end Go.Proofs.YthageombfifffaaDoor
