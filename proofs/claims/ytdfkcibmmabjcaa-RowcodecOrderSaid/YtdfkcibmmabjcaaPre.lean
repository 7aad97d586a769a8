/- A string begins with a prefix exactly if it lies from the prefix to before its end. -/
import Derived.Test.YtdfkcibmmabjcaaEn
namespace Go.Proofs.Ytdfkcibmmabjcaa
open Go.ChangeShapes Go.WideShapes Go.ChangeAt Go.RowKit

def endO : List UInt8 → Option (List UInt8)
  | [] => none
  | a :: p => match endO p with
    | some r => some (a :: r)
    | none => if a = 255 then none else some [a + 1]

theorem endO_cons (a : UInt8) (p : List UInt8) : endO (a :: p) = match endO p with | some r => some (a :: r) | none => if a = 255 then none else some [a + 1] := rfl

theorem strip_cons (a : UInt8) (p : List UInt8) : ∀ n, stripN (a :: p) (n + 1) = if stripN p n = 0 then (if a = 255 then 0 else 1) else stripN p n + 1
  | 0 => by simp [stripN]
  | n + 1 => by
    rw [stripN]
    simp only [List.getElem?_cons_succ]
    rw [strip_cons a p n]
    conv => rhs; rw [stripN]
    by_cases h : p[n]? = some 255
    · rw [if_pos h, if_pos h]
    · rw [if_neg h, if_neg h, if_neg (by omega)]

theorem end_is (p : List UInt8) : endB p = (endO p).isSome ∧ endS p = (endO p).getD [] := by
  induction p with
  | nil => exact ⟨rfl, rfl⟩
  | cons a p ih =>
    unfold endB endS at *
    rw [List.length_cons, strip_cons]
    rw [endO_cons]
    by_cases h : stripN p p.length = 0
    · rw [if_pos h] at ih ⊢
      rw [h] at ih
      rcases e : endO p with _ | r
      · by_cases ha : a = 255
        · simp [ha]
        · simp [ha]
      · rw [e] at ih; simp at ih
    · rw [if_neg h] at ih ⊢
      rcases e : endO p with _ | r
      · rw [e] at ih; simp at ih
      · rw [e] at ih
        obtain ⟨n, hn⟩ : ∃ n, stripN p p.length = n + 1 := ⟨stripN p p.length - 1, by omega⟩
        rw [hn] at ih ⊢
        simp at ih ⊢
        exact ih

theorem less_nil (s : List UInt8) : Op.bytesLess s [] = false := by cases s <;> rfl
theorem less_cons (b a : UInt8) (s p : List UInt8) : Op.bytesLess (b :: s) (a :: p) = (decide (b < a) || (b == a && Op.bytesLess s p)) := rfl

theorem pre_iff (p : List UInt8) : ∀ s : List UInt8, List.isPrefixOf p s = (!Op.bytesLess s p && (!(endO p).isSome || Op.bytesLess s ((endO p).getD []))) := by
  induction p with
  | nil => intro s; simp [endO, less_nil]
  | cons a p ih =>
    intro s
    rcases s with _ | ⟨b, s⟩
    · simp [Op.bytesLess]
    · have I := ih s
      rw [less_cons, show List.isPrefixOf (a :: p) (b :: s) = (a == b && List.isPrefixOf p s) from rfl, I]
      have hb := b.toNat_lt
      have ha := a.toNat_lt
      rcases Nat.lt_trichotomy b.toNat a.toNat with h | h | h
      · have h1 : b < a := UInt8.lt_iff_toNat_lt.2 h
        have h2 : (a == b) = false := by simp; intro e; subst e; omega
        simp [h1, h2]
      · obtain rfl : b = a := UInt8.toNat.inj h
        have h1 : ¬ b < b := by intro h; have := UInt8.lt_iff_toNat_lt.1 h; omega
        rw [endO_cons]
        rcases e : endO p with _ | r
        · by_cases hb : b = 255
          · simp [hb]
          · have h3 : b < b + 1 := by
              rw [UInt8.lt_iff_toNat_lt, UInt8.toNat_add]
              have : b.toNat ≠ 255 := fun h => hb (UInt8.toNat.inj h)
              simp; omega
            simp [hb, less_cons, h3]
        · simp [less_cons]
      · have h1 : ¬ b < a := by intro h; have := UInt8.lt_iff_toNat_lt.1 h; omega
        have h2 : (a == b) = false := by simp; intro e; subst e; omega
        have h4 : (b == a) = false := by simp; intro e; subst e; omega
        rw [endO_cons]
        rcases e : endO p with _ | r
        · have h5 : a ≠ 255 := by intro h; subst h; simp at h; omega
          have h6 : ¬ b < a + 1 := by
            rw [UInt8.lt_iff_toNat_lt, UInt8.toNat_add]; simp; omega
          simp [h1, h2, h4, h5, h6, less_cons, less_nil]
        · simp [less_cons, h1, h2, h4]
end Go.Proofs.Ytdfkcibmmabjcaa
