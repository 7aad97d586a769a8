/- The bytes of a sector, made one by one. -/
import Derived.Test.YtgpofkabidginaaWap
namespace Go.Proofs.Ytgpofkabidginaa
open Go.ChangeShapes Go.WideShapes Go.ChangeAt Go.RowKit Go.ChangeMaps

def rs1 (d : List UInt8) (k : Nat) : List UInt8 := d.take k ++ List.replicate (64 - k) 0
def rs2 (e : Nat) (d : List UInt8) (k : Nat) : List UInt8 := (d ++ List.replicate (59 - d.length) 0) ++ UInt8.ofNat d.length :: ((nb4 e).take k ++ List.replicate (4 - k) 0)
theorem rs1_len (d : List UInt8) (k : Nat) (hk : k ≤ d.length) (hd : d.length ≤ 59) : (rs1 d k).length = 64 := by unfold rs1; simp; omega
theorem rs2_len (e : Nat) (d : List UInt8) (k : Nat) (hk : k ≤ 4) (hd : d.length ≤ 59) : (rs2 e d k).length = 64 := by unfold rs2; simp [nb4_len]; omega
theorem rs1_zero (d : List UInt8) : rs1 d 0 = zeros := by simp [rs1, zeros]
theorem rs1_step (d : List UInt8) (k : Nat) (hk : k < d.length) (hd : d.length ≤ 59) : (rs1 d k).set k d[k] = rs1 d (k + 1) := by
  unfold rs1
  have hl : (d.take k).length = k := by rw [List.length_take]; omega
  rw [List.set_append_right _ _ (by omega), hl, Nat.sub_self, show 64 - k = (64 - (k + 1)) + 1 by omega, List.replicate_succ, List.set_cons_zero, List.take_succ_eq_append_getElem hk, List.append_assoc]
  rfl
theorem rs1_mid (e : Nat) (d : List UInt8) (hd : d.length ≤ 59) : (rs1 d d.length).set 59 (UInt8.ofNat d.length) = rs2 e d 0 := by
  have h1 : rs1 d d.length = (d ++ List.replicate (59 - d.length) 0) ++ 0 :: List.replicate 4 0 := by
    unfold rs1
    rw [List.take_length, show (0 : UInt8) :: List.replicate 4 0 = List.replicate 5 0 from rfl, List.append_assoc, List.replicate_append_replicate]
    congr 2
    omega
  rw [h1, List.set_append_right _ _ (by rw [pad_len d hd]; omega), pad_len d hd]
  simp [rs2]
theorem rs2_step (e : Nat) (d : List UInt8) (k : Nat) (hk : k < 4) (hd : d.length ≤ 59) : (rs2 e d k).set (60 + k) ((nb4 e)[k]'(by rw [nb4_len]; exact hk)) = rs2 e d (k + 1) := by
  unfold rs2
  have hp := pad_len d hd
  generalize d ++ List.replicate (59 - d.length) 0 = q at *
  rw [List.set_append_right _ _ (by omega), hp, show 60 + k - 59 = k + 1 by omega, List.set_cons_succ]
  congr 2
  have hl : ((nb4 e).take k).length = k := by rw [List.length_take, nb4_len]; omega
  rw [List.set_append_right _ _ (by omega), hl, Nat.sub_self, show 4 - k = (4 - (k + 1)) + 1 by omega, List.replicate_succ, List.set_cons_zero, List.take_succ_eq_append_getElem (by rw [nb4_len]; exact hk), List.append_assoc]
  rfl
theorem rs2_full (e : Nat) (d : List UInt8) : rs2 e d 4 = wsec e d := by
  unfold rs2 wsec
  rw [List.take_of_length_le (by rw [nb4_len]; omega)]
  simp
/-- The reference's log as a log. -/
def lgOf (f c e k : Nat) (S : List UInt8) : Lg := ⟨f, c, e, S.length, k, tailOf S⟩
theorem tailOf_app (S x : List UInt8) : (S ++ x).drop (59 * (S.length / 59)) = tailOf S ++ x := by
  unfold tailOf
  rw [List.drop_append_of_le_length (by omega)]
theorem tailOf_tail (S x : List UInt8) : tailOf (tailOf S ++ x) = tailOf (S ++ x) := by
  unfold tailOf
  have h1 : (S.drop (59 * (S.length / 59))).length = S.length - 59 * (S.length / 59) := List.length_drop
  rw [List.length_append, h1, List.length_append, ← List.drop_append_of_le_length (l₂ := x) (show 59 * (S.length / 59) ≤ S.length by omega), List.drop_drop]
  congr 1
  omega
theorem lgOf_app (f c e k : Nat) (S : List UInt8) (s : St) (b : List UInt8) (h : ((lgOf f c e k S).app s b).2.2 = 0) : ((lgOf f c e k S).app s b).1 = lgOf f c e (k + 1) (S ++ nb4 b.length ++ b) := by
  unfold Lg.app at *
  split at h
  · simp at h
  · split at h
    · simp at h
    · split at h
      · rename_i h1 h2 h3
        rw [if_neg h1, if_neg h2, if_pos h3]
        simp only [lgOf]
        rw [List.append_assoc, List.append_assoc, tailOf_tail]
        simp [nb4_len, Nat.add_assoc]
      · rename_i h3
        simp only at h
        exact absurd h h3
end Go.Proofs.Ytgpofkabidginaa
