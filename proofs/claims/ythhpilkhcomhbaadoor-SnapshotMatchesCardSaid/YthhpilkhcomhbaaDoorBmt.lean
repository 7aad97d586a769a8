/- Bursts: the arithmetic. -/
import Derived.Test.YthhpilkhcomhbaaDoorOwn
namespace Go.Proofs.YthhpilkhcomhbaaDoor
open Go.ChangeShapes Go.WideShapes Go.ChangeAt Go.RowKit Go.ChangeMaps

theorem halves_inj (n : Nat) {a b : Nat} (ha : a < 18446744073709551616) (hb : b < 18446744073709551616) (h : halves n a = halves n b) : a = b := by
  have h2 : halves n (a ^^^ b) = 0 := by rw [halves_xor, h, Nat.xor_self]
  rcases Nat.eq_zero_or_pos (a ^^^ b) with h0 | h0
  · have := congrArg (· ^^^ b) h0
    simp only [Nat.xor_assoc, Nat.xor_self, Nat.xor_zero, Nat.zero_xor] at this
    exact this
  · exact absurd h2 (halves_ne n (by omega) (xor_lt64 ha hb))
theorem xor_inj {a b c : Nat} (h : a ^^^ c = b ^^^ c) : a = b := by
  have := congrArg (· ^^^ c) h
  simpa only [Nat.xor_assoc, Nat.xor_self, Nat.xor_zero] using this
theorem turns_inj {r s : Nat} (l : List UInt8) (hr : r < 18446744073709551616) (hs : s < 18446744073709551616) (h : turns r l = turns s l) : r = s := by
  induction l generalizing r s with
  | nil => exact h
  | cons x l ih =>
    have hx := UInt8.toNat_lt x
    exact xor_inj (halves_inj 8 (xor_lt64 hr (by omega)) (xor_lt64 hs (by omega)) (ih (turn_lt hr hx) (turn_lt hs hx) h))
theorem leN_lt64 {l : List UInt8} (h : l.length ≤ 8) : leN l < 18446744073709551616 := by
  have := leN_lt l
  have h2 : 256 ^ l.length ≤ 256 ^ 8 := Nat.pow_le_pow_right (by omega) h
  have h3 : (256 : Nat) ^ 8 = 18446744073709551616 := by decide
  omega
theorem feed_inj {r : Nat} {l m : List UInt8} (hr : r < 18446744073709551616) (hl : l.length ≤ 8) (he : l.length = m.length) (h : turns r l = turns r m) : l = m := by
  rw [turns_feed r l hl, turns_feed r m (by omega), ← he] at h
  have := halves_inj _ (xor_lt64 hr (leN_lt64 hl)) (xor_lt64 hr (leN_lt64 (by omega))) h
  rw [Nat.xor_comm r, Nat.xor_comm r] at this
  have := xor_inj this
  rw [← le8_leN l, this, he, le8_leN]
/-- The bytes l, changed at i by the first k bytes of ch. -/
def mx (l : List UInt8) (i : Nat) (ch : List UInt8) (k : Nat) : List UInt8 := l.take i ++ List.zipWith (· ^^^ ·) ((l.drop i).take k) (ch.take k) ++ l.drop (i + k)
theorem mx_zero (l : List UInt8) (i : Nat) (ch : List UInt8) : mx l i ch 0 = l := by simp [mx]
theorem mid_len (l : List UInt8) (i : Nat) (ch : List UInt8) (k : Nat) (h1 : i + k ≤ l.length) (h2 : k ≤ ch.length) : (List.zipWith (· ^^^ ·) ((l.drop i).take k) (ch.take k)).length = k := by
  rw [List.length_zipWith, List.length_take, List.length_take, List.length_drop]; omega
theorem mx_len (l : List UInt8) (i : Nat) (ch : List UInt8) (k : Nat) (h1 : i + k ≤ l.length) (h2 : k ≤ ch.length) : (mx l i ch k).length = l.length := by
  unfold mx
  rw [List.length_append, List.length_append, mid_len l i ch k h1 h2, List.length_take, List.length_drop]; omega
theorem mx_crc (l : List UInt8) (i : Nat) (ch : List UInt8) (k : Nat) (h1 : i + k ≤ l.length) (h2 : k ≤ ch.length) (h8 : k ≤ 8) : crc 0 (mx l i ch k) = crc 0 l ↔ mx l i ch k = l := by
  refine ⟨fun h => ?_, fun h => by rw [h]⟩
  have e : l = l.take i ++ (l.drop i).take k ++ l.drop (i + k) := by
    rw [List.append_assoc, ← List.drop_drop, List.take_append_drop, List.take_append_drop]
  have hm := mid_len l i ch k h1 h2
  have ha : ((l.drop i).take k).length = k := by rw [List.length_take, List.length_drop]; omega
  have ht : turns (cM - 0) (mx l i ch k) = turns (cM - 0) l := by
    rw [← crc_inv, ← crc_inv, h]
  have hc : cM - 0 < 18446744073709551616 := by decide
  unfold mx at ht ⊢
  rw [turns_append, turns_append] at ht
  conv at ht => rhs; rw [e, turns_append, turns_append]
  have := turns_inj _ (turns_lt (turns_lt hc _) _) (turns_lt (turns_lt hc _) _) ht
  have := feed_inj (turns_lt hc _) (by omega) (by omega) this
  conv => rhs; rw [e]
  rw [this]
theorem mx_at (l : List UInt8) (i : Nat) (ch : List UInt8) (k : Nat) (h1 : i + k < l.length) (h2 : k < ch.length) : (mx l i ch k)[i + k]? = some l[i + k] := by
  unfold mx
  have hm := mid_len l i ch k (by omega) (by omega)
  rw [List.getElem?_append_right (by rw [List.length_append, hm, List.length_take]; omega), List.length_append, hm, List.length_take, Nat.min_eq_left (by omega), Nat.sub_self, List.getElem?_drop, Nat.add_zero, List.getElem?_eq_getElem h1]
theorem mx_succ (l : List UInt8) (i : Nat) (ch : List UInt8) (k : Nat) (h1 : i + k < l.length) (h2 : k < ch.length) : mx l i ch (k + 1) = (mx l i ch k).set (i + k) (l[i + k] ^^^ ch[k]) := by
  have hm := mid_len l i ch k (by omega) (by omega)
  have hd : l.drop (i + k) = l[i + k] :: l.drop (i + (k + 1)) := by rw [List.drop_eq_getElem_cons h1]; rfl
  have hs : (l.drop i).take (k + 1) = (l.drop i).take k ++ [l[i + k]] := by
    rw [List.take_succ_eq_append_getElem (by rw [List.length_drop]; omega)]; simp
  have hc : ch.take (k + 1) = ch.take k ++ [ch[k]] := List.take_succ_eq_append_getElem h2
  unfold mx
  rw [hs, hc, List.zipWith_append (by rw [List.length_take, List.length_take, List.length_drop]; omega), hd, List.set_append_right _ _ (by rw [List.length_append, hm, List.length_take]; omega),
    List.length_append, hm, List.length_take, Nat.min_eq_left (by omega), Nat.sub_self]
  simp
theorem mx_same (l : List UInt8) (i : Nat) (ch : List UInt8) (k : Nat) (h1 : i + k < l.length) (h2 : k < ch.length) : (mx l i ch (k + 1) = l) ↔ (mx l i ch k = l ∧ ch[k] = 0) := by
  have hm := mid_len l i ch k (by omega) (by omega)
  have e : l = l.take i ++ (l.drop i).take k ++ l.drop (i + k) := by
    rw [List.append_assoc, ← List.drop_drop, List.take_append_drop, List.take_append_drop]
  rw [mx_succ l i ch k h1 h2]
  constructor
  · intro h
    have h3 : l[i + k] ^^^ ch[k] = l[i + k] := by
      have := congrArg (·[i + k]?) h
      simp only [List.getElem?_set_self (show i + k < (mx l i ch k).length by rw [mx_len l i ch k (by omega) (by omega)]; exact h1), List.getElem?_eq_getElem h1] at this
      exact Option.some.inj this
    have h4 : ch[k] = 0 := by
      have := congrArg (l[i + k] ^^^ ·) h3
      simpa [← UInt8.xor_assoc] using this
    refine ⟨?_, h4⟩
    rw [h3] at h
    refine Eq.trans (List.ext_getElem? fun j => ?_) h
    by_cases hj : i + k = j
    · subst hj
      rw [List.getElem?_set_self (by rw [mx_len l i ch k (by omega) (by omega)]; exact h1), mx_at l i ch k h1 h2]
    · rw [List.getElem?_set_ne hj]
  · rintro ⟨h, h4⟩
    rw [h, h4]
    simp
end Go.Proofs.YthhpilkhcomhbaaDoor
