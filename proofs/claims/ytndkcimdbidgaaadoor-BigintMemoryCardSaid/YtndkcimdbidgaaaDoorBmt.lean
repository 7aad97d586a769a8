/- Digits: the value of a list, and when a list is the only one with its value. -/
import Derived.Test.YtndkcimdbidgaaaDoorLaw
namespace Go.Proofs.YtndkcimdbidgaaaDoor
open Go.ChangeShapes Go.WideShapes Go.ChangeAt Go.RowKit Go.ChangeMaps

def dv (B : Nat) : List Nat → Nat
  | [] => 0
  | d :: l => d + B * dv B l
def dok (B : Nat) (l : List Nat) : Prop := ∀ d ∈ l, d < B
theorem dok_nil (B : Nat) : dok B [] := fun d h => by cases h
theorem dok_cons {B d : Nat} {l : List Nat} : dok B (d :: l) ↔ d < B ∧ dok B l := by simp [dok]
theorem dok_app {B : Nat} {l m : List Nat} : dok B (l ++ m) ↔ dok B l ∧ dok B m := by
  unfold dok
  constructor
  · intro h
    exact ⟨fun d hd => h d (by simp [hd]), fun d hd => h d (by simp [hd])⟩
  · rintro ⟨h1, h2⟩ d hd
    rcases List.mem_append.1 hd with h | h
    · exact h1 d h
    · exact h2 d h
theorem dok_take {B : Nat} {l : List Nat} (h : dok B l) (k : Nat) : dok B (l.take k) := fun d hd => h d (List.mem_of_mem_take hd)
theorem dok_drop {B : Nat} {l : List Nat} (h : dok B l) (k : Nat) : dok B (l.drop k) := fun d hd => h d (List.mem_of_mem_drop hd)
theorem dok_at {B : Nat} {l : List Nat} (h : dok B l) {i d : Nat} (hi : l[i]? = some d) : d < B := h d (List.mem_of_getElem? hi)
theorem dok_set {B : Nat} {l : List Nat} (h : dok B l) (i d : Nat) (hd : d < B) : dok B (l.set i d) := fun x hx => by
  rcases List.mem_or_eq_of_mem_set hx with g | g
  · exact h x g
  · omega
theorem dok_rep {B : Nat} (h : 0 < B) (n : Nat) : dok B (List.replicate n 0) := fun d hd => by rw [List.eq_of_mem_replicate hd]; exact h
theorem dv_app (B : Nat) (l m : List Nat) : dv B (l ++ m) = dv B l + B ^ l.length * dv B m := by
  induction l with
  | nil => simp [dv]
  | cons d l ih =>
    simp only [List.cons_append, dv, List.length_cons, ih, Nat.pow_succ]
    rw [Nat.mul_add, Nat.add_assoc, ← Nat.mul_assoc, Nat.mul_comm B (B ^ l.length)]
theorem dv_zeros (B n : Nat) : dv B (List.replicate n 0) = 0 := by
  induction n with
  | zero => rfl
  | succ n ih => simp [List.replicate_succ, dv, ih]
theorem dv_lt {B : Nat} (_hB : 0 < B) (l : List Nat) (h : dok B l) : dv B l < B ^ l.length := by
  induction l with
  | nil => simp [dv]
  | cons d l ih =>
    obtain ⟨h1, h2⟩ := dok_cons.1 h
    have h3 := ih h2
    simp only [dv, List.length_cons, Nat.pow_succ]
    have : B * (dv B l + 1) ≤ B * B ^ l.length := Nat.mul_le_mul_left _ h3
    rw [Nat.mul_add, Nat.mul_one] at this
    rw [Nat.mul_comm (B ^ l.length) B]
    omega
theorem dv_take_succ (B : Nat) (l : List Nat) (i d : Nat) (h : l[i]? = some d) : dv B (l.take (i + 1)) = dv B (l.take i) + B ^ i * d := by
  obtain ⟨hi, he⟩ := List.getElem?_eq_some_iff.1 h
  rw [List.take_succ_eq_append_getElem hi, dv_app, List.length_take, Nat.min_eq_left (by omega), he]
  simp [dv]
theorem dv_drop_cons (B : Nat) (l : List Nat) (i d : Nat) (h : l[i]? = some d) : dv B (l.drop i) = d + B * dv B (l.drop (i + 1)) := by
  obtain ⟨hi, he⟩ := List.getElem?_eq_some_iff.1 h
  rw [List.drop_eq_getElem_cons hi, he]; rfl
theorem dv_split (B : Nat) (l : List Nat) (i : Nat) : dv B l = dv B (l.take i) + B ^ (min i l.length) * dv B (l.drop i) := by
  conv => lhs; rw [← List.take_append_drop i l]
  rw [dv_app, List.length_take]
theorem dv_inj {B : Nat} (hB : 0 < B) : ∀ (l m : List Nat), l.length = m.length → dok B l → dok B m → dv B l = dv B m → l = m
  | [], [], _, _, _, _ => rfl
  | [], _ :: _, h, _, _, _ => by simp at h
  | _ :: _, [], h, _, _, _ => by simp at h
  | d :: l, e :: m, h, hl, hm, hv => by
    obtain ⟨h1, h2⟩ := dok_cons.1 hl
    obtain ⟨h3, h4⟩ := dok_cons.1 hm
    simp only [dv] at hv
    have e1 : d % B = e % B := by
      have := congrArg (· % B) hv
      simpa [Nat.add_mul_mod_self_left] using this
    rw [Nat.mod_eq_of_lt h1, Nat.mod_eq_of_lt h3] at e1
    subst e1
    have e2 : B * dv B l = B * dv B m := by omega
    have := Nat.eq_of_mul_eq_mul_left hB e2
    rw [dv_inj hB l m (by simpa using h) h2 h4 this]
/-- No zero at the end. -/
def nmz (l : List Nat) : Prop := ∀ d, l[l.length - 1]? = some d → d ≠ 0
theorem nmz_nil : nmz [] := fun d h => by simp at h
theorem nmz_low {B : Nat} (_hB : 0 < B) (l : List Nat) (h : nmz l) (hl : 0 < l.length) : B ^ (l.length - 1) ≤ dv B l := by
  have hg : l[l.length - 1]? = some l[l.length - 1] := List.getElem?_eq_getElem (by omega)
  have h1 := h _ hg
  have h2 := dv_take_succ B l (l.length - 1) _ hg
  rw [show l.length - 1 + 1 = l.length by omega, List.take_length] at h2
  have h3 : B ^ (l.length - 1) * 1 ≤ B ^ (l.length - 1) * l[l.length - 1] := Nat.mul_le_mul_left _ (by omega)
  omega
theorem nmz_len {B : Nat} (hB : 1 < B) (l m : List Nat) (hl : dok B l) (_hm : dok B m) (n1 : nmz m) (h : l.length < m.length) : dv B l < dv B m := by
  have h1 := dv_lt (by omega) l hl
  have h2 := nmz_low (by omega : 0 < B) m n1 (by omega)
  have h3 : B ^ l.length ≤ B ^ (m.length - 1) := Nat.pow_le_pow_right (by omega) (by omega)
  omega
theorem nmz_inj {B : Nat} (hB : 1 < B) (l m : List Nat) (hl : dok B l) (hm : dok B m) (n1 : nmz l) (n2 : nmz m) (hv : dv B l = dv B m) : l = m := by
  refine dv_inj (by omega) l m ?_ hl hm hv
  rcases Nat.lt_trichotomy l.length m.length with h | h | h
  · have := nmz_len hB l m hl hm n2 h; omega
  · exact h
  · have := nmz_len hB m l hm hl n1 h; omega
theorem nmz_zero {B : Nat} (hB : 1 < B) (l : List Nat) (n1 : nmz l) : dv B l = 0 ↔ l = [] := by
  constructor
  · intro h
    cases l with
    | nil => rfl
    | cons d l =>
      have := nmz_low (by omega : 0 < B) (d :: l) n1 (by simp)
      have h2 : 0 < B ^ ((d :: l).length - 1) := Nat.pow_pos (by omega)
      omega
  · intro h; subst h; rfl
/-- What is left of a list without the zeros at its end. -/
theorem trim_dv (B : Nat) (l : List Nat) (k : Nat) (hk : k ≤ l.length) (hz : ∀ j d, k ≤ j → l[j]? = some d → d = 0) : dv B (l.take k) = dv B l := by
  have h2 : l.drop k = List.replicate (l.length - k) 0 := by
    apply List.ext_getElem?
    intro i
    rw [List.getElem?_drop, List.getElem?_replicate]
    split
    · rename_i h
      have hg : l[k + i]? = some l[k + i] := List.getElem?_eq_getElem (by omega)
      rw [hg, hz _ _ (by omega) hg]
    · rw [List.getElem?_eq_none_iff.2 (by omega)]
  rw [dv_split B l k, h2, dv_zeros, Nat.mul_zero, Nat.add_zero]
theorem trim_nmz (l : List Nat) (k : Nat) (hk : k ≤ l.length) (h : ∀ d, 0 < k → l[k - 1]? = some d → d ≠ 0) : nmz (l.take k) := by
  intro d hd
  rw [List.length_take, Nat.min_eq_left hk, List.getElem?_take] at hd
  split at hd
  · exact h d (by omega) hd
  · cases hd
theorem dv_set {B : Nat} : ∀ (l : List Nat) (i d old : Nat), l[i]? = some old → dv B (l.set i d) + B ^ i * old = dv B l + B ^ i * d
  | [], _, _, _, h => by simp at h
  | x :: l, 0, d, old, h => by
    obtain rfl : x = old := by simpa using h
    simp only [List.set_cons_zero, dv, Nat.pow_zero, Nat.one_mul]
    omega
  | x :: l, i + 1, d, old, h => by
    have ih := dv_set (B := B) l i d old (by simpa using h)
    simp only [List.set_cons_succ, dv, Nat.pow_succ]
    rw [Nat.mul_comm (B ^ i) B, Nat.mul_assoc, Nat.mul_assoc]
    have := congrArg (B * ·) ih
    simp only [Nat.mul_add] at this
    omega
theorem dv_take_getD (B : Nat) (l : List Nat) (i : Nat) : dv B (l.take (i + 1)) = dv B (l.take i) + B ^ i * l.getD i 0 := by
  by_cases h : i < l.length
  · have hg : l[i]? = some l[i] := List.getElem?_eq_getElem h
    rw [dv_take_succ B l i _ hg]
    simp [List.getD, hg]
  · rw [List.take_of_length_le (by omega), List.take_of_length_le (by omega)]
    simp [List.getD, List.getElem?_eq_none_iff.2 (by omega : l.length ≤ i)]
theorem take_set_le (r : List Nat) (i s k : Nat) (h : k ≤ i) : (r.set i s).take k = r.take k := by
  apply List.ext_getElem?
  intro j
  rw [List.getElem?_take, List.getElem?_take]
  split
  · rw [List.getElem?_set_ne (by omega)]
  · rfl
theorem set_step (B : Nat) (r : List Nat) (i s : Nat) (hi : i < r.length) : dv B ((r.set i s).take (i + 1)) = dv B (r.take i) + B ^ i * s := by
  rw [dv_take_succ B (r.set i s) i s (by rw [List.getElem?_set_self hi]), take_set_le r i s i (Nat.le_refl _)]
theorem getD_lt {B : Nat} (hB : 0 < B) {l : List Nat} (h : dok B l) (i : Nat) : l.getD i 0 < B := by
  by_cases hi : i < l.length
  · simp only [List.getD, List.getElem?_eq_getElem hi, Option.getD_some]
    exact h _ (List.getElem_mem hi)
  · simp only [List.getD, List.getElem?_eq_none_iff.2 (by omega : l.length ≤ i), Option.getD_none]
    exact hB
/-- One step of a sum with a carry. -/
theorem carry_step (B P r c x y t : Nat) (ht : t = c + y) (h : r + P * c = x) : r + P * (t % B) + P * B * (t / B) = x + P * y := by
  have h1 : t % B + B * (t / B) = t := Nat.mod_add_div t B
  have h2 : P * (t % B) + P * B * (t / B) = P * t := by rw [Nat.mul_assoc, ← Nat.mul_add, h1]
  rw [Nat.add_assoc, h2, ht, Nat.mul_add]
  omega
/-- One step of a difference with a borrow. -/
theorem borrow_step (B P r b a s bi ai c c' : Nat) (hs : s + bi + c = ai + B * c') (h : r + b = a + P * c) : (r + P * s) + (b + P * bi) = (a + P * ai) + P * B * c' := by
  have h1 := congrArg (P * ·) hs
  simp only [Nat.mul_add, ← Nat.mul_assoc] at h1
  omega
/-- The order of two lists without zeros at their ends. -/
theorem cmp_top {B : Nat} (hB : 0 < B) (a b : List Nat) (i x y : Nat) (ha : dok B a) (_hb : dok B b) (hx : a[i]? = some x) (hy : b[i]? = some y) (he : a.drop (i + 1) = b.drop (i + 1)) (h : x < y) : dv B a < dv B b := by
  have hi := (List.getElem?_eq_some_iff.1 hx).1
  have hj := (List.getElem?_eq_some_iff.1 hy).1
  have h1 := dv_split B a i
  have h2 := dv_split B b i
  rw [dv_drop_cons B a i x hx, Nat.min_eq_left (by omega)] at h1
  rw [dv_drop_cons B b i y hy, Nat.min_eq_left (by omega), ← he] at h2
  have h3 := dv_lt hB (a.take i) (dok_take ha i)
  rw [List.length_take, Nat.min_eq_left (by omega)] at h3
  have h4 : B ^ i * (x + 1 + B * dv B (a.drop (i + 1))) ≤ B ^ i * (y + B * dv B (a.drop (i + 1))) := Nat.mul_le_mul_left _ (by omega)
  rw [h1, h2]
  have h5 : B ^ i * (x + 1 + B * dv B (a.drop (i + 1))) = B ^ i * (x + B * dv B (a.drop (i + 1))) + B ^ i := by
    rw [show x + 1 + B * dv B (a.drop (i + 1)) = (x + B * dv B (a.drop (i + 1))) + 1 by omega, Nat.mul_add, Nat.mul_one]
  omega
theorem add_round {B : Nat} (R D E : List Nat) (i c d e : Nat) (hi : i < R.length) (hd : D.getD i 0 = d) (he : E.getD i 0 = e) (h : dv B (R.take i) + B ^ i * c = dv B (D.take i) + dv B (E.take i)) :
    dv B ((R.set i ((c + d + e) % B)).take (i + 1)) + B ^ (i + 1) * ((c + d + e) / B) = dv B (D.take (i + 1)) + dv B (E.take (i + 1)) := by
  rw [set_step B R i _ hi, dv_take_getD, dv_take_getD, hd, he, Nat.pow_succ]
  have := carry_step B (B ^ i) (dv B (R.take i)) c _ (d + e) (c + d + e) (by omega) h
  rw [this, Nat.mul_add]
  omega
theorem add_done {B : Nat} (R D E : List Nat) (n c : Nat) (hR : R.length = n + 1) (hD : D.length = n) (hE : E.length ≤ n) (h : dv B (R.take n) + B ^ n * c = dv B (D.take n) + dv B (E.take n)) : dv B (R.set n c) = dv B D + dv B E := by
  have h1 := set_step B R n c (by omega)
  rw [List.take_of_length_le (by rw [List.length_set]; omega)] at h1
  rw [List.take_of_length_le (by omega : D.length ≤ n), List.take_of_length_le hE] at h
  omega
theorem sub_round {B : Nat} (R D E : List Nat) (i c d e s c' : Nat) (hi : i < R.length) (hd : D.getD i 0 = d) (he : E.getD i 0 = e) (hs : s + e + c = d + B * c') (h : dv B (R.take i) + dv B (E.take i) = dv B (D.take i) + B ^ i * c) :
    dv B ((R.set i s).take (i + 1)) + dv B (E.take (i + 1)) = dv B (D.take (i + 1)) + B ^ (i + 1) * c' := by
  rw [set_step B R i _ hi, dv_take_getD, dv_take_getD, hd, he, Nat.pow_succ]
  have := borrow_step B (B ^ i) (dv B (R.take i)) (dv B (E.take i)) (dv B (D.take i)) s e d c c' hs h
  omega
end Go.Proofs.YtndkcimdbidgaaaDoor
