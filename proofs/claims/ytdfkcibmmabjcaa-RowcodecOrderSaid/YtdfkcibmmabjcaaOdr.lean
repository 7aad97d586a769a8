/- The encodings of valid rows are ordered as the rows. -/
import Derived.Test.YtdfkcibmmabjcaaVld
import Derived.Test.YtdfkcibmmabjcaaOrd
namespace Go.Proofs.Ytdfkcibmmabjcaa
open Go.ChangeShapes Go.WideShapes Go.ChangeAt Go.RowKit Go.ChangeMaps

theorem lex_app {α : Type} (f : α → α → Int) : ∀ (l m A C : List α), l.length = m.length → lex f (l ++ A) (m ++ C) = if lex f l m = 0 then lex f A C else lex f l m
  | [], [], A, C, _ => by simp [lex]
  | [], _ :: _, _, _, h => by simp at h
  | _ :: _, [], _, _, h => by simp at h
  | a :: l, b :: m, A, C, h => by
    have ih := lex_app f l m A C (by simpa using h)
    have e2 : lex f (a :: l ++ A) (b :: m ++ C) = if f a b = 0 then lex f (l ++ A) (m ++ C) else f a b := rfl
    have e3 : lex f (a :: l) (b :: m) = if f a b = 0 then lex f l m else f a b := rfl
    rw [e2, e3]
    by_cases h0 : f a b = 0
    · rw [if_pos h0, if_pos h0, ih]
    · rw [if_neg h0, if_neg h0, if_neg h0]
theorem tcmp_valr : ∀ l m : List UInt8, l.length = m.length → tcmp l m = icmp (valr l) (valr m)
  | [], [], _ => rfl
  | [], _ :: _, h => by simp at h
  | _ :: _, [], h => by simp at h
  | x :: l, y :: m, h => by
    have hl : l.length = m.length := by simpa using h
    have ih := tcmp_valr l m hl
    obtain ⟨p, q⟩ := valr_bd l
    obtain ⟨p', q'⟩ := valr_bd m
    have ex : valr (x :: l) = (x.toNat : Int) * 256 ^ m.length + valr l := by simp only [valr]; rw [hl]
    have ey : valr (y :: m) = (y.toNat : Int) * 256 ^ m.length + valr m := rfl
    rw [ex, ey]
    rw [hl] at q
    clear ex ey
    have hP := pow_pos' m.length
    generalize (256 : Int) ^ m.length = P at *
    have e : tcmp (x :: l) (y :: m) = if icmp x.toNat y.toNat = 0 then tcmp l m else icmp x.toNat y.toNat := rfl
    rw [e]
    rcases Nat.lt_trichotomy x.toNat y.toNat with c | c | c
    · have h2 : ((x.toNat : Int) + 1) * P ≤ (y.toNat : Int) * P := Int.mul_le_mul_of_nonneg_right (by omega) (by omega)
      rw [Int.add_mul] at h2
      have e1 : icmp (x.toNat : Int) y.toNat = -1 := by unfold icmp; rw [if_pos (by omega)]
      rw [e1, if_neg (by decide)]
      unfold icmp; rw [if_pos (by omega)]
    · rw [if_pos ((icmp_zero _ _).2 (by omega)), ih]
      obtain rfl : x = y := UInt8.toNat.inj c
      unfold icmp
      simp
    · have h2 : ((y.toNat : Int) + 1) * P ≤ (x.toNat : Int) * P := Int.mul_le_mul_of_nonneg_right (by omega) (by omega)
      rw [Int.add_mul] at h2
      have e1 : icmp (x.toNat : Int) y.toNat = 1 := by unfold icmp; rw [if_neg (by omega), if_pos (by omega)]
      rw [e1, if_neg (by decide)]
      unfold icmp; rw [if_neg (by omega), if_pos (by omega)]
theorem tcmp_num8 (a b : Int) (a0 : 0 ≤ a) (a1 : a < 18446744073709551616) (b0 : 0 ≤ b) (b1 : b < 18446744073709551616) : tcmp (num8 a) (num8 b) = icmp a b := by
  rw [tcmp_valr (num8 a) (num8 b) rfl, ← val8_is, ← val8_is, val8_num8 a a0 a1, val8_num8 b b0 b1]
theorem icmp_add (a b c : Int) : icmp (a + c) (b + c) = icmp a b := by unfold icmp; simp

theorem pr_cons {x : UInt8} {l : List UInt8} (h : prB (x :: l) = true) : 32 ≤ x.toNat ∧ x.toNat ≤ 126 ∧ prB l = true := by
  unfold prB at h ⊢
  simp only [List.all_cons, Bool.and_eq_true, decide_eq_true_eq] at h
  exact ⟨h.1.1, h.1.2, h.2⟩
theorem escs_pr : ∀ l : List UInt8, prB l = true → escs l = l
  | [], _ => rfl
  | x :: l, h => by
    obtain ⟨h1, h2, h3⟩ := pr_cons h
    rw [escs_cons, escs_pr l h3]
    have e : esc x = [x] := by
      unfold esc
      rw [if_neg (fun e => by subst e; exact absurd h1 (by decide)), if_neg (fun e => by subst e; exact absurd h1 (by decide))]
    rw [e]; rfl
theorem text_cmp : ∀ (s t A C : List UInt8), prB s = true → prB t = true → tcmp (s ++ ([0] ++ A)) (t ++ ([0] ++ C)) = if tcmp s t = 0 then tcmp A C else tcmp s t
  | [], [], A, C, _, _ => by simp [tcmp, lex, ucmp, icmp]
  | [], y :: t, A, C, _, h => by
    obtain ⟨h1, _, _⟩ := pr_cons h
    have e : ucmp 0 y = -1 := by unfold ucmp icmp; rw [if_pos (by have : (0 : UInt8).toNat = 0 := rfl; omega)]
    have e2 : tcmp ([] ++ ([0] ++ A)) (y :: t ++ ([0] ++ C)) = if ucmp 0 y = 0 then tcmp A (t ++ ([0] ++ C)) else ucmp 0 y := rfl
    have e3 : tcmp [] (y :: t) = -1 := rfl
    rw [e2, e3, e]; rfl
  | x :: s, [], A, C, h, _ => by
    obtain ⟨h1, _, _⟩ := pr_cons h
    have e : ucmp x 0 = 1 := by unfold ucmp icmp; rw [if_neg (by have : (0 : UInt8).toNat = 0 := rfl; omega), if_pos (by have : (0 : UInt8).toNat = 0 := rfl; omega)]
    have e2 : tcmp (x :: s ++ ([0] ++ A)) ([] ++ ([0] ++ C)) = if ucmp x 0 = 0 then tcmp (s ++ ([0] ++ A)) C else ucmp x 0 := rfl
    have e3 : tcmp (x :: s) [] = 1 := rfl
    rw [e2, e3, e]; rfl
  | x :: s, y :: t, A, C, h, k => by
    have ih := text_cmp s t A C (pr_cons h).2.2 (pr_cons k).2.2
    have e2 : tcmp (x :: s ++ ([0] ++ A)) (y :: t ++ ([0] ++ C)) = if ucmp x y = 0 then tcmp (s ++ ([0] ++ A)) (t ++ ([0] ++ C)) else ucmp x y := rfl
    have e3 : tcmp (x :: s) (y :: t) = if ucmp x y = 0 then tcmp s t else ucmp x y := rfl
    rw [e2, e3]
    by_cases h0 : ucmp x y = 0
    · rw [if_pos h0, if_pos h0, ih]
    · rw [if_neg h0, if_neg h0, if_neg h0]
theorem cons_cmp (x y : UInt8) (l m : List UInt8) : tcmp ([x] ++ l) ([y] ++ m) = if icmp x.toNat y.toNat = 0 then tcmp l m else icmp x.toNat y.toNat := rfl
theorem valid_cases (x : V3) (h : x.valid = true) : (x.k = 0 ∧ x.n = 0 ∧ x.s.data.toList = [] ∧ x.enc = [1]) ∨ (x.k = 1 ∧ x.s.data.toList = [] ∧ x.enc = [2] ++ num8 (x.n + 9223372036854775808)) ∨ (x.k = 2 ∧ x.n = 0 ∧ prB x.s.data.toList = true ∧ x.s.size ≤ 16 ∧ x.enc = [3] ++ (x.s.data.toList ++ [0])) := by
  have e : x.s.data.toList.length = x.s.size := by simp
  unfold V3.valid at h
  unfold V3.enc encV
  by_cases h0 : x.k = 0
  · rw [if_pos h0] at h
    simp only [Bool.and_eq_true, decide_eq_true_eq] at h
    exact .inl ⟨h0, h.1, List.eq_nil_of_length_eq_zero (by omega), by rw [if_neg (by omega), if_neg (by omega)]⟩
  · rw [if_neg h0] at h
    by_cases h1 : x.k = 1
    · rw [if_pos h1] at h
      simp only [decide_eq_true_eq] at h
      exact .inr (.inl ⟨h1, List.eq_nil_of_length_eq_zero (by omega), by rw [if_pos h1]⟩)
    · rw [if_neg h1] at h
      by_cases h2 : x.k = 2
      · rw [if_pos h2] at h
        simp only [Bool.and_eq_true, decide_eq_true_eq] at h
        exact .inr (.inr ⟨h2, h.1.1, h.1.2, h.2, by rw [if_neg h1, if_pos h2, escs_pr _ h.1.2]⟩)
      · rw [if_neg h2] at h; cases h
theorem enc_cmp (x y : V3) (A C : List UInt8) (hx : x.valid = true) (hy : y.valid = true) (ox : x.ok) (oy : y.ok) : tcmp (x.enc ++ A) (y.enc ++ C) = if vcmp x y = 0 then tcmp A C else vcmp x y := by
  rcases valid_cases x hx with ⟨a, a2, a3, e⟩ | ⟨a, a3, e⟩ | ⟨a, a2, a3, _, e⟩ <;> rcases valid_cases y hy with ⟨b, b2, b3, f⟩ | ⟨b, b3, f⟩ | ⟨b, b2, b3, _, f⟩ <;> rw [e, f]
  · have : vcmp x y = 0 := by unfold vcmp; rw [a, b, a2, b2, a3, b3]; rfl
    rw [this, if_pos rfl]; rfl
  · have : vcmp x y = -1 := by unfold vcmp; rw [a, b]; rfl
    rw [this]; rfl
  · have : vcmp x y = -1 := by unfold vcmp; rw [a, b]; rfl
    rw [this]; rfl
  · have : vcmp x y = 1 := by unfold vcmp; rw [a, b]; rfl
    rw [this]; rfl
  · rw [List.append_assoc, List.append_assoc, cons_cmp, if_pos (by decide)]
    have h := lex_app ucmp (num8 (x.n + 9223372036854775808)) (num8 (y.n + 9223372036854775808)) A C rfl
    obtain ⟨_, _, x0, x1, _⟩ := ox
    obtain ⟨_, _, y0, y1, _⟩ := oy
    have h2 := tcmp_num8 (x.n + 9223372036854775808) (y.n + 9223372036854775808) (by omega) (by omega) (by omega) (by omega)
    rw [icmp_add] at h2
    have hv : vcmp x y = icmp x.n y.n := by
      unfold vcmp
      rw [a, b, a3, b3]
      by_cases h3 : x.n = y.n
      · rw [h3]; simp [icmp, tcmp, lex]
      · simp [h3]
    unfold tcmp at h2 ⊢
    rw [h, h2, hv]
  · have : vcmp x y = -1 := by unfold vcmp; rw [a, b]; rfl
    rw [this]; rfl
  · have : vcmp x y = 1 := by unfold vcmp; rw [a, b]; rfl
    rw [this]; rfl
  · have : vcmp x y = 1 := by unfold vcmp; rw [a, b]; rfl
    rw [this]; rfl
  · rw [List.append_assoc [3], List.append_assoc [3], cons_cmp, if_pos (by decide), List.append_assoc, List.append_assoc, text_cmp _ _ _ _ a3 b3]
    have hv : vcmp x y = tcmp x.s.data.toList y.s.data.toList := by unfold vcmp; rw [a, b, a2, b2]; simp
    rw [hv]
theorem enc_ne (x : V3) (h : x.valid = true) : ∃ c l, x.enc = c :: l := by
  rcases valid_cases x h with ⟨_, _, _, e⟩ | ⟨_, _, e⟩ | ⟨_, _, _, _, e⟩
  · exact ⟨_, _, e⟩
  · exact ⟨_, _, e⟩
  · exact ⟨_, _, e⟩
theorem encR_cons (x : V3) (R : List V3) : encR (x :: R) = x.enc ++ encR R := rfl
theorem row_cmp : ∀ (R S : List V3), (∀ x ∈ R, x.ok) → (∀ x ∈ S, x.ok) → R.all V3.valid = true → S.all V3.valid = true → tcmp (encR R) (encR S) = rcmp R S
  | [], [], _, _, _, _ => rfl
  | [], y :: S, _, _, _, k => by
    simp only [List.all_cons, Bool.and_eq_true] at k
    obtain ⟨c, l, e⟩ := enc_ne y k.1
    rw [encR_cons, e]; rfl
  | x :: R, [], _, _, h, _ => by
    simp only [List.all_cons, Bool.and_eq_true] at h
    obtain ⟨c, l, e⟩ := enc_ne x h.1
    rw [encR_cons, e]; rfl
  | x :: R, y :: S, hR, hS, h, k => by
    simp only [List.all_cons, Bool.and_eq_true] at h k
    have ih := row_cmp R S (fun x hx => hR x (List.mem_cons_of_mem _ hx)) (fun x hx => hS x (List.mem_cons_of_mem _ hx)) h.2 k.2
    rw [encR_cons, encR_cons, enc_cmp x y _ _ h.1 k.1 (hR x List.mem_cons_self) (hS y List.mem_cons_self), ih]
    rfl
end Go.Proofs.Ytdfkcibmmabjcaa
