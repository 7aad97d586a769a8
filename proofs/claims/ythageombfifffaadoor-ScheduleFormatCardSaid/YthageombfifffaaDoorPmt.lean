/- Lines of a schedule: the arithmetic. -/
import Derived.Test.YthageombfifffaaDoorFmt
import Derived.Lib.SplitLaws
import Derived.Lib.AtoiAllCases
namespace Go.Proofs.YthageombfifffaaDoor
open Go.ChangeShapes Go.WideShapes Go.ChangeAt Go.RowKit Go.ChangeMaps

theorem dec_split (u : Nat) (h : ¬ u < 10) : Lib.decDigits u = Lib.decDigits (u / 10) ++ [UInt8.ofNat (48 + u % 10)] := by
  conv => lhs; unfold Lib.decDigits
  rw [dif_neg h]
theorem dec_one (u : Nat) (h : u < 10) : Lib.decDigits u = [UInt8.ofNat (48 + u)] := by
  conv => lhs; unfold Lib.decDigits
  rw [dif_pos h]
theorem decDigits_ne (u : Nat) : Lib.decDigits u ≠ [] := by
  unfold Lib.decDigits; split <;> simp

theorem dig_toNat (d : Nat) (h : d < 10) : (UInt8.ofNat (48 + d)).toNat = 48 + d := by rw [UInt8.toNat_ofNat']; omega
theorem dig_mem (u : Nat) : ∀ c ∈ Lib.decDigits u, 48 ≤ c.toNat ∧ c.toNat ≤ 57 := by
  induction u using Nat.strongRecOn with
  | ind u ih =>
    intro c hc
    by_cases h10 : u < 10
    · rw [dec_one u h10, List.mem_singleton] at hc
      subst hc; rw [dig_toNat u h10]; omega
    · rw [dec_split u h10, List.mem_append, List.mem_singleton] at hc
      rcases hc with hc | rfl
      · exact ih (u / 10) (by omega) c hc
      · rw [dig_toNat _ (by omega)]; omega
theorem parse_step (acc d : Nat) (r : List UInt8) (hd : d < 10) (h : acc * 10 + d < 18446744073709551616) : Lib.parseUint10 acc (UInt8.ofNat (48 + d) :: r) = Lib.parseUint10 (acc * 10 + d) r := by
  rw [Lib.parseUint10, dig_toNat d hd, if_pos ⟨by omega, by omega⟩, if_neg (by omega), show 48 + d - 48 = d by omega, if_neg (by omega)]
theorem parse_dec (u : Nat) : u < 18446744073709551616 → ∀ r, Lib.parseUint10 0 (Lib.decDigits u ++ r) = Lib.parseUint10 u r := by
  induction u using Nat.strongRecOn with
  | ind u ih =>
    intro h r
    by_cases h10 : u < 10
    · rw [dec_one u h10]
      have := parse_step 0 u r h10 (by omega)
      rw [Nat.zero_mul, Nat.zero_add] at this
      exact this
    · rw [dec_split u h10, List.append_assoc, ih (u / 10) (by omega) (by omega)]
      have := parse_step (u / 10) (u % 10) r (by omega) (by omega)
      rw [show u / 10 * 10 + u % 10 = u by omega] at this
      exact this
theorem mag_dec (u : Nat) (h : u < 18446744073709551616) : Lib.parseMag (Lib.decDigits u) = .ok u := by
  unfold Lib.parseMag
  rw [if_neg (decDigits_ne u)]
  have := parse_dec u h []
  rw [List.append_nil] at this
  rw [this]; rfl

theorem atoi_dec (u : Nat) (h : u ≤ 9223372036854775807) : Lib.atoiAll (Lib.decDigits u) = .ok (u : Int) := by
  have hm := mag_dec u (by omega)
  obtain ⟨c, r, hc⟩ : ∃ c r, Lib.decDigits u = c :: r := by
    cases hd : Lib.decDigits u with
    | nil => exact absurd hd (decDigits_ne u)
    | cons c r => exact ⟨c, r, rfl⟩
  have hg := dig_mem u c (by rw [hc]; exact List.mem_cons_self ..)
  rw [hc] at hm ⊢
  rw [Lib.atoiAll_plain c r (by omega) (by omega), hm]
  show (if 9223372036854775808 ≤ u then Lib.NumEnd.range else Lib.NumEnd.ok (u : Int)) = _
  rw [if_neg (by omega)]
/-- The words of a text. -/
def words (t : List UInt8) : List (List UInt8) := Lib.splitK [32] 0 (Lib.count t [32]) t
theorem index_no (t : List UInt8) (h : (32 : UInt8) ∉ t) : Lib.index t [32] = -1 := by
  induction t with
  | nil => rfl
  | cons b t ih =>
    simp only [List.mem_cons, not_or] at h
    have hp : ([32] : List UInt8).isPrefixOf (b :: t) = false := by simp [List.isPrefixOf, h.1]
    rw [Lib.index, hp, ih h.2]; simp
theorem index_at (p r : List UInt8) (h : (32 : UInt8) ∉ p) : Lib.index (p ++ 32 :: r) [32] = (p.length : Int) := by
  induction p with
  | nil => rw [List.nil_append, Lib.index]; simp [List.isPrefixOf]
  | cons b p ih =>
    simp only [List.mem_cons, not_or] at h
    have hp : ([32] : List UInt8).isPrefixOf (b :: (p ++ 32 :: r)) = false := by simp [List.isPrefixOf, h.1]
    rw [List.cons_append, Lib.index, hp, ih h.2]
    have hl : (b :: p).length = p.length + 1 := rfl
    rw [hl, if_neg (by decide), if_neg (by simp)]
    omega
theorem words_no (t : List UInt8) (h : (32 : UInt8) ∉ t) : words t = [t] := by
  unfold words
  rw [Lib.count_one, List.count_eq_zero.2 h]; rfl
theorem words_cons (p r : List UInt8) (h : (32 : UInt8) ∉ p) : words (p ++ 32 :: r) = p :: words r := by
  unfold words
  have hc : (p ++ 32 :: r).count (32 : UInt8) = r.count 32 + 1 := by
    rw [List.count_append, List.count_eq_zero.2 h, List.count_cons_self]; omega
  rw [Lib.count_one, Lib.count_one, hc, Lib.splitK, index_at p r h, if_neg (by simp)]
  have e1 : ((p.length : Int)).toNat = p.length := by omega
  have e2 : (p ++ 32 :: r).drop (p.length + 1) = r := by rw [← List.drop_drop, List.drop_left]; rfl
  rw [e1, Nat.add_zero, List.take_left]
  show _ :: Lib.splitK [32] 0 (r.count 32) ((p ++ 32 :: r).drop (p.length + 1)) = _
  rw [e2]
theorem dec_no32 (u : Nat) : (32 : UInt8) ∉ Lib.decDigits u := fun h => by
  have := dig_mem u 32 h
  have e : (32 : UInt8).toNat = 32 := rfl
  omega
theorem dec_no10 (u : Nat) : (10 : UInt8) ∉ Lib.decDigits u := fun h => by
  have := dig_mem u 10 h
  have e : (10 : UInt8).toNat = 10 := rfl
  omega
/-- The value of a word, whatever it is. -/
def atoiV (l : List UInt8) : Int := match Lib.atoiAll l with | .ok v => v | .range => Lib.atoiSat l | _ => 0
theorem atoiV_dec (u : Nat) (h : u ≤ 9223372036854775807) : atoiV (Lib.decDigits u) = u := by unfold atoiV; rw [atoi_dec u h]
theorem atoiV_bd (l : List UInt8) : -9223372036854775808 ≤ atoiV l ∧ atoiV l ≤ 9223372036854775807 := by
  unfold atoiV
  split
  · rename_i v h; exact Lib.atoiAll_bounds h
  · exact Lib.atoiSat_bounds l
  · omega
def numW (W : List (List UInt8)) (i : Nat) : Int := match W[i]? with | some x => atoiV x | none => 0
theorem numW_bd (W : List (List UInt8)) (i : Nat) : -9223372036854775808 ≤ numW W i ∧ numW W i ≤ 9223372036854775807 := by
  unfold numW
  split
  · exact atoiV_bd _
  · omega
def tStep : List UInt8 := [115, 116, 101, 112]
def tCheck : List UInt8 := [99, 104, 101, 99, 107, 112, 111, 105, 110, 116]
def tRecov : List UInt8 := [114, 101, 99, 111, 118, 101, 114]
def tCrash : List UInt8 := [99, 114, 97, 115, 104]
/-- What the program reads out of a line. -/
def actS (t : List UInt8) : Act :=
  if (words t).head? = some tStep then ⟨1, numW (words t) 1, 0, 0⟩
  else if (words t).head? = some tCheck then ⟨2, 0, 0, 0⟩
  else if (words t).head? = some tRecov then ⟨4, 0, 0, 0⟩
  else if (words t).head? = some tCrash then ⟨3, 0, numW (words t) 1, numW (words t) 2⟩
  else ⟨0, 0, 0, 0⟩

theorem lineS_step (n : Nat) (w b : Int) : lineS ⟨1, n, w, b⟩ = tStep ++ 32 :: Lib.decDigits n := by
  unfold lineS; rw [if_pos rfl, Lib.itoa_nonneg]; rfl
theorem lineS_crash (n m : Nat) (h : 0 < n) (s : Int) : lineS ⟨3, s, n, m⟩ = tCrash ++ 32 :: (Lib.decDigits n ++ 32 :: Lib.decDigits m) := by
  unfold lineS
  rw [if_neg (by simp), if_neg (by simp), if_neg (by simp), if_neg (by simp; omega), Lib.itoa_nonneg, Lib.itoa_nonneg]
  simp [tCrash]
/-- The valid actions. -/
theorem act_eq {k s v b k' s' v' b' : Int} (h1 : k = k') (h2 : s = s') (h3 : v = v') (h4 : b = b') : (⟨k, s, v, b⟩ : Act) = ⟨k', s', v', b'⟩ := by rw [h1, h2, h3, h4]
theorem vA_cases (a : Act) (h : vA a 8 = true) : (∃ n : Nat, n < 8 ∧ a = ⟨1, n, 0, 0⟩) ∨ a = ⟨2, 0, 0, 0⟩ ∨ a = ⟨4, 0, 0, 0⟩ ∨ a = ⟨3, 0, 0, 0⟩ ∨ ∃ n m : Nat, 0 < n ∧ n ≤ 1000000 ∧ m ≤ 64 ∧ a = ⟨3, 0, n, m⟩ := by
  rcases a with ⟨k, s, v, b⟩
  unfold vA at h
  simp only at h
  by_cases h1 : k = 1
  · rw [if_pos h1] at h
    simp only [Bool.and_eq_true, decide_eq_true_eq] at h
    exact .inl ⟨s.toNat, by omega, act_eq h1 (by omega) h.1.2 h.2⟩
  · rw [if_neg h1] at h
    by_cases h2 : k = 2 ∨ k = 4
    · rw [if_pos h2] at h
      simp only [Bool.and_eq_true, decide_eq_true_eq] at h
      rcases h2 with h2 | h2
      · exact .inr (.inl (act_eq h2 h.1.1 h.1.2 h.2))
      · exact .inr (.inr (.inl (act_eq h2 h.1.1 h.1.2 h.2)))
    · rw [if_neg h2] at h
      by_cases h3 : k = 3
      · rw [if_pos h3] at h
        simp only [Bool.and_eq_true, Bool.or_eq_true, decide_eq_true_eq] at h
        obtain ⟨h4, h5 | h5⟩ := h
        · exact .inr (.inr (.inr (.inl (act_eq h3 h4 h5.1 h5.2))))
        · exact .inr (.inr (.inr (.inr ⟨v.toNat, b.toNat, by omega, by omega, by omega, act_eq h3 h4 (by omega) (by omega)⟩)))
      · rw [if_neg h3] at h; cases h
theorem head_if {α : Type} {x y : List UInt8} {l : List (List UInt8)} {p q : α} : (if (x :: l).head? = some y then p else q) = if x = y then p else q := by
  rw [List.head?_cons]
  by_cases h : x = y
  · rw [if_pos h, if_pos (by rw [h])]
  · rw [if_neg h, if_neg (fun e => h (Option.some.inj e))]
theorem actS_inv (a : Act) (h : vA a 8 = true) : actS (lineS a) = a := by
  rcases vA_cases a h with ⟨n, hn, rfl⟩ | rfl | rfl | rfl | ⟨n, m, h0, h1, h2, rfl⟩
  · rw [lineS_step]
    unfold actS
    rw [words_cons _ _ (by decide), words_no _ (dec_no32 n), head_if, if_pos rfl]
    simp only [numW, List.getElem?_cons_succ, List.getElem?_cons_zero, atoiV_dec n (by omega)]
  · show actS tCheck = _
    unfold actS
    rw [words_no _ (by decide), head_if, if_neg (by decide), head_if, if_pos rfl]
  · show actS tRecov = _
    unfold actS
    rw [words_no _ (by decide), head_if, if_neg (by decide), head_if, if_neg (by decide), head_if, if_pos rfl]
  · show actS tCrash = _
    unfold actS
    rw [words_no _ (by decide), head_if, if_neg (by decide), head_if, if_neg (by decide), head_if, if_neg (by decide), head_if, if_pos rfl]
    rfl
  · rw [lineS_crash n m h0]
    unfold actS
    rw [words_cons _ _ (by decide), words_cons _ _ (dec_no32 n), words_no _ (dec_no32 m), head_if, if_neg (by decide), head_if, if_neg (by decide), head_if, if_neg (by decide), head_if, if_pos rfl]
    simp only [numW, List.getElem?_cons_succ, List.getElem?_cons_zero, atoiV_dec n (by omega), atoiV_dec m (by omega)]
end Go.Proofs.YthageombfifffaaDoor
