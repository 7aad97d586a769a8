/- Literals read. -/
import Derived.Test.YtkigdglipoeaaaaDoorTxr
import Derived.Lib.ParseIntBTie
namespace Go.Proofs.YtkigdglipoeaaaaDoor
open Go.ChangeShapes Go.WideShapes Go.ChangeAt Go.RowKit Go.ChangeMaps

theorem dig_toNat (d : Nat) (h : d < 10) : (UInt8.ofNat (48 + d)).toNat = 48 + d := by rw [UInt8.toNat_ofNat']; omega
theorem dig_mem (u : Nat) : ∀ c ∈ Lib.decDigits u, 48 ≤ c.toNat ∧ c.toNat ≤ 57 := by
  induction u using Nat.strongRecOn with
  | ind u ih =>
    intro c hc
    by_cases h10 : u < 10
    · rw [dec_one u h10, List.mem_singleton] at hc
      subst hc; rw [dig_toNat u h10]; omega
    · rw [dec_split u h10, List.mem_append, List.mem_singleton] at hc
      rcases hc with hc | rfl
      · exact ih (u / 10) (by omega) c hc
      · rw [dig_toNat _ (by omega)]; omega
theorem parse_step (acc d : Nat) (r : List UInt8) (hd : d < 10) (h : acc * 10 + d < 18446744073709551616) : Lib.parseUint10 acc (UInt8.ofNat (48 + d) :: r) = Lib.parseUint10 (acc * 10 + d) r := by
  rw [Lib.parseUint10, dig_toNat d hd, if_pos ⟨by omega, by omega⟩, if_neg (by omega), show 48 + d - 48 = d by omega, if_neg (by omega)]
theorem parse_dec (u : Nat) : u < 18446744073709551616 → ∀ r, Lib.parseUint10 0 (Lib.decDigits u ++ r) = Lib.parseUint10 u r := by
  induction u using Nat.strongRecOn with
  | ind u ih =>
    intro h r
    by_cases h10 : u < 10
    · rw [dec_one u h10]
      have := parse_step 0 u r h10 (by omega)
      rw [Nat.zero_mul, Nat.zero_add] at this
      exact this
    · rw [dec_split u h10, List.append_assoc, ih (u / 10) (by omega) (by omega)]
      have := parse_step (u / 10) (u % 10) r (by omega) (by omega)
      rw [show u / 10 * 10 + u % 10 = u by omega] at this
      exact this
theorem mag_dec (u : Nat) (h : u < 18446744073709551616) : Lib.parseMag (Lib.decDigits u) = .ok u := by
  unfold Lib.parseMag
  rw [if_neg (decDigits_ne u)]
  have := parse_dec u h []
  rw [List.append_nil] at this
  rw [this]; rfl
theorem atoi_itoa (n : Int) (h0 : -9223372036854775808 ≤ n) (h1 : n ≤ 9223372036854775807) : Lib.parseIntB 64 (Lib.itoa n) = .ok n := by
  rw [Lib.parseIntB_64]
  by_cases hn : n < 0
  · obtain ⟨U, rfl⟩ : ∃ U : Nat, n = -(U : Int) := ⟨n.natAbs, by omega⟩
    rw [Lib.itoa_neg U (by omega)]
    have hm := mag_dec U (by omega)
    have e45 : (45 : UInt8).toNat = 45 := rfl
    unfold Lib.atoiAll
    simp only [e45, true_or, or_true, if_true, hm]
    rw [if_neg (by simp), if_neg (by omega)]
  · obtain ⟨U, rfl⟩ : ∃ U : Nat, n = (U : Int) := ⟨n.toNat, by omega⟩
    rw [Lib.itoa_nonneg]
    have hm := mag_dec U (by omega)
    obtain ⟨c, r, hc⟩ : ∃ c r, Lib.decDigits U = c :: r := by
      cases hd : Lib.decDigits U with
      | nil => exact absurd hd (decDigits_ne U)
      | cons c r => exact ⟨c, r, rfl⟩
    have hg := dig_mem U c (by rw [hc]; exact List.mem_cons_self ..)
    rw [hc] at hm ⊢
    unfold Lib.atoiAll
    have n45 : ¬ c.toNat = 45 := by omega
    have n43 : ¬ c.toNat = 43 := by omega
    simp only [n45, n43, or_self, if_false, hm]
    rw [if_neg (by omega), if_neg (by simp)]
/-- The number that the reference reads. -/
def rdStep (u : Int) (c : UInt8) : Int := if c.toNat = 45 then u else (10 * u + c.toNat - 48) % 18446744073709551616
def rdN (l : List UInt8) : Int := (l.take 20).foldl rdStep 0
theorem rd_dec (u : Nat) : u < 18446744073709551616 → (Lib.decDigits u).foldl rdStep 0 = u := by
  induction u using Nat.strongRecOn with
  | ind u ih =>
    intro h
    have st : ∀ (a : Int) (d : Nat), d < 10 → rdStep a (UInt8.ofNat (48 + d)) = (10 * a + d) % 18446744073709551616 := by
      intro a d hd
      unfold rdStep
      rw [dig_toNat d hd, if_neg (by omega)]
      congr 1
      push_cast; omega
    by_cases h10 : u < 10
    · rw [dec_one u h10, List.foldl_cons, List.foldl_nil, st 0 u h10]; omega
    · rw [dec_split u h10, List.foldl_append, ih (u / 10) (by omega) (by omega), List.foldl_cons, List.foldl_nil, st _ _ (by omega)]
      push_cast; omega
theorem nDigits_le : ∀ (k u : Nat), u < 10 ^ (k + 1) → Lib.nDigits u ≤ k + 1
  | 0, u, h => by rw [Lib.nDigits_small (by simpa using h)]; omega
  | k + 1, u, h => by
    by_cases h10 : u < 10
    · rw [Lib.nDigits_small h10]; omega
    · rw [Lib.nDigits_big h10]
      have := nDigits_le k (u / 10) (by rw [Nat.pow_succ] at h; omega)
      omega
theorem itoa_len20 (n : Int) (h0 : -9223372036854775808 ≤ n) (h1 : n ≤ 9223372036854775807) : (Lib.itoa n).length ≤ 20 := by
  by_cases hn : n < 0
  · obtain ⟨U, rfl⟩ : ∃ U : Nat, n = -(U : Int) := ⟨n.natAbs, by omega⟩
    rw [Lib.itoa_neg U (by omega), List.length_cons, Lib.decDigits_length]
    have := nDigits_le 18 U (by omega)
    omega
  · obtain ⟨U, rfl⟩ : ∃ U : Nat, n = (U : Int) := ⟨n.toNat, by omega⟩
    rw [Lib.itoa_nonneg, Lib.decDigits_length]
    have := nDigits_le 18 U (by omega)
    omega
/-- The text between quotes, as the reference reads it. -/
def strip : List UInt8 → List UInt8
  | a :: b :: m => if a = 39 then a :: strip m else a :: strip (b :: m)
  | _ => []
theorem strip_dbl : ∀ t : List UInt8, strip (dbl t ++ [39]) = t
  | [] => rfl
  | b :: t => by
    have ih := strip_dbl t
    have hne : ∃ c m, dbl t ++ [39] = c :: m := by
      cases h : dbl t ++ [39] with
      | nil => simp at h
      | cons c m => exact ⟨c, m, rfl⟩
    obtain ⟨c, m, hm⟩ := hne
    have e : dbl (b :: t) = (if b = 39 then [39, 39] else [b]) ++ dbl t := by unfold dbl; rw [List.flatMap_cons]
    rw [e, List.append_assoc]
    by_cases hb : b = 39
    · rw [if_pos hb, hm]
      show strip (39 :: 39 :: c :: m) = _
      rw [strip, if_pos rfl, ← hm, ih, hb]
    · rw [if_neg hb, hm]
      show strip (b :: c :: m) = _
      rw [strip, if_neg hb, ← hm, ih]
theorem count2_ne (b : UInt8) (m : List UInt8) (hb : b ≠ 39) : Lib.count (b :: m) [39, 39] = Lib.count m [39, 39] := by
  have hg := Lib.index_ge m [39, 39]
  have hi : Lib.index (b :: m) [39, 39] = if Lib.index m [39, 39] == -1 then -1 else Lib.index m [39, 39] + 1 := by
    rw [Lib.index, if_neg (by simp [List.isPrefixOf, Ne.symm hb])]
  by_cases h : Lib.index m [39, 39] = -1
  · rw [h] at hi
    rw [Lib.count_miss h, Lib.count_miss (by rw [hi]; rfl)]
  · have h2 : (Lib.index m [39, 39] == -1) = false := by simpa using h
    rw [h2] at hi
    obtain ⟨i, hx⟩ : ∃ i : Nat, Lib.index m [39, 39] = i := ⟨(Lib.index m [39, 39]).toNat, by omega⟩
    rw [Lib.count_hit (by simp) hx, Lib.count_hit (i := i + 1) (by simp) (by rw [hi, hx]; simp)]
    show 1 + Lib.count (List.drop (i + 1 + 2) (b :: m)) [39, 39] = 1 + Lib.count (List.drop (i + 2) m) [39, 39]
    rw [show i + 1 + 2 = (i + 2) + 1 by omega, List.drop_succ_cons]
theorem idx2_eq (m : List UInt8) : Lib.index (39 :: 39 :: m) [39, 39] = 0 := by
  rw [Lib.index, if_pos (by simp [List.isPrefixOf])]
theorem count2_dbl : ∀ t : List UInt8, Lib.count (dbl t) [39, 39] = t.count 39
  | [] => by rw [Lib.count_miss (by rfl)]; rfl
  | b :: t => by
    have ih := count2_dbl t
    have e : dbl (b :: t) = (if b = 39 then [39, 39] else [b]) ++ dbl t := by unfold dbl; rw [List.flatMap_cons]
    rw [e]
    by_cases hb : b = 39
    · subst hb
      rw [if_pos rfl]
      show Lib.count (39 :: 39 :: dbl t) _ = _
      rw [Lib.count_hit (i := 0) (by simp) (idx2_eq _), List.count_cons_self]
      show 1 + Lib.count (dbl t) _ = _
      rw [ih]; omega
    · rw [if_neg hb]
      show Lib.count (b :: dbl t) _ = _
      rw [count2_ne b _ hb, ih, List.count_cons_of_ne hb]
theorem undbl_k : ∀ (t : List UInt8) (k : Nat), t.count 39 ≤ k → Lib.replaceK [39, 39] [39] k (dbl t) = t
  | [], 0, _ => rfl
  | [], k + 1, _ => rfl
  | b :: t, k, h => by
    have e : dbl (b :: t) = (if b = 39 then [39, 39] else [b]) ++ dbl t := by unfold dbl; rw [List.flatMap_cons]
    rw [e]
    by_cases hb : b = 39
    · subst hb
      rw [List.count_cons_self] at h
      obtain ⟨j, rfl⟩ : ∃ j, k = j + 1 := ⟨k - 1, by omega⟩
      rw [if_pos rfl]
      show Lib.replaceK _ _ _ (39 :: 39 :: dbl t) = _
      rw [Lib.replaceK_hit [39, 39] [39] j (39 :: 39 :: dbl t) 0 (idx2_eq _)]
      show [] ++ [39] ++ Lib.replaceK [39, 39] [39] j (dbl t) = _
      rw [undbl_k t j (by omega)]; rfl
    · rw [List.count_cons_of_ne hb] at h
      have ih := undbl_k t k h
      rw [if_neg hb]
      show Lib.replaceK _ _ _ (b :: dbl t) = _
      rcases k with _ | k
      · have ih0 : dbl t = t := ih
        show b :: dbl t = _
        rw [ih0]
      · have hg := Lib.index_ge (dbl t) [39, 39]
        have hi : Lib.index (b :: dbl t) [39, 39] = if Lib.index (dbl t) [39, 39] == -1 then -1 else Lib.index (dbl t) [39, 39] + 1 := by
          rw [Lib.index, if_neg (by simp [List.isPrefixOf, Ne.symm hb])]
        unfold Lib.replaceK at ih ⊢
        rw [hi]
        by_cases h1 : Lib.index (dbl t) [39, 39] = -1
        · rw [h1] at ih ⊢
          exact congrArg (b :: ·) ih
        · have h2 : (Lib.index (dbl t) [39, 39] == -1) = false := by simpa using h1
          have h3 : (Lib.index (dbl t) [39, 39] + 1 == -1) = false := by simp; omega
          rw [h2] at ih ⊢
          simp only [Bool.false_eq_true, if_false, h3] at ih ⊢
          have e2 : (Lib.index (dbl t) [39, 39] + 1).toNat = (Lib.index (dbl t) [39, 39]).toNat + 1 := by omega
          rw [e2]
          generalize (Lib.index (dbl t) [39, 39]).toNat = X at *
          change List.take X (dbl t) ++ [39] ++ Lib.replaceK [39, 39] [39] k (List.drop (X + 2) (dbl t)) = t at ih
          show List.take (X + 1) (b :: dbl t) ++ [39] ++ Lib.replaceK [39, 39] [39] k (List.drop (X + 1 + 2) (b :: dbl t)) = b :: t
          rw [show X + 1 + 2 = (X + 2) + 1 by omega]
          simp only [List.take_succ_cons, List.cons_append, List.drop_succ_cons]
          rw [ih]
theorem undbl (t : List UInt8) : Lib.replaceAll (dbl t) [39, 39] [39] = t := by
  unfold Lib.replaceAll Lib.replace Lib.replaceNum
  rw [if_neg (by decide), if_pos (.inl (by decide)), count2_dbl]
  exact undbl_k t _ (Nat.le_refl _)
def nullL : List UInt8 := [78, 85, 76, 76]
def z3 : V3 := ⟨0, 0, ⟨#[]⟩⟩
/-- The only value whose literal can be l. -/
def candV (l : List UInt8) : V3 :=
  if l = [] ∨ l = nullL then z3
  else if l.head? = some 39 ∧ 1 < l.length then ⟨2, 0, ⟨(Lib.replaceAll ((l.drop 1).take (l.length - 2)) [39, 39] [39]).toArray⟩⟩
  else match Lib.parseIntB 64 l with
    | .ok v => ⟨1, v, ⟨#[]⟩⟩
    | _ => z3
def readC (l : List UInt8) : V3 :=
  if l = nullL then z3
  else if l.head? = some 39 then ⟨2, 0, ⟨(strip (l.drop 1)).toArray⟩⟩
  else ⟨1, if l.head? = some 45 then IntKind.i64.wrap (IntKind.u64.wrap (-rdN l)) else IntKind.i64.wrap (rdN l), ⟨#[]⟩⟩
theorem empty_of (s : ByteArray) (h : s.size = 0) : s = ⟨#[]⟩ := by
  rcases s with ⟨a⟩
  have : a = #[] := Array.eq_empty_of_size_eq_zero h
  rw [this]
theorem head_itoa (n : Int) : ∃ c r, Lib.itoa n = c :: r ∧ ((n < 0 ∧ c = 45) ∨ (¬ n < 0 ∧ 48 ≤ c.toNat ∧ c.toNat ≤ 57)) := by
  by_cases hn : n < 0
  · exact ⟨45, Lib.decDigits n.natAbs, by unfold Lib.itoa; rw [if_pos hn], .inl ⟨hn, rfl⟩⟩
  · have e : Lib.itoa n = Lib.decDigits n.toNat := by unfold Lib.itoa; rw [if_neg hn]
    rw [e]
    cases hd : Lib.decDigits n.toNat with
    | nil => exact absurd hd (decDigits_ne _)
    | cons c r => exact ⟨c, r, rfl, .inr ⟨hn, dig_mem n.toNat c (by rw [hd]; exact List.mem_cons_self ..)⟩⟩
theorem val_zero {x : V3} (h : x.valid = true) (hk : x.k = 0) : x = z3 := by
  unfold V3.valid at h
  rw [if_pos hk] at h
  simp only [Bool.and_eq_true, decide_eq_true_eq] at h
  rcases x with ⟨k, n, s⟩
  simp only at hk h
  rw [hk, h.1, empty_of s h.2]; rfl
theorem val_one {x : V3} (h : x.valid = true) (hk : x.k = 1) : x = ⟨1, x.n, ⟨#[]⟩⟩ := by
  unfold V3.valid at h
  rw [if_neg (by omega), if_pos hk] at h
  simp only [decide_eq_true_eq] at h
  rcases x with ⟨k, n, s⟩
  simp only at hk h
  rw [hk, empty_of s h]
theorem val_two {x : V3} (h : x.valid = true) (hk : x.k = 2) : x = ⟨2, 0, x.s⟩ := by
  unfold V3.valid at h
  rw [if_neg (by omega), if_neg (by omega), if_pos hk] at h
  simp only [Bool.and_eq_true, decide_eq_true_eq] at h
  rcases x with ⟨k, n, s⟩
  simp only at hk h
  rw [hk, h.1.1]
theorem cand_fmt (x : V3) (h : x.valid = true) (h0 : -9223372036854775808 ≤ x.n) (h1 : x.n ≤ 9223372036854775807) : candV (fmtV x) = x := by
  have hf := fmtV_eq x
  rw [if_neg (by rw [h]; decide)] at hf
  rcases valid_kind h with hk | hk | hk
  · rw [if_neg (by omega), if_neg (by omega)] at hf
    rw [hf, val_zero h hk]; rfl
  · rw [if_pos hk] at hf
    obtain ⟨c, r, e, hc⟩ := head_itoa x.n
    have hne : Lib.itoa x.n ≠ nullL := by
      rw [e]; intro q; injection q with q1 q2; subst q1
      rcases hc with ⟨_, q⟩ | ⟨_, q⟩
      · exact absurd q (by decide)
      · exact absurd q (by decide)
    have h39 : ¬ (Lib.itoa x.n).head? = some 39 := by
      rw [e]; intro q; injection q with q1; subst q1
      rcases hc with ⟨_, q⟩ | ⟨_, q⟩
      · exact absurd q (by decide)
      · exact absurd q (by decide)
    rw [hf]
    unfold candV
    rw [if_neg (fun q => q.elim (itoa_ne _) hne), if_neg (fun q => h39 q.1), atoi_itoa x.n h0 h1]
    exact (val_one h hk).symm
  · rw [if_neg (by omega), if_pos hk] at hf
    rw [hf]
    unfold candV
    rw [if_neg (fun q => q.elim (by simp) (fun q => by unfold nullL at q; injection q with q1 _; exact absurd q1 (by decide))), if_pos ⟨rfl, by simp⟩]
    have e : ((39 :: (dbl x.s.data.toList ++ [39])).drop 1).take ((39 :: (dbl x.s.data.toList ++ [39])).length - 2) = dbl x.s.data.toList := by
      simp
    rw [e, undbl]
    exact (val_two h hk).symm
theorem read_fmt (x : V3) (h : x.valid = true) (h0 : -9223372036854775808 ≤ x.n) (h1 : x.n ≤ 9223372036854775807) : readC (fmtV x) = x := by
  have hf := fmtV_eq x
  rw [if_neg (by rw [h]; decide)] at hf
  rcases valid_kind h with hk | hk | hk
  · rw [if_neg (by omega), if_neg (by omega)] at hf
    rw [hf, val_zero h hk]; rfl
  · rw [if_pos hk] at hf
    obtain ⟨c, r, e, hc⟩ := head_itoa x.n
    have hne : Lib.itoa x.n ≠ nullL := by
      rw [e]; intro q; injection q with q1 q2; subst q1
      rcases hc with ⟨_, q⟩ | ⟨_, q⟩
      · exact absurd q (by decide)
      · exact absurd q (by decide)
    have h39 : ¬ (Lib.itoa x.n).head? = some 39 := by
      rw [e]; intro q; injection q with q1; subst q1
      rcases hc with ⟨_, q⟩ | ⟨_, q⟩
      · exact absurd q (by decide)
      · exact absurd q (by decide)
    have h45 : (Lib.itoa x.n).head? = some 45 ↔ x.n < 0 := by
      rw [e]
      constructor
      · intro q; injection q with q1; subst q1
        rcases hc with ⟨q, _⟩ | ⟨_, q⟩
        · exact q
        · exact absurd q (by decide)
      · intro q
        rcases hc with ⟨_, rfl⟩ | ⟨q2, _⟩
        · rfl
        · exact absurd q q2
    have h20 := itoa_len20 x.n h0 h1
    have hr : rdN (Lib.itoa x.n) = x.n.natAbs := by
      unfold rdN
      rw [List.take_of_length_le h20]
      by_cases hn : x.n < 0
      · have e2 : Lib.itoa x.n = 45 :: Lib.decDigits x.n.natAbs := by unfold Lib.itoa; rw [if_pos hn]
        rw [e2, List.foldl_cons, show rdStep 0 45 = 0 from rfl, rd_dec _ (by omega)]
      · have e2 : Lib.itoa x.n = Lib.decDigits x.n.toNat := by unfold Lib.itoa; rw [if_neg hn]
        rw [e2, rd_dec _ (by omega)]; omega
    rw [hf]
    unfold readC
    rw [if_neg hne, if_neg h39, hr]
    have : (if (Lib.itoa x.n).head? = some 45 then IntKind.i64.wrap (IntKind.u64.wrap (-(x.n.natAbs : Int))) else IntKind.i64.wrap (x.n.natAbs : Int)) = x.n := by
      by_cases hn : x.n < 0
      · rw [if_pos (h45.2 hn)]; simp [IntKind.wrap, IntKind.bits, IntKind.signed]; omega
      · rw [if_neg (fun q => hn (h45.1 q))]; simp [IntKind.wrap, IntKind.bits, IntKind.signed]; omega
    rw [this]
    exact (val_one h hk).symm
  · rw [if_neg (by omega), if_pos hk] at hf
    rw [hf]
    unfold readC
    rw [if_neg (fun q => by unfold nullL at q; injection q with q1 _; exact absurd q1 (by decide)), if_pos (show (39 :: (dbl x.s.data.toList ++ [39])).head? = some 39 from rfl)]
    show (⟨2, 0, ⟨(strip (dbl x.s.data.toList ++ [39])).toArray⟩⟩ : V3) = x
    rw [strip_dbl]
    exact (val_two h hk).symm
theorem cand_bd (l : List UInt8) : -9223372036854775808 ≤ (candV l).n ∧ (candV l).n ≤ 9223372036854775807 := by
  unfold candV
  split
  · decide
  · split
    · exact ⟨by simp, by simp⟩
    · split
      · rename_i v h
        have := Lib.parseIntB_bounds h
        simp only at this ⊢
        omega
      · decide
theorem read_bd (l : List UInt8) : -9223372036854775808 ≤ (readC l).n ∧ (readC l).n ≤ 9223372036854775807 := by
  unfold readC
  split
  · decide
  · split
    · exact ⟨by simp, by simp⟩
    · simp only
      split <;> (simp [IntKind.wrap, IntKind.bits, IntKind.signed]; omega)
/-- Both readers find the same. -/
theorem read_cand (l : List UInt8) : (l ≠ [] ∧ fmtV (candV l) = l ↔ fmtV (readC l) = l) ∧ (fmtV (readC l) = l → candV l = readC l) := by
  have a : l ≠ [] → fmtV (candV l) = l → readC l = candV l := fun h e => by
    have hv : (candV l).valid = true := by
      cases hv : (candV l).valid
      · rw [(fmtV_nil _).2 hv] at e; exact absurd e.symm h
      · rfl
    have := read_fmt _ hv (cand_bd l).1 (cand_bd l).2
    rw [e] at this; exact this
  have b : fmtV (readC l) = l → l ≠ [] ∧ candV l = readC l := fun e => by
    have hne : l ≠ [] := fun h => by
      subst h
      have hv := (fmtV_nil _).1 e
      exact absurd hv (by decide)
    have hv : (readC l).valid = true := by
      cases hv : (readC l).valid
      · rw [(fmtV_nil _).2 hv] at e; exact absurd e.symm hne
      · rfl
    have := cand_fmt _ hv (read_bd l).1 (read_bd l).2
    rw [e] at this; exact ⟨hne, this⟩
  exact ⟨⟨fun ⟨h, e⟩ => by rw [a h e]; exact e, fun e => ⟨(b e).1, by rw [(b e).2]; exact e⟩⟩, fun e => (b e).2⟩
end Go.Proofs.YtkigdglipoeaaaaDoor
