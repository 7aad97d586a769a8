/- The mathematics of propagation: subsets, what is sound, the reference's steps. -/
import Derived.Test.YtnoddkbpdfimmaaIvu
namespace Go.Proofs.Ytnoddkbpdfimmaa
open Go.ChangeShapes Go.WideShapes Go.ChangeAt Go.RowKit Go.ChangeMaps

def rnw (d : Iv) (a k : Int) : Iv := if 0 < a then ⟨d.lo, if (-k) / a < d.hi then (-k) / a else d.hi⟩ else ⟨if d.lo < -((-k) / (-a)) then -((-k) / (-a)) else d.lo, d.hi⟩
theorem rnw_nrw {d r : Iv} {a : Int} {eq : Bool} (ha : a ≠ 0) : (if eq then rnw (rnw d a r.lo) (-a) (-r.hi) else rnw d a r.lo) = nrw d a r eq := by
  obtain ⟨d0, d1⟩ := d
  obtain ⟨r0, r1⟩ := r
  unfold nrw nrwP rnw
  simp only [Int.neg_neg]
  by_cases h : 0 < a
  · have h2 : ¬ a < 0 := by omega
    have h3 : ¬ 0 < -a := by omega
    simp only [h, h2, h3, if_true, if_false]
    generalize -r0 / a = q0
    generalize r1 / a = q1
    cases eq
    · simp only [Bool.false_eq_true, if_false, Iv.mk.injEq, true_and]
      split <;> omega
    · simp only [if_true, Iv.mk.injEq]
      constructor <;> split <;> omega
  · have h2 : a < 0 := by omega
    have h3 : 0 < -a := by omega
    simp only [h, h2, h3, if_true, if_false]
    generalize -r0 / -a = q0
    generalize r1 / -a = q1
    cases eq
    · simp only [Bool.false_eq_true, if_false, Iv.mk.injEq]
      constructor
      · split <;> omega
      · omega
    · simp only [if_true, Iv.mk.injEq]
      constructor <;> split <;> omega
def rrM (R : List Iv) : List Iv → Iv → Iv
  | [], r => r
  | x :: L, r => rrM R L (if x.hi < 0 then ⟨r.lo + x.hi * (R.getD x.lo.toNat ⟨0, 0⟩).hi, r.hi + x.hi * (R.getD x.lo.toNat ⟨0, 0⟩).lo⟩ else ⟨r.lo + x.hi * (R.getD x.lo.toNat ⟨0, 0⟩).lo, r.hi + x.hi * (R.getD x.lo.toNat ⟨0, 0⟩).hi⟩)
theorem mul_minmax {a l h : Int} (hl : l ≤ h) : (a < 0 → min (a * l) (a * h) = a * h ∧ max (a * l) (a * h) = a * l) ∧ (¬ a < 0 → min (a * l) (a * h) = a * l ∧ max (a * l) (a * h) = a * h) := by
  constructor
  · intro ha
    have := Int.mul_le_mul_of_nonpos_left (a := a) (show a ≤ 0 by omega) hl
    omega
  · intro ha
    have := Int.mul_le_mul_of_nonneg_left hl (show 0 ≤ a by omega)
    omega
theorem rng_rr (R : List Iv) : ∀ (L : List Iv) (r : Iv), (∀ x ∈ L, x.hi ≠ 0 → (R.getD x.lo.toNat ⟨0, 0⟩).emp = false) → rngM R L r = some (rrM R L r)
  | [], r, _ => rfl
  | x :: L, r, h => by
    have ih := fun r' => rng_rr R L r' (fun y hy => h y (by simp [hy]))
    unfold rngM rrM
    by_cases h0 : x.hi = 0
    · rw [if_pos h0, ih, h0]
      simp
    · have he := h x (by simp) h0
      rw [if_neg h0, he, if_neg (by decide), ih]
      unfold Iv.emp at he
      simp only [decide_eq_false_iff_not] at he
      obtain ⟨m1, m2⟩ := mul_minmax (a := x.hi) (show (R.getD x.lo.toNat ⟨0, 0⟩).lo ≤ (R.getD x.lo.toNat ⟨0, 0⟩).hi by omega)
      by_cases hn : x.hi < 0
      · rw [(m1 hn).1, (m1 hn).2, if_pos hn]
      · rw [(m2 hn).1, (m2 hn).2, if_neg hn]
theorem rng_none (R : List Iv) : ∀ (L : List Iv) (r : Iv), (∃ x ∈ L, x.hi ≠ 0 ∧ (R.getD x.lo.toNat ⟨0, 0⟩).emp = true) → rngM R L r = none
  | [], r, h => by obtain ⟨x, hx, _⟩ := h; cases hx
  | x :: L, r, ⟨y, hy, h1, h2⟩ => by
    unfold rngM
    by_cases h0 : x.hi = 0
    · rw [if_pos h0]
      rcases List.mem_cons.1 hy with rfl | hy
      · exact absurd h0 h1
      · exact rng_none R L r ⟨y, hy, h1, h2⟩
    · rw [if_neg h0]
      cases he : (R.getD x.lo.toNat ⟨0, 0⟩).emp
      · rw [if_neg (by decide)]
        rcases List.mem_cons.1 hy with rfl | hy
        · rw [he] at h2; cases h2
        · exact rng_none R L _ ⟨y, hy, h1, h2⟩
      · rw [if_pos rfl]
/-- R is R2 or narrower. -/
def Sub (R S : List Iv) : Prop := R.length = S.length ∧ ∀ i, (S.getD i ⟨0, 0⟩).lo ≤ (R.getD i ⟨0, 0⟩).lo ∧ (R.getD i ⟨0, 0⟩).hi ≤ (S.getD i ⟨0, 0⟩).hi
theorem sub_refl (R : List Iv) : Sub R R := ⟨rfl, fun _ => ⟨Int.le_refl _, Int.le_refl _⟩⟩
theorem sub_trans {R S T : List Iv} (h : Sub R S) (g : Sub S T) : Sub R T := ⟨h.1.trans g.1, fun i => by have := h.2 i; have := g.2 i; omega⟩
theorem sub_anti {R S : List Iv} (h : Sub R S) (g : Sub S R) : R = S := by
  refine List.ext_getElem h.1 (fun i h1 h2 => ?_)
  have a := h.2 i
  have b := g.2 i
  rw [show R.getD i ⟨0, 0⟩ = R[i] by simp [List.getD, List.getElem?_eq_getElem h1], show S.getD i ⟨0, 0⟩ = S[i] by simp [List.getD, List.getElem?_eq_getElem h2]] at a b
  have e1 : R[i].lo = S[i].lo := by omega
  have e2 : R[i].hi = S[i].hi := by omega
  cases hR : R[i]; cases hS : S[i]
  rw [hR, hS] at e1 e2
  simp only at e1 e2
  rw [e1, e2]
theorem getD_set {R : List Iv} {v i : Nat} {d : Iv} : (R.set v d).getD i ⟨0, 0⟩ = if v = i ∧ v < R.length then d else R.getD i ⟨0, 0⟩ := by
  simp only [List.getD, List.getElem?_set]
  by_cases h : v = i
  · subst h
    by_cases h2 : v < R.length
    · simp [h2]
    · simp [h2, List.getElem?_eq_none (show R.length ≤ v by omega)]
  · simp [h]
theorem sub_set {R : List Iv} {v : Nat} {d : Iv} (h1 : (R.getD v ⟨0, 0⟩).lo ≤ d.lo) (h2 : d.hi ≤ (R.getD v ⟨0, 0⟩).hi) : Sub (R.set v d) R := by
  refine ⟨by rw [List.length_set], fun i => ?_⟩
  rw [getD_set]
  split
  · rename_i h
    rw [← h.1]
    exact ⟨h1, h2⟩
  · exact ⟨Int.le_refl _, Int.le_refl _⟩
theorem set_same {R : List Iv} {v : Nat} {d : Iv} (h : R.getD v ⟨0, 0⟩ = d) (hv : v < R.length) : R.set v d = R := by
  refine List.ext_getElem (by rw [List.length_set]) (fun i h1 h2 => ?_)
  rw [List.getElem_set]
  split
  · rename_i e
    subst e
    rw [← h]
    simp [List.getD, List.getElem?_eq_getElem hv]
  · rfl
/-- A flag that says whether anything has changed since R0. -/
def Chg (ch : Bool) (R R0 : List Iv) : Prop := Sub R R0 ∧ (ch = false ↔ R = R0)
theorem chg_start (R : List Iv) : Chg false R R := ⟨sub_refl R, by simp⟩
theorem chg_same {ch : Bool} {R R0 : List Iv} {v : Nat} {d : Iv} (h : Chg ch R R0) (hd : R.getD v ⟨0, 0⟩ = d) (hv : v < R.length) : Chg ch (R.set v d) R0 := by rw [set_same hd hv]; exact h
theorem chg_new {ch : Bool} {R R0 : List Iv} {v : Nat} {d : Iv} (h : Chg ch R R0) (h1 : (R.getD v ⟨0, 0⟩).lo ≤ d.lo) (h2 : d.hi ≤ (R.getD v ⟨0, 0⟩).hi) (hd : R.getD v ⟨0, 0⟩ ≠ d) (hv : v < R.length) : Chg true (R.set v d) R0 := by
  have hs := sub_set h1 h2
  refine ⟨sub_trans hs h.1, by simp, fun e => ?_⟩
  exfalso
  have e2 : R = R.set v d := sub_anti (by rw [e]; exact h.1) hs
  apply hd
  have : (R.set v d).getD v ⟨0, 0⟩ = d := by rw [getD_set, if_pos ⟨rfl, hv⟩]
  rw [← e2] at this
  exact this
def Ne (R : List Iv) : Prop := ∀ d ∈ R, d.emp = false
theorem ne_set {R : List Iv} {v : Nat} {d : Iv} (h : Ne R) (hd : d.emp = false) : Ne (R.set v d) := fun x hx => by
  rcases List.mem_or_eq_of_mem_set hx with h1 | h1
  · exact h x h1
  · rw [h1]; exact hd
theorem ne_getD {R : List Iv} (h : Ne R) (i : Nat) : (R.getD i ⟨0, 0⟩).emp = false := by
  by_cases hi : i < R.length
  · exact h _ (getD_mem hi)
  · rw [show R.getD i ⟨0, 0⟩ = ⟨0, 0⟩ by simp [List.getD, List.getElem?_eq_none (show R.length ≤ i by omega)]]
    rfl
theorem nwM_sub {c : Int} {eq : Bool} {L : List Iv} : ∀ (m : Nat) (R : List Iv) (b : Bool) (R' : List Iv) (b' : Bool), nwM c eq L m R b = some (R', b') → Sub R' R ∧ (Ne R → Ne R')
  | 0, R, b, R', b', h => by
    unfold nwM at h
    injection h with h
    injection h with h1 h2
    rw [h1]
    exact ⟨sub_refl _, id⟩
  | m + 1, R, b, R', b', h => by
    unfold nwM at h
    split at h
    · exact nwM_sub m R b R' b' h
    · split at h
      · cases h
      · rename_i he
        obtain ⟨h1, h2⟩ := nwM_sub m _ _ _ _ h
        obtain ⟨g1, g2⟩ := nrw_sub (d := R.getD (L.getD (L.length - (m + 1)) ⟨0, 0⟩).lo.toNat ⟨0, 0⟩) (a := (L.getD (L.length - (m + 1)) ⟨0, 0⟩).hi) (r := (rngM R (L.eraseIdx (L.length - (m + 1))) ⟨c, c⟩).getD ⟨0, 0⟩) (eq := eq)
        exact ⟨sub_trans h1 (sub_set g1 g2), fun hn => h2 (ne_set hn (by simpa using he))⟩
theorem nwO_sub {x : Cn} {R R' : List Iv} (h : nwO x R = some R') : Sub R' R ∧ (Ne R → Ne R') := by
  unfold nwO at h
  split at h
  · rcases hn : nwM x.c x.eq x.l x.n R true with _ | ⟨R2, b2⟩
    · rw [hn] at h; cases h
    · rw [hn] at h
      injection h with h
      subst h
      exact nwM_sub _ _ _ _ _ hn
  · cases h
theorem onceM_sub : ∀ (Cs : List Cn) (R R' : List Iv), onceM Cs R = some R' → Sub R' R ∧ (Ne R → Ne R')
  | [], R, R', h => by
    injection h with h
    subst h
    exact ⟨sub_refl _, id⟩
  | x :: l, R, R', h => by
    unfold onceM at h
    rcases hn : nwO x R with _ | R2
    · rw [hn] at h; cases h
    · rw [hn] at h
      obtain ⟨a1, a2⟩ := nwO_sub hn
      obtain ⟨b1, b2⟩ := onceM_sub l R2 R' h
      exact ⟨sub_trans b1 a1, fun g => b2 (a2 g)⟩
theorem roundsM_sub {Cs : List Cn} : ∀ (k : Nat) (R R' : List Iv), roundsM Cs k R = some R' → Sub R' R ∧ (Ne R → Ne R')
  | 0, R, R', h => by
    injection h with h
    subst h
    exact ⟨sub_refl _, id⟩
  | k + 1, R, R', h => by
    unfold roundsM at h
    rcases hn : onceM Cs R with _ | R2
    · rw [hn] at h; cases h
    · rw [hn] at h
      have a := onceM_sub Cs R R2 hn
      simp only at h
      split at h
      · injection h with h
        subst h
        exact a
      · obtain ⟨b1, b2⟩ := roundsM_sub k R2 R' h
        exact ⟨sub_trans b1 a.1, fun g => b2 (a.2 g)⟩
theorem propM_sub {Cs : List Cn} {R R' : List Iv} (h : propM Cs R = some R') : Sub R' R ∧ Ne R' := by
  unfold propM at h
  split at h
  · cases h
  · rename_i hn
    obtain ⟨a, b⟩ := roundsM_sub 32 R R' h
    refine ⟨a, b (fun d hd => ?_)⟩
    rw [Bool.eq_false_iff]
    intro he
    exact hn (List.any_eq_true.2 ⟨d, hd, he⟩)
/-- The value of a form. -/
def valM (xs : List Int) : List Iv → Int → Int
  | [], s => s
  | y :: L, s => valM xs L (s + y.hi * xs.getD y.lo.toNat 0)
theorem valM_add (xs : List Int) : ∀ (L : List Iv) (s t : Int), valM xs L (s + t) = valM xs L s + t
  | [], s, t => rfl
  | y :: L, s, t => by
    show valM xs L (s + t + _) = valM xs L (s + _) + t
    rw [← valM_add xs L]
    congr 1
    omega
theorem valM_erase (xs : List Int) : ∀ (L : List Iv) (k : Nat) (s : Int) (hk : k < L.length), valM xs L s = valM xs (L.eraseIdx k) s + L[k].hi * xs.getD L[k].lo.toNat 0
  | [], k, s, hk => by simp at hk
  | y :: L, 0, s, _ => by
    show valM xs L (s + _) = _
    rw [valM_add]
    rfl
  | y :: L, k + 1, s, hk => by
    show valM xs L (s + _) = valM xs (L.eraseIdx k) (s + _) + _
    rw [valM_erase xs L k _ (by simpa using hk)]
    rfl
def In (R : List Iv) (xs : List Int) : Prop := ∀ i, i < R.length → (R.getD i ⟨0, 0⟩).lo ≤ xs.getD i 0 ∧ xs.getD i 0 ≤ (R.getD i ⟨0, 0⟩).hi
theorem rng_in {R : List Iv} {xs : List Int} (hI : In R xs) : ∀ (L : List Iv) (s : Int) (r : Iv), (∀ y ∈ L, 0 ≤ y.lo ∧ y.lo < R.length) → r.lo ≤ s → s ≤ r.hi → ∃ r', rngM R L r = some r' ∧ r'.lo ≤ valM xs L s ∧ valM xs L s ≤ r'.hi
  | [], s, r, _, h1, h2 => ⟨r, rfl, h1, h2⟩
  | y :: L, s, r, hL, h1, h2 => by
    have hy := hL y (by simp)
    have hi := hI y.lo.toNat (by omega)
    unfold rngM
    by_cases h0 : y.hi = 0
    · rw [if_pos h0]
      show ∃ r' : Iv, _ ∧ r'.lo ≤ valM xs L (s + _) ∧ valM xs L (s + _) ≤ _
      rw [h0]
      exact rng_in hI L _ r (fun z hz => hL z (by simp [hz])) (by omega) (by omega)
    · have he : (R.getD y.lo.toNat ⟨0, 0⟩).emp = false := by
        unfold Iv.emp
        simp only [decide_eq_false_iff_not]
        omega
      rw [if_neg h0, he, if_neg (by decide)]
      have m1 := mul_minmax (a := y.hi) hi.1
      have m2 := mul_minmax (a := y.hi) hi.2
      have hb : min (y.hi * (R.getD y.lo.toNat ⟨0, 0⟩).lo) (y.hi * (R.getD y.lo.toNat ⟨0, 0⟩).hi) ≤ y.hi * xs.getD y.lo.toNat 0 ∧ y.hi * xs.getD y.lo.toNat 0 ≤ max (y.hi * (R.getD y.lo.toNat ⟨0, 0⟩).lo) (y.hi * (R.getD y.lo.toNat ⟨0, 0⟩).hi) := by
        by_cases hn : y.hi < 0
        · have := m1.1 hn
          have := m2.1 hn
          omega
        · have := m1.2 hn
          have := m2.2 hn
          omega
      exact rng_in hI L _ _ (fun z hz => hL z (by simp [hz])) (by simp only; omega) (by simp only; omega)
theorem nrw_in {d r : Iv} {a v s : Int} {eq : Bool} (ha : a ≠ 0) (hv : d.lo ≤ v ∧ v ≤ d.hi) (hs : r.lo ≤ s ∧ s ≤ r.hi) (hle : a * v + s ≤ 0) (heq : eq = true → a * v + s = 0) : (nrw d a r eq).lo ≤ v ∧ v ≤ (nrw d a r eq).hi := by
  have key : ∀ (d : Iv) (a v : Int), 0 < a → d.lo ≤ v ∧ v ≤ d.hi → a * v + s ≤ 0 → (eq = true → a * v + s = 0) → (nrwP d a r eq).lo ≤ v ∧ v ≤ (nrwP d a r eq).hi := by
    intro d a v ha hv hle heq
    unfold nrwP
    have h1 : v ≤ (-r.lo) / a := by
      rw [Int.le_ediv_iff_mul_le ha, Int.mul_comm]
      omega
    constructor
    · cases eq
      · simp only [Bool.false_eq_true, if_false]; exact hv.1
      · simp only [if_true]
        have h2 := heq rfl
        have h3 : -v ≤ r.hi / a := by
          rw [Int.le_ediv_iff_mul_le ha, Int.neg_mul, Int.mul_comm]
          omega
        omega
    · simp only
      omega
  unfold nrw
  split
  · have e : -a * -v = a * v := Int.neg_mul_neg a v
    have := key ⟨-d.hi, -d.lo⟩ (-a) (-v) (by omega) (by simp only; omega) (by rw [e]; exact hle) (fun h => by rw [e]; exact heq h)
    simp only at this ⊢
    omega
  · exact key d a v (by omega) hv hle heq
theorem in_set {R : List Iv} {xs : List Int} {v : Nat} {d : Iv} (h : In R xs) (hd : d.lo ≤ xs.getD v 0 ∧ xs.getD v 0 ≤ d.hi) : In (R.set v d) xs := fun i hi => by
  rw [List.length_set] at hi
  rw [getD_set]
  split
  · rename_i e
    rw [← e.1]
    exact hd
  · exact h i hi
theorem nwM_in {c : Int} {eq : Bool} {L : List Iv} {xs : List Int} (hle : valM xs L c ≤ 0) (heq : eq = true → valM xs L c = 0) : ∀ (m : Nat) (R : List Iv) (b : Bool), m ≤ L.length → In R xs → (∀ y ∈ L, 0 ≤ y.lo ∧ y.lo < R.length) → ∃ R' b', nwM c eq L m R b = some (R', b') ∧ In R' xs ∧ (b' = true → b = true ∧ ∀ j (hj : j < L.length), L.length - m ≤ j → L[j].hi = 0)
  | 0, R, b, _, hI, _ => ⟨R, b, rfl, hI, fun h => ⟨h, fun j hj h1 => by omega⟩⟩
  | m + 1, R, b, hm, hI, hL => by
    have hk : L.length - (m + 1) < L.length := by omega
    have hx : L.getD (L.length - (m + 1)) ⟨0, 0⟩ = L[L.length - (m + 1)] := by simp [List.getD, List.getElem?_eq_getElem hk]
    have hxL := hL _ (List.getElem_mem hk)
    unfold nwM
    rw [hx]
    by_cases h0 : (L[L.length - (m + 1)]).hi = 0
    · rw [if_pos h0]
      obtain ⟨R', b', h1, h2, h3⟩ := nwM_in hle heq m R b (by omega) hI hL
      refine ⟨R', b', h1, h2, fun hb => ⟨(h3 hb).1, fun j hj hge => ?_⟩⟩
      by_cases hj2 : j = L.length - (m + 1)
      · subst hj2; exact h0
      · exact (h3 hb).2 j hj (by omega)
    · rw [if_neg h0]
      obtain ⟨r, hr, hr1, hr2⟩ := rng_in hI (L.eraseIdx (L.length - (m + 1))) c ⟨c, c⟩ (fun y hy => hL y (List.mem_of_mem_eraseIdx hy)) (Int.le_refl _) (Int.le_refl _)
      rw [hr]
      have hve := valM_erase xs L (L.length - (m + 1)) c hk
      have hd := nrw_in (d := R.getD (L[L.length - (m + 1)]).lo.toNat ⟨0, 0⟩) (r := r) (a := (L[L.length - (m + 1)]).hi) (v := xs.getD (L[L.length - (m + 1)]).lo.toNat 0) (s := valM xs (L.eraseIdx (L.length - (m + 1))) c) (eq := eq) h0 (hI _ (by omega)) ⟨hr1, hr2⟩ (by omega) (fun e => by have := heq e; omega)
      simp only [Option.getD_some]
      generalize nrw (R.getD (L[L.length - (m + 1)]).lo.toNat ⟨0, 0⟩) (L[L.length - (m + 1)]).hi r eq = d at *
      rw [if_neg (by unfold Iv.emp; simp only [decide_eq_true_eq]; omega)]
      obtain ⟨R', b', h1, h2, h3⟩ := nwM_in hle heq m (R.set (L[L.length - (m + 1)]).lo.toNat d) false (by omega) (in_set hI hd) (fun y hy => by rw [List.length_set]; exact hL y hy)
      exact ⟨R', b', h1, h2, fun hb => by have := (h3 hb).1; cases this⟩
theorem valM_zero (xs : List Int) : ∀ (L : List Iv) (s : Int), (∀ j (hj : j < L.length), L[j].hi = 0) → valM xs L s = s
  | [], s, _ => rfl
  | y :: L, s, h => by
    show valM xs L (s + _) = s
    have h0 : y.hi = 0 := h 0 (by simp)
    rw [h0, valM_zero xs L _ (fun j hj => h (j + 1) (by simpa using hj))]
    omega
def HoldM (xs : List Int) (x : Cn) : Prop := valM xs x.l x.c ≤ 0 ∧ (x.eq = true → valM xs x.l x.c = 0)
theorem nwO_in {x : Cn} {R : List Iv} {xs : List Int} (hn : x.l.length = x.n) (hI : In R xs) (hh : HoldM xs x) (hL : ∀ y ∈ x.l, 0 ≤ y.lo ∧ y.lo < R.length) : ∃ R', nwO x R = some R' ∧ In R' xs := by
  obtain ⟨R', b', h1, h2, h3⟩ := nwM_in hh.1 hh.2 x.n R true (by omega) hI hL
  refine ⟨R', ?_, h2⟩
  unfold nwO
  rw [h1]
  have he : nwE x.c x.eq (some (R', b')) = true := by
    unfold nwE
    cases hb : b'
    · rfl
    · have hz := valM_zero xs x.l x.c (fun j hj => (h3 hb).2 j hj (by omega))
      have g1 := hh.1
      have g2 := hh.2
      rw [hz] at g1 g2
      simp only [Bool.not_true, Bool.false_or, Bool.or_eq_true, Bool.and_eq_true, decide_eq_true_eq, Bool.not_eq_true']
      by_cases hc : x.c = 0
      · exact .inl hc
      · refine .inr ⟨by omega, ?_⟩
        rw [Bool.eq_false_iff]
        intro e
        exact hc (g2 e)
  rw [he]
  rfl
theorem onceM_in {xs : List Int} : ∀ (Cs : List Cn) (R : List Iv), (∀ x ∈ Cs, x.l.length = x.n ∧ HoldM xs x ∧ ∀ y ∈ x.l, 0 ≤ y.lo ∧ y.lo < R.length) → In R xs → ∃ R', onceM Cs R = some R' ∧ In R' xs ∧ R'.length = R.length
  | [], R, _, hI => ⟨R, rfl, hI, rfl⟩
  | x :: l, R, h, hI => by
    obtain ⟨a1, a2, a3⟩ := h x (by simp)
    obtain ⟨R2, h1, h2⟩ := nwO_in a1 hI a2 a3
    have hl := (nwO_sub h1).1.1
    obtain ⟨R3, h3, h4, h5⟩ := onceM_in l R2 (fun y hy => by rw [hl]; exact h y (by simp [hy])) h2
    refine ⟨R3, ?_, h4, h5.trans hl⟩
    unfold onceM
    rw [h1]
    exact h3
theorem roundsM_in {xs : List Int} {Cs : List Cn} : ∀ (k : Nat) (R : List Iv), (∀ x ∈ Cs, x.l.length = x.n ∧ HoldM xs x ∧ ∀ y ∈ x.l, 0 ≤ y.lo ∧ y.lo < R.length) → In R xs → ∃ R', roundsM Cs k R = some R' ∧ In R' xs
  | 0, R, _, hI => ⟨R, rfl, hI⟩
  | k + 1, R, h, hI => by
    obtain ⟨R2, h1, h2, h3⟩ := onceM_in Cs R h hI
    unfold roundsM
    rw [h1]
    simp only
    split
    · exact ⟨R2, rfl, h2⟩
    · exact roundsM_in k R2 (fun x hx => by rw [h3]; exact h x hx) h2
theorem propM_in {xs : List Int} {Cs : List Cn} {R : List Iv} (h : ∀ x ∈ Cs, x.l.length = x.n ∧ HoldM xs x ∧ ∀ y ∈ x.l, 0 ≤ y.lo ∧ y.lo < R.length) (hI : In R xs) : ∃ R', propM Cs R = some R' ∧ In R' xs := by
  unfold propM
  rw [if_neg]
  · exact roundsM_in 32 R h hI
  · intro he
    obtain ⟨d, hd, he⟩ := List.any_eq_true.1 he
    obtain ⟨i, hi, rfl⟩ := List.getElem_of_mem hd
    have := hI i hi
    rw [show R.getD i ⟨0, 0⟩ = R[i] by simp [List.getD, List.getElem?_eq_getElem hi]] at this
    unfold Iv.emp at he
    simp only [decide_eq_true_eq] at he
    omega
end Go.Proofs.Ytnoddkbpdfimmaa
