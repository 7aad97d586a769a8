/- Versions on a disk: more of the plain mathematics. -/
import Derived.Test.YthhpilkhcomhbaaDoorSmt
import Derived.Test.YthhpilkhcomhbaaDoorBmt
namespace Go.Proofs.YthhpilkhcomhbaaDoor
open Go.ChangeShapes Go.WideShapes Go.ChangeAt Go.RowKit Go.ChangeMaps

theorem has_R {s t : St} {k : Nat} {d : List UInt8} (h : Has s k d) (e : t.R = s.R) : Has t k d :=
  has_same h (by rw [e]) (by rw [e]) (by rw [e]) (fun i _ => by rw [e])
theorem SW_down {s : St} (h : s.f = true) (e : Nat) (d : List UInt8) : SW s e d = (s, 15) := by unfold SW; rw [if_pos h]
theorem SR_down {s : St} (h : s.f = true) : SR s = ([], 0, 15) := by unfold SR; rw [if_pos h]
theorem SW_old {s : St} {k e : Nat} {d0 d : List UInt8} (h : Has s k d0) (hf : s.f = false) (he : e ≤ k) : SW s e d = (s, 1) := by
  unfold SW
  rw [if_neg (by rw [hf]; decide), if_neg (by have := h.n; omega), if_neg (by have := h.slot; omega), if_pos (by rw [h.epoch]; exact he)]
theorem SW_full {s : St} {k e : Nat} {d0 d : List UInt8} (h : Has s k d0) (hf : s.f = false) (he : k < e) (hd : 64 * areaOf s.R.length < d.length) : SW s e d = (s, 16) := by
  unfold SW
  rw [if_neg (by rw [hf]; decide), if_neg (by have := h.n; omega), if_neg (by have := h.slot; omega), if_neg (by rw [h.epoch]; omega), if_pos hd]
theorem flat64_len {f : Nat → List UInt8} : ∀ (m : Nat), (∀ i, i < m → (f i).length = 64) → ((List.range m).flatMap f).length = 64 * m
  | 0, _ => rfl
  | m + 1, h => by
    rw [List.range_succ, List.flatMap_append, List.length_append, flat64_len m fun i hi => h i (by omega)]
    simp [h m (by omega)]
    omega
theorem flat64_get {f : Nat → List UInt8} : ∀ (m : Nat), (∀ i, i < m → (f i).length = 64) → ∀ t, t < 64 * m → ((List.range m).flatMap f)[t]? = (f (t / 64))[t % 64]?
  | 0, _, t, ht => by omega
  | m + 1, h, t, ht => by
    have hl := flat64_len (f := f) m fun i hi => h i (by omega)
    rw [List.range_succ, List.flatMap_append]
    rcases Nat.lt_or_ge t (64 * m) with h1 | h1
    · rw [List.getElem?_append_left (by omega)]
      exact flat64_get m (fun i hi => h i (by omega)) t h1
    · rw [List.getElem?_append_right (by omega), hl, show t / 64 = m by omega, show t % 64 = t - 64 * m by omega]
      simp
theorem rall_get {s : St} {base len : Nat} (h64 : ∀ r ∈ s.R, r.length = 64) (hb : base + nch len ≤ s.R.length) {t : Nat} (ht : t < len) : (rall s base len)[t]? = (s.R.getD (base + t / 64) [])[t % 64]? := by
  unfold rall
  rw [List.getElem?_take, if_pos ht]
  have hn : t < 64 * nch len := by unfold nch; omega
  exact flat64_get (f := fun i => s.R.getD (base + i) []) (nch len) (fun i hi => getD_len64 h64 (by omega)) t hn
theorem rall_len {s : St} {base len : Nat} (h64 : ∀ r ∈ s.R, r.length = 64) (hb : base + nch len ≤ s.R.length) : (rall s base len).length = len := by
  unfold rall
  rw [List.length_take, flat64_len (f := fun i => s.R.getD (base + i) []) (nch len) (fun i hi => getD_len64 h64 (by omega))]
  unfold nch
  omega
/-- One byte of a version is changed. -/
theorem rall_set {s t : St} {base len i : Nat} {v : UInt8} (h64 : ∀ r ∈ s.R, r.length = 64) (hb : base + nch len ≤ s.R.length) (hi : i < len)
    (ht : t.R = s.R.set (base + i / 64) ((s.R.getD (base + i / 64) []).set (i % 64) v)) : rall t base len = (rall s base len).set i v := by
  have hj : base + i / 64 < s.R.length := by unfold nch at hb; omega
  have h64t : ∀ r ∈ t.R, r.length = 64 := by rw [ht]; exact set_len64 h64 (by rw [List.length_set]; exact getD_len64 h64 hj)
  have hlt : t.R.length = s.R.length := by rw [ht, List.length_set]
  have hl := rall_len (s := s) h64 hb
  apply List.ext_getElem?
  intro j
  rcases Nat.lt_or_ge j len with hjl | hjl
  · rw [rall_get h64t (by omega) hjl, ht]
    by_cases hij : i = j
    · subst hij
      rw [List.getElem?_set_self (by omega), set_getD_same hj, List.getElem?_set_self (by rw [getD_len64 h64 hj]; omega)]
    · rw [List.getElem?_set_ne hij, rall_get h64 hb hjl]
      by_cases hs : base + j / 64 = base + i / 64
      · rw [hs, set_getD_same hj, List.getElem?_set_ne (by omega)]
      · rw [set_getD hs]
  · rw [List.getElem?_eq_none (by rw [rall_len h64t (by omega)]; exact hjl), List.getElem?_eq_none (by rw [List.length_set]; omega)]
theorem xor_self_ne {x y : UInt8} (h : y ≠ 0) : x ^^^ y ≠ x := by
  intro e
  apply h
  have : x ^^^ (x ^^^ y) = x ^^^ x := by rw [e]
  rw [← UInt8.xor_assoc, UInt8.xor_self, UInt8.zero_xor] at this
  exact this
theorem crc_set {d : List UInt8} {i : Nat} (hi : i < d.length) {y : UInt8} (hy : y ≠ 0) : crc 0 (d.set i (d[i] ^^^ y)) ≠ crc 0 d := by
  have e := mx_succ d i [y] 0 (by simpa using hi) (by simp)
  rw [mx_zero] at e
  simp only [Nat.add_zero, List.getElem_cons_zero] at e
  have h := mx_crc d i [y] 1 (by omega) (by simp) (by omega)
  rw [e] at h
  intro hc
  have h2 := h.1 hc
  have h3 := congrArg (fun l => l[i]?) h2
  simp only [List.getElem?_set_self hi, List.getElem?_eq_getElem hi, Option.some.injEq] at h3
  exact xor_self_ne hy h3
theorem has_damage {s t : St} {k i : Nat} {d : List UInt8} {y : UInt8} (h : Has s k d) (hk : k ≠ 0) (hf : t.f = false) (h64 : ∀ r ∈ s.R, r.length = 64) (hi : i < d.length) (hy : y ≠ 0)
    (ht : t.R = s.R.set (baseOf s (slotOf s) + i / 64) ((s.R.getD (baseOf s (slotOf s) + i / 64) []).set (i % 64) (d[i] ^^^ y))) : SR t = ([], 0, 17) := by
  obtain ⟨g1, g2, g3, g4⟩ := h.rest hk
  have hn := h.n
  have hsl := h.slot
  have hfit : baseOf s (slotOf s) + areaOf s.R.length ≤ s.R.length := area_fit hn hsl
  have hna := nch_area g3
  have hb3 : 3 ≤ baseOf s (slotOf s) := by unfold baseOf; omega
  have hlt : t.R.length = s.R.length := by rw [ht, List.length_set]
  have e0 : t.R.getD 0 [] = s.R.getD 0 [] := by rw [ht]; exact set_getD (by omega)
  have e1 : slotOf t = slotOf s := by unfold slotOf; rw [e0]
  have e2 : hdOf t = hdOf s := by unfold hdOf; rw [e1, ht]; exact set_getD (by omega)
  have e3 : baseOf t (slotOf t) = baseOf s (slotOf s) := by unfold baseOf; rw [e1, hlt]
  have el : lenOf t = d.length := by rw [← g1]; unfold lenOf; rw [e2]
  have es : sumOf t = crc 0 d := by rw [← g2]; unfold sumOf; rw [e2]
  have ee : epochOf t = k := by rw [← h.epoch]; unfold epochOf; rw [e2]
  have er : rall t (baseOf t (slotOf t)) d.length = d.set i (d[i] ^^^ y) := by
    rw [e3, rall_set h64 (by omega) hi ht, g4]
  unfold SR
  rw [if_neg (by rw [hf]; decide), if_neg (by omega), if_neg (by omega), if_neg (by omega), if_neg (by rw [hlt, el]; omega), el, er, es, if_pos (crc_set hi hy)]
theorem has_new (n : Nat) (hn : 7 ≤ n) (d : List UInt8) : Has { R := List.replicate n (List.replicate 64 0), f := false, a := 0, b := 0, x := 0 } 0 d := by
  have hg : ∀ j, j < n → (List.replicate n (List.replicate 64 (0 : UInt8))).getD j [] = List.replicate 64 0 := fun j hj => by
    rw [List.getD_eq_getElem?_getD, List.getElem?_replicate, if_pos hj]; rfl
  have h0 : slotOf { R := List.replicate n (List.replicate 64 0), f := false, a := 0, b := 0, x := 0 } = 0 := by
    unfold slotOf
    simp only
    rw [hg 0 (by omega)]
    rfl
  refine ⟨by simpa using hn, by omega, ?_, fun h => absurd rfl h⟩
  unfold epochOf hdOf
  rw [h0]
  simp only
  rw [hg _ (by omega)]
  rfl
end Go.Proofs.YthhpilkhcomhbaaDoor
