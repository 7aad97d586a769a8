/- Versions on a disk: the plain mathematics. -/
import Derived.Test.YthhpilkhcomhbaaDoorDsk
import Derived.Test.YthhpilkhcomhbaaDoorMth
namespace Go.Proofs.YthhpilkhcomhbaaDoor
open Go.ChangeShapes Go.WideShapes Go.ChangeAt Go.RowKit Go.ChangeMaps

def be : Nat → Nat → List UInt8
  | 0, _ => []
  | k + 1, n => UInt8.ofNat (n / 256 ^ k) :: be k n
def val (l : List UInt8) : Nat := l.foldl (fun n x => 256 * n + x.toNat) 0
theorem be_len : ∀ k n, (be k n).length = k
  | 0, _ => rfl
  | k + 1, n => by rw [be, List.length_cons, be_len k n]
theorem val_acc (l : List UInt8) : ∀ a, l.foldl (fun n x => 256 * n + x.toNat) a = a * 256 ^ l.length + val l := by
  induction l with
  | nil => intro a; simp [val]
  | cons x l ih =>
    intro a
    unfold val
    simp only [List.foldl_cons, List.length_cons]
    rw [ih, ih (256 * 0 + x.toNat), Nat.pow_succ]
    grind
theorem val_snoc (l : List UInt8) (x : UInt8) : val (l ++ [x]) = 256 * val l + x.toNat := by unfold val; rw [List.foldl_append]; rfl
theorem val_cons (x : UInt8) (l : List UInt8) : val (x :: l) = x.toNat * 256 ^ l.length + val l := by
  have := val_acc l x.toNat
  unfold val at *
  simpa using this
theorem val_lt : ∀ (l : List UInt8), val l < 256 ^ l.length
  | [] => by simp [val]
  | x :: l => by
    have h1 := x.toNat_lt
    have h2 := val_lt l
    rw [val_cons, List.length_cons, Nat.pow_succ]
    generalize 256 ^ l.length = p at *
    have h3 : x.toNat * p ≤ 255 * p := Nat.mul_le_mul_right p (by omega)
    omega
theorem val_be (k n : Nat) : val (be k n) = n % 256 ^ k := by
  induction k with
  | zero => simp [be, val, Nat.mod_one]
  | succ k ih =>
    have h1 : val (be (k + 1) n) = (n / 256 ^ k % 256) * 256 ^ k + val (be k n) := by
      rw [be, val_cons, be_len, UInt8.toNat_ofNat']
    rw [h1, ih, Nat.mod_pow_succ, Nat.mul_comm, Nat.add_comm]
def zeros48 : List UInt8 := List.replicate 48 0
def hdr (e n c : Nat) : List UInt8 := be 4 e ++ (be 4 n ++ (be 8 c ++ zeros48))
theorem hdr_len (e n c : Nat) : (hdr e n c).length = 64 := by simp [hdr, be_len, zeros48]
theorem hdr_e (e n c : Nat) : (hdr e n c).take 4 = be 4 e := by unfold hdr; exact List.take_left' (be_len 4 e)
theorem hdr_n (e n c : Nat) : ((hdr e n c).drop 4).take 4 = be 4 n := by unfold hdr; rw [List.drop_left' (be_len 4 e)]; exact List.take_left' (be_len 4 n)
theorem hdr_c (e n c : Nat) : ((hdr e n c).drop 8).take 8 = be 8 c := by
  unfold hdr
  rw [← List.append_assoc, List.drop_left' (by simp [be_len])]
  exact List.take_left' (be_len 8 c)
def padS (d : List UInt8) : List UInt8 := d.take 64 ++ List.replicate (64 - d.length) 0
theorem padS_len (d : List UInt8) : (padS d).length = 64 := by unfold padS; simp; omega
/-- Writing byte strings sector by sector. -/
def nch (n : Nat) : Nat := (n + 63) / 64
def wall : Nat → St → Nat → List UInt8 → St × Int
  | 0, s, _, _ => (s, 0)
  | n + 1, s, k, d => if d = [] then (s, 0) else if (s.Wr (k : Int) (padS (d.take 64))).2 = 0 then wall n (s.Wr (k : Int) (padS (d.take 64))).1 (k + 1) (d.drop 64) else s.Wr (k : Int) (padS (d.take 64))
theorem set_getD {R : List (List UInt8)} {k j : Nat} {x : List UInt8} (h : j ≠ k) : (R.set k x).getD j [] = R.getD j [] := by
  rw [List.getD_eq_getElem?_getD, List.getD_eq_getElem?_getD, List.getElem?_set_ne (Ne.symm h)]
theorem set_getD_same {R : List (List UInt8)} {k : Nat} {x : List UInt8} (h : k < R.length) : (R.set k x).getD k [] = x := by
  rw [List.getD_eq_getElem?_getD, List.getElem?_set_self h]; rfl
theorem Wr_facts {s : St} {k : Nat} {x : List UInt8} (h64 : ∀ r ∈ s.R, r.length = 64) (hf : s.f = false) (hb : s.b ≤ 64) (hk : k < s.R.length) (hx : x.length = 64) :
    (s.Wr (k : Int) x).1.R.length = s.R.length ∧ (∀ j, j ≠ k → (s.Wr (k : Int) x).1.R.getD j [] = s.R.getD j []) ∧ (∀ r ∈ (s.Wr (k : Int) x).1.R, r.length = 64) ∧ (s.Wr (k : Int) x).1.b = s.b ∧
    (((s.Wr (k : Int) x).2 = 0 ∧ (s.Wr (k : Int) x).1.f = false ∧ (s.Wr (k : Int) x).1.x = s.x + 1 ∧ (s.Wr (k : Int) x).1.R.getD k [] = x ∧ (s.a = 0 → (s.Wr (k : Int) x).1.a = 0)) ∨
     ((s.Wr (k : Int) x).2 = 15 ∧ (s.Wr (k : Int) x).1.f = true ∧ (s.Wr (k : Int) x).1.x = s.x ∧ s.a ≠ 0 ∧ (s.Wr (k : Int) x).1.R.getD k [] = x.take s.b ++ (s.R.getD k []).drop s.b)) := by
  have e : s.Wr (k : Int) x = s.wr k x := by
    unfold St.Wr
    rw [if_neg (by rw [hf]; decide), if_pos ⟨by omega, by omega, hx⟩, Int.toNat_natCast]
  rw [e]
  unfold St.wr
  by_cases ha : s.a = 1
  · rw [if_pos ha]
    refine ⟨by simp, fun j hj => set_getD hj, set_len64 h64 (torn_len h64 hk hx hb), rfl, .inr ⟨rfl, rfl, rfl, by omega, set_getD_same hk⟩⟩
  · rw [if_neg ha]
    refine ⟨by simp, fun j hj => set_getD hj, set_len64 h64 hx, rfl, .inl ⟨rfl, hf, rfl, set_getD_same hk, fun h => by simp only; omega⟩⟩
theorem wall_facts : ∀ (n : Nat) (s : St) (k : Nat) (d : List UInt8), d.length ≤ n → (∀ r ∈ s.R, r.length = 64) → s.f = false → s.b ≤ 64 → k + nch d.length ≤ s.R.length →
    (wall n s k d).1.R.length = s.R.length ∧ (∀ j, j < k ∨ k + nch d.length ≤ j → (wall n s k d).1.R.getD j [] = s.R.getD j []) ∧ (∀ r ∈ (wall n s k d).1.R, r.length = 64) ∧ (wall n s k d).1.b = s.b ∧ (wall n s k d).1.x ≤ s.x + nch d.length ∧
    (((wall n s k d).2 = 0 ∧ (wall n s k d).1.f = false ∧ (wall n s k d).1.x = s.x + nch d.length ∧ (∀ i, i < nch d.length → (wall n s k d).1.R.getD (k + i) [] = padS ((d.drop (64 * i)).take 64)) ∧ (s.a = 0 → (wall n s k d).1.a = 0)) ∨
     ((wall n s k d).2 = 15 ∧ (wall n s k d).1.f = true ∧ s.a ≠ 0))
  | 0, s, k, d, hn, h64, hf, hb, hk => by
    obtain rfl : d = [] := List.eq_nil_of_length_eq_zero (by omega)
    unfold wall
    exact ⟨rfl, fun _ _ => rfl, h64, rfl, by simp, .inl ⟨rfl, hf, by simp [nch], fun i hi => by simp [nch] at hi, fun h => h⟩⟩
  | n + 1, s, k, d, hn, h64, hf, hb, hk => by
    unfold wall
    by_cases hd : d = []
    · subst hd
      rw [if_pos rfl]
      exact ⟨rfl, fun _ _ => rfl, h64, rfl, by simp, .inl ⟨rfl, hf, by simp [nch], fun i hi => by simp [nch] at hi, fun h => h⟩⟩
    · rw [if_neg hd]
      have hl : 0 < d.length := List.length_pos_iff.2 hd
      have hc : nch d.length = 1 + nch (d.drop 64).length := by unfold nch; rw [List.length_drop]; omega
      have hkl : k < s.R.length := by omega
      obtain ⟨f1, f2, f3, f4, f5⟩ := Wr_facts (k := k) (x := padS (d.take 64)) h64 hf hb hkl (padS_len _)
      generalize s.Wr (k : Int) (padS (d.take 64)) = r at *
      rcases f5 with ⟨g1, g2, g3, g4, g5⟩ | ⟨g1, g2, g3, g4, g5⟩
      · rw [if_pos g1]
        obtain ⟨i1, i2, i3, i4, i5, i6⟩ := wall_facts n r.1 (k + 1) (d.drop 64) (by rw [List.length_drop]; omega) f3 g2 (by rw [f4]; exact hb) (by rw [f1]; omega)
        generalize wall n r.1 (k + 1) (d.drop 64) = q at *
        refine ⟨i1.trans f1, fun j hj => (i2 j (by omega)).trans (f2 j (by omega)), i3, i4.trans f4, by omega, ?_⟩
        rcases i6 with ⟨j1, j2, j3, j4, j5⟩ | ⟨j1, j2, j3⟩
        · refine .inl ⟨j1, j2, by omega, fun i hi => ?_, fun h => j5 (g5 h)⟩
          rcases i with _ | i
          · rw [Nat.add_zero, i2 k (by omega), g4]; rfl
          · have := j4 i (by omega)
            rw [show k + 1 + i = k + (i + 1) by omega, List.drop_drop] at this
            rw [this, show 64 + 64 * i = 64 * (i + 1) by omega]
        · exact .inr ⟨j1, j2, fun h => j3 (g5 h)⟩
      · rw [if_neg (by rw [g1]; decide)]
        exact ⟨f1, fun j hj => f2 j (by omega), f3, f4, by omega, .inr ⟨g1, g2, g4⟩⟩
/-- Reading. -/
def rall (s : St) (base len : Nat) : List UInt8 := ((List.range (nch len)).flatMap fun i => s.R.getD (base + i) []).take len
theorem chunks : ∀ (m : Nat) (d : List UInt8), d.length ≤ 64 * m → ((List.range m).flatMap fun i => padS ((d.drop (64 * i)).take 64)).take d.length = d
  | 0, d, h => by
    obtain rfl : d = [] := List.eq_nil_of_length_eq_zero (by omega)
    rfl
  | m + 1, d, h => by
    rw [List.range_succ_eq_map, List.flatMap_cons, List.flatMap_map]
    simp only [Nat.mul_zero, List.drop_zero]
    have ih := chunks m (d.drop 64) (by rw [List.length_drop]; omega)
    have e1 : (fun i => padS ((d.drop (64 * (i + 1))).take 64)) = fun i => padS (((d.drop 64).drop (64 * i)).take 64) := by
      funext i
      rw [List.drop_drop, show 64 + 64 * i = 64 * (i + 1) by omega]
    have e2 : (fun a => (fun i => padS ((d.drop (64 * i)).take 64)) (Nat.succ a)) = fun i => padS (((d.drop 64).drop (64 * i)).take 64) := by
      funext i
      rw [← congrFun e1 i]
    rw [show (fun a => padS ((d.drop (64 * Nat.succ a)).take 64)) = (fun i => padS (((d.drop 64).drop (64 * i)).take 64)) from e2]
    generalize ((List.range m).flatMap fun i => padS (((d.drop 64).drop (64 * i)).take 64)) = X at *
    rcases Nat.lt_or_ge 64 d.length with hl | hl
    · have e3 : padS (d.take 64) = d.take 64 := by
        unfold padS
        rw [List.take_take, Nat.min_self, List.length_take, Nat.min_eq_left (by omega)]
        simp
      rw [e3, List.take_append, List.length_take, Nat.min_eq_left (by omega), List.take_of_length_le (by rw [List.length_take]; omega)]
      rw [List.length_drop] at ih
      rw [ih, List.take_append_drop]
    · have e3 : padS (d.take 64) = d ++ List.replicate (64 - d.length) 0 := by
        unfold padS
        rw [List.take_take, Nat.min_self, List.take_of_length_le hl]
      rw [e3, List.append_assoc, List.take_append_of_le_length (Nat.le_refl _), List.take_length]
theorem nch_le (n : Nat) : n ≤ 64 * nch n := by unfold nch; omega
theorem flat_congr {α β : Type} {f g : α → List β} : ∀ (l : List α), (∀ x ∈ l, f x = g x) → l.flatMap f = l.flatMap g
  | [], _ => rfl
  | x :: l, h => by rw [List.flatMap_cons, List.flatMap_cons, h x (by simp), flat_congr l fun y hy => h y (by simp [hy])]
theorem rall_of {s : St} {base : Nat} {d : List UInt8} (h : ∀ i, i < nch d.length → s.R.getD (base + i) [] = padS ((d.drop (64 * i)).take 64)) : rall s base d.length = d := by
  unfold rall
  rw [flat_congr (g := fun i => padS ((d.drop (64 * i)).take 64)) _ fun i hi => h i (List.mem_range.1 hi)]
  exact chunks _ _ (nch_le _)
theorem rall_congr {s t : St} {base len : Nat} (h : ∀ i, i < nch len → s.R.getD (base + i) [] = t.R.getD (base + i) []) : rall s base len = rall t base len := by
  unfold rall
  rw [flat_congr _ fun i hi => h i (List.mem_range.1 hi)]
/-- The layout. -/
def areaOf (n : Nat) : Nat := (n - 3) / 4
def slotOf (s : St) : Nat := ((s.R.getD 0 []).getD 0 0).toNat
def hdOf (s : St) : List UInt8 := s.R.getD (1 + slotOf s) []
def baseOf (s : St) (o : Nat) : Nat := 3 + o * areaOf s.R.length
def epochOf (s : St) : Nat := val ((hdOf s).take 4)
def lenOf (s : St) : Nat := val (((hdOf s).drop 4).take 4)
def sumOf (s : St) : Nat := val (((hdOf s).drop 8).take 8)
def SW (s : St) (e : Nat) (d : List UInt8) : St × Int :=
  if s.f = true then (s, 15) else if s.R.length < 7 then (s, 1) else if 1 < slotOf s then (s, 17) else if e ≤ epochOf s then (s, 1) else if 64 * areaOf s.R.length < d.length then (s, 16) else
  if (wall d.length s (baseOf s (1 - slotOf s)) d).2 = 0 then
    if ((wall d.length s (baseOf s (1 - slotOf s)) d).1.Wr ((1 + (1 - slotOf s) : Nat) : Int) (hdr e d.length (crc 0 d))).2 = 0 then
      ((wall d.length s (baseOf s (1 - slotOf s)) d).1.Wr ((1 + (1 - slotOf s) : Nat) : Int) (hdr e d.length (crc 0 d))).1.Wr 0 (padS [UInt8.ofNat (1 - slotOf s)])
    else (wall d.length s (baseOf s (1 - slotOf s)) d).1.Wr ((1 + (1 - slotOf s) : Nat) : Int) (hdr e d.length (crc 0 d))
  else wall d.length s (baseOf s (1 - slotOf s)) d
def SR (s : St) : List UInt8 × Nat × Int :=
  if s.f = true then ([], 0, 15) else if s.R.length < 7 then ([], 0, 1) else if 1 < slotOf s then ([], 0, 17) else if epochOf s = 0 then ([], 0, 4) else if 64 * areaOf s.R.length < lenOf s then ([], 0, 17) else
  if crc 0 (rall s (baseOf s (slotOf s)) (lenOf s)) ≠ sumOf s then ([], 0, 17) else (rall s (baseOf s (slotOf s)) (lenOf s), epochOf s, 0)
structure Has (s : St) (k : Nat) (d : List UInt8) : Prop where
  n : 7 ≤ s.R.length
  slot : slotOf s ≤ 1
  epoch : epochOf s = k
  rest : k ≠ 0 → lenOf s = d.length ∧ sumOf s = crc 0 d ∧ d.length ≤ 64 * areaOf s.R.length ∧ rall s (baseOf s (slotOf s)) d.length = d
theorem has_read {s : St} {k : Nat} {d : List UInt8} (h : Has s k d) (hf : s.f = false) : SR s = if k = 0 then ([], 0, 4) else (d, k, 0) := by
  unfold SR
  rw [if_neg (by rw [hf]; decide), if_neg (by have := h.n; omega), if_neg (by have := h.slot; omega), h.epoch]
  by_cases hk : k = 0
  · rw [if_pos hk, if_pos hk]
  · obtain ⟨h1, h2, h3, h4⟩ := h.rest hk
    rw [if_neg hk, if_neg hk, if_neg (by omega), h1, h4, if_neg (by rw [h2]; simp)]
theorem has_same {s t : St} {k : Nat} {d : List UInt8} (h : Has s k d) (h64 : s.R.length = t.R.length) (h0 : t.R.getD 0 [] = s.R.getD 0 []) (h1 : t.R.getD (1 + slotOf s) [] = s.R.getD (1 + slotOf s) [])
    (h2 : ∀ i, i < areaOf s.R.length → t.R.getD (baseOf s (slotOf s) + i) [] = s.R.getD (baseOf s (slotOf s) + i) []) : Has t k d := by
  have e1 : slotOf t = slotOf s := by unfold slotOf; rw [h0]
  have e2 : hdOf t = hdOf s := by unfold hdOf; rw [e1, h1]
  have e3 : baseOf t (slotOf t) = baseOf s (slotOf s) := by unfold baseOf; rw [e1, h64]
  refine ⟨by rw [← h64]; exact h.n, by rw [e1]; exact h.slot, by rw [← h.epoch]; unfold epochOf; rw [e2], fun hk => ?_⟩
  obtain ⟨g1, g2, g3, g4⟩ := h.rest hk
  refine ⟨by rw [← g1]; unfold lenOf; rw [e2], by rw [← g2]; unfold sumOf; rw [e2], by rw [← h64]; exact g3, ?_⟩
  rw [e3]
  refine (rall_congr fun i hi => h2 i ?_).trans g4
  unfold nch at hi
  omega
theorem padS_slot (o : Nat) (h : o ≤ 1) : ((padS [UInt8.ofNat o]).getD 0 0).toNat = o := by
  have : o = 0 ∨ o = 1 := by omega
  rcases this with rfl | rfl <;> rfl
theorem torn_slot (o b : Nat) (old : List UInt8) (h : o ≤ 1) : (((padS [UInt8.ofNat o]).take b ++ old.drop b).getD 0 0).toNat = if b = 0 then (old.getD 0 0).toNat else o := by
  by_cases hb : b = 0
  · subst hb; rfl
  · rw [if_neg hb, List.getD_eq_getElem?_getD, List.getElem?_append_left (by rw [List.length_take, padS_len]; omega), List.getElem?_take, if_pos (by omega), ← List.getD_eq_getElem?_getD]
    exact padS_slot o h
theorem area_fit {n o : Nat} (hn : 7 ≤ n) (ho : o ≤ 1) : 3 + o * areaOf n + areaOf n ≤ n := by
  unfold areaOf
  have : o = 0 ∨ o = 1 := by omega
  rcases this with rfl | rfl <;> omega
theorem nch_area {m n : Nat} (h : m ≤ 64 * areaOf n) : nch m ≤ areaOf n := by unfold nch; omega
/-- What a write of a version does. -/
theorem has_write {s : St} {k e : Nat} {d0 d : List UInt8} (h : Has s k d0) (hf : s.f = false) (h64 : ∀ r ∈ s.R, r.length = 64) (hb : s.b ≤ 64) (hke : k < e) (he : e < 4294967296) (hd : d.length ≤ 64 * areaOf s.R.length) (hd2 : d.length < 4294967296) :
    (SW s e d).1.R.length = s.R.length ∧ (∀ r ∈ (SW s e d).1.R, r.length = 64) ∧ (SW s e d).1.b = s.b ∧ (SW s e d).1.x ≤ s.x + nch d.length + 2 ∧
    (((SW s e d).2 = 0 ∧ (SW s e d).1.f = false ∧ Has (SW s e d).1 e d ∧ (SW s e d).1.x = s.x + nch d.length + 2 ∧ (s.a = 0 → (SW s e d).1.a = 0) ∧ slotOf (SW s e d).1 = 1 - slotOf s) ∨
     ((SW s e d).2 = 15 ∧ (SW s e d).1.f = true ∧ s.a ≠ 0 ∧ (Has (SW s e d).1 k d0 ∨ Has (SW s e d).1 e d))) := by
  have hsl := h.slot
  have hn := h.n
  have hep := h.epoch
  have e1 : SW s e d = if (wall d.length s (baseOf s (1 - slotOf s)) d).2 = 0 then
      if ((wall d.length s (baseOf s (1 - slotOf s)) d).1.Wr ((1 + (1 - slotOf s) : Nat) : Int) (hdr e d.length (crc 0 d))).2 = 0 then
        ((wall d.length s (baseOf s (1 - slotOf s)) d).1.Wr ((1 + (1 - slotOf s) : Nat) : Int) (hdr e d.length (crc 0 d))).1.Wr 0 (padS [UInt8.ofNat (1 - slotOf s)])
      else (wall d.length s (baseOf s (1 - slotOf s)) d).1.Wr ((1 + (1 - slotOf s) : Nat) : Int) (hdr e d.length (crc 0 d))
    else wall d.length s (baseOf s (1 - slotOf s)) d := by
    unfold SW
    rw [if_neg (by rw [hf]; decide), if_neg (by omega), if_neg (by omega), if_neg (by omega), if_neg (by omega)]
  rw [e1]
  clear e1
  have hs1 : slotOf s = 0 ∨ slotOf s = 1 := by omega
  have hna := nch_area hd
  have hfit : baseOf s (1 - slotOf s) + areaOf s.R.length ≤ s.R.length := area_fit hn (by omega)
  have hapart : ∀ i, i < areaOf s.R.length → baseOf s (slotOf s) + i < baseOf s (1 - slotOf s) ∨ baseOf s (1 - slotOf s) + nch d.length ≤ baseOf s (slotOf s) + i := by
    intro i hi
    unfold baseOf
    rcases hs1 with e | e <;> rw [e] <;> simp <;> omega
  have hb3 : ∀ o, 3 ≤ baseOf s o := fun o => by unfold baseOf; omega
  have hb3' := hb3 (slotOf s)
  have hb3'' := hb3 (1 - slotOf s)
  obtain ⟨a1, a2, a3, a4, a5, a6⟩ := wall_facts d.length s (baseOf s (1 - slotOf s)) d (Nat.le_refl _) h64 hf hb (by omega)
  generalize wall d.length s (baseOf s (1 - slotOf s)) d = r1 at *
  have keep1 : Has r1.1 k d0 := has_same h a1.symm (a2 0 (by omega)) (a2 _ (by omega)) (fun i hi => a2 _ (hapart i hi))
  rcases a6 with ⟨b1, b2, b3, b4, b5⟩ | ⟨b1, b2, b3⟩
  · rw [if_pos b1]
    obtain ⟨c1, c2, c3, c4, c5⟩ := Wr_facts (k := 1 + (1 - slotOf s)) (x := hdr e d.length (crc 0 d)) a3 b2 (by omega) (by omega) (hdr_len _ _ _)
    generalize r1.1.Wr ((1 + (1 - slotOf s) : Nat) : Int) (hdr e d.length (crc 0 d)) = r2 at *
    have keep2 : Has r2.1 k d0 := has_same h (c1.trans a1).symm ((c2 0 (by omega)).trans (a2 0 (by omega))) ((c2 _ (by omega)).trans (a2 _ (by omega))) (fun i hi => (c2 _ (by omega)).trans (a2 _ (hapart i hi)))
    rcases c5 with ⟨f1, f2, f3, f4, f5⟩ | ⟨f1, f2, f3, f4, f5⟩
    · rw [if_pos f1]
      obtain ⟨g1, g2, g3, g4, g5⟩ := Wr_facts (k := 0) (x := padS [UInt8.ofNat (1 - slotOf s)]) c3 f2 (by omega) (by omega) (padS_len _)
      have e0 : ((0 : Nat) : Int) = 0 := rfl
      rw [e0] at g1 g2 g3 g4 g5
      generalize r2.1.Wr 0 (padS [UInt8.ofNat (1 - slotOf s)]) = r3 at *
      have hl3 : r3.1.R.length = s.R.length := g1.trans (c1.trans a1)
      have new : slotOf r3.1 = 1 - slotOf s → Has r3.1 e d := by
        intro hs
        have hh : hdOf r3.1 = hdr e d.length (crc 0 d) := by unfold hdOf; rw [hs, g2 _ (by omega), f4]
        have hcl : crc 0 d < 256 ^ 8 := crc_lt 0 d
        refine ⟨by omega, by omega, by unfold epochOf; rw [hh, hdr_e, val_be]; exact Nat.mod_eq_of_lt (by omega), fun _ => ⟨by unfold lenOf; rw [hh, hdr_n, val_be]; exact Nat.mod_eq_of_lt (by omega), by unfold sumOf; rw [hh, hdr_c, val_be]; exact Nat.mod_eq_of_lt hcl, by rw [hl3]; exact hd, ?_⟩⟩
        apply rall_of
        intro i hi
        have hbb : baseOf r3.1 (slotOf r3.1) = baseOf s (1 - slotOf s) := by unfold baseOf; rw [hs, hl3]
        rw [hbb, g2 _ (by omega), c2 _ (by omega)]
        exact b4 i hi
      refine ⟨hl3, g3, by omega, ?_⟩
      rcases g5 with ⟨m1, m2, m3, m4, m5⟩ | ⟨m1, m2, m3, m4, m5⟩
      · have hs3 : slotOf r3.1 = 1 - slotOf s := by
          unfold slotOf
          rw [m4, padS_slot _ (by omega)]
          rfl
        exact ⟨by omega, .inl ⟨m1, m2, new hs3, by omega, fun ha => m5 (f5 (b5 ha)), hs3⟩⟩
      · refine ⟨by omega, .inr ⟨m1, m2, fun ha => m4 (f5 (b5 ha)), ?_⟩⟩
        by_cases hb0 : r2.1.b = 0
        · left
          refine has_same h hl3.symm ?_ ((g2 _ (by omega)).trans ((c2 _ (by omega)).trans (a2 _ (by omega)))) (fun i hi => (g2 _ (by omega)).trans ((c2 _ (by omega)).trans (a2 _ (hapart i hi))))
          rw [m5, hb0, c2 0 (by omega), a2 0 (by omega)]
          simp
        · right
          apply new
          unfold slotOf
          rw [m5, torn_slot _ _ _ (by omega), if_neg hb0]
          rfl
    · rw [if_neg (by rw [f1]; decide)]
      exact ⟨c1.trans a1, c3, by omega, by omega, .inr ⟨f1, f2, fun ha => f4 (b5 ha), .inl keep2⟩⟩
  · rw [if_neg (by rw [b1]; decide)]
    exact ⟨a1, a3, a4, by omega, .inr ⟨b1, b2, b3, .inl keep1⟩⟩
end Go.Proofs.YthhpilkhcomhbaaDoor
