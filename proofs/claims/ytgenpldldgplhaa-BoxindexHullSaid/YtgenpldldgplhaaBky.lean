/- What the index and the list hold is the same. -/
import Derived.Test.YtgenpldldgplhaaBrp
import Derived.Test.YtgenpldldgplhaaBca
import Derived.Test.YtgenpldldgplhaaBwa
namespace Go.Proofs.Ytgenpldldgplhaa
open Go.ChangeShapes Go.WideShapes Go.ChangeAt Go.RowKit Go.ChangeMaps

def It.key (x : It) : Int × Int × List Sd := (x.id, x.t, x.R)
def KS (L1 L2 : List It) : Prop := L1.map It.key = L2.map It.key
theorem KS.del {L1 L2 : List It} (h : KS L1 L2) (a : Int) : KS (delL L1 a) (delL L2 a) := by
  unfold KS delL at *
  induction L1 generalizing L2 with
  | nil => cases L2 with
    | nil => rfl
    | cons y L2 => simp at h
  | cons x L1 ih => cases L2 with
    | nil => simp at h
    | cons y L2 =>
      rw [List.map_cons, List.map_cons] at h
      injection h with h1 h2
      have e : x.id = y.id := congrArg Prod.fst h1
      rw [List.filter_cons, List.filter_cons, e]
      split
      · rw [List.map_cons, List.map_cons, h1, ih h2]
      · exact ih h2
theorem KS.ins {L1 L2 : List It} (h : KS L1 L2) {x1 x2 : It} (hx : x1.key = x2.key) : KS (insL x1 L1) (insL x2 L2) := by
  unfold KS at *
  induction L1 generalizing L2 with
  | nil => cases L2 with
    | nil => show [x1.key] = [x2.key]; rw [hx]
    | cons y L2 => simp at h
  | cons x L1 ih => cases L2 with
    | nil => simp at h
    | cons y L2 =>
      have h0 := h
      rw [List.map_cons, List.map_cons] at h
      injection h with h1 h2
      have e : x.id = y.id := congrArg Prod.fst h1
      have e2 : x1.id = x2.id := congrArg Prod.fst hx
      show List.map It.key (if x1.id < x.id then x1 :: x :: L1 else x :: insL x1 L1) = List.map It.key (if x2.id < y.id then x2 :: y :: L2 else y :: insL x2 L2)
      rw [e, e2]
      split
      · rw [List.map_cons, h0, hx]; rfl
      · rw [List.map_cons, List.map_cons, h1, ih h2]
theorem KS.put {L1 L2 : List It} (h : KS L1 L2) {x1 x2 : It} (hx : x1.key = x2.key) : KS (putL L1 x1) (putL L2 x2) := by
  unfold putL
  rw [show x1.id = x2.id from congrArg Prod.fst hx]
  exact (h.del x2.id).ins hx
theorem KS.len {L1 L2 : List It} (h : KS L1 L2) : L1.length = L2.length := by
  have := congrArg List.length h
  simpa using this
theorem KS.any {L1 L2 : List It} (h : KS L1 L2) (a : Int) : (fnd L1 a).isSome = L2.any (fun x => x.id == a) := by
  have h1 : (fnd L1 a).isSome = L1.any (fun x => x.id == a) := by
    unfold fnd
    rw [Bool.eq_iff_iff, List.find?_isSome, List.any_eq_true]
  rw [h1]
  have e : ∀ L : List It, L.any (fun x => x.id == a) = (L.map It.key).any (fun k => k.1 == a) := fun L => by rw [List.any_map]; rfl
  rw [e, e, h]
theorem ba_ext {a b : ByteArray} (h : a.toList = b.toList) : a = b := by
  rw [ByteArray.toList_eq, ByteArray.toList_eq] at h
  obtain ⟨a⟩ := a
  obtain ⟨b⟩ := b
  exact congrArg ByteArray.mk (Array.ext' h)
theorem bl_asymm : ∀ a b : List UInt8, Op.bytesLess a b = true → Op.bytesLess b a = false
  | [], [], h => by simp [Op.bytesLess] at h
  | [], b :: y, _ => by simp [Op.bytesLess]
  | a :: x, [], h => by simp [Op.bytesLess] at h
  | a :: x, b :: y, h => by
    simp only [Op.bytesLess, Bool.or_eq_true, Bool.and_eq_true, decide_eq_true_eq, beq_iff_eq] at h
    rcases h with h | ⟨rfl, h⟩
    · have h1 : ¬ b < a := fun h2 => absurd (UInt8.lt_trans h h2) (UInt8.lt_irrefl _)
      have h2 : b ≠ a := fun e => by subst e; exact UInt8.lt_irrefl _ h
      simp [Op.bytesLess, h1, h2]
    · simp [Op.bytesLess, UInt8.lt_irrefl, bl_asymm x y h]
theorem bl_total : ∀ a b : List UInt8, Op.bytesLess a b = false → Op.bytesLess b a = false → a = b
  | [], [], _, _ => rfl
  | [], b :: y, h, _ => by simp [Op.bytesLess] at h
  | a :: x, [], _, h => by simp [Op.bytesLess] at h
  | a :: x, b :: y, h, g => by
    simp only [Op.bytesLess, Bool.or_eq_false_iff, decide_eq_false_iff_not, Bool.and_eq_false_imp, beq_iff_eq] at h g
    have hab : a = b := UInt8.le_antisymm (UInt8.not_lt.1 g.1) (UInt8.not_lt.1 h.1)
    subst hab
    rw [bl_total x y (h.2 rfl) (g.2 rfl)]
theorem bl_trans : ∀ a b c : List UInt8, Op.bytesLess a b = true → Op.bytesLess b c = true → Op.bytesLess a c = true
  | _, [], [], _, h => by simp [Op.bytesLess] at h
  | [], [], _ :: _, h, _ => by simp [Op.bytesLess] at h
  | a :: x, [], c :: z, h, _ => by simp [Op.bytesLess] at h
  | _, b :: y, [], _, h => by simp [Op.bytesLess] at h
  | [], b :: y, c :: z, _, _ => by simp [Op.bytesLess]
  | a :: x, b :: y, c :: z, h, g => by
    simp only [Op.bytesLess, Bool.or_eq_true, Bool.and_eq_true, decide_eq_true_eq, beq_iff_eq] at h g ⊢
    rcases h with h | ⟨rfl, h⟩
    · rcases g with g | ⟨rfl, g⟩
      · exact .inl (UInt8.lt_trans h g)
      · exact .inl h
    · rcases g with g | ⟨rfl, g⟩
      · exact .inl g
      · exact .inr ⟨rfl, bl_trans x y z h g⟩
theorem tle_refl (a : ByteArray) : tle a a = true := by simp [tle]
theorem tle_total {a b : ByteArray} (h : tle a b = false) : tle b a = true := by
  simp only [tle, Bool.or_eq_false_iff, beq_eq_false_iff_ne] at h
  simp only [tle, Bool.or_eq_true]
  cases h2 : Op.bytesLess b.toList a.toList
  · exact absurd (bl_total _ _ h.1 h2) h.2
  · exact .inl rfl
theorem tle_antisymm {a b : ByteArray} (h : tle a b = true) (g : tle b a = true) : a = b := by
  simp only [tle, Bool.or_eq_true, beq_iff_eq] at h g
  rcases h with h | h
  · rcases g with g | g
    · rw [bl_asymm _ _ h] at g; cases g
    · exact ba_ext g.symm
  · exact ba_ext h
theorem tle_trans {a b c : ByteArray} (h : tle a b = true) (g : tle b c = true) : tle a c = true := by
  simp only [tle, Bool.or_eq_true, beq_iff_eq] at h g ⊢
  rcases h with h | h
  · rcases g with g | g
    · exact .inl (bl_trans _ _ _ h g)
    · rw [← g]; exact .inl h
  · rw [h]; exact g
theorem less_tle (a b : ByteArray) : Op.bytesLess a.toList b.toList = !tle b a := by
  cases h : tle b a
  · simp only [tle, Bool.or_eq_false_iff, beq_eq_false_iff_ne] at h
    cases h2 : Op.bytesLess a.toList b.toList
    · exact absurd (bl_total _ _ h.1 h2) h.2
    · rfl
  · simp only [tle, Bool.or_eq_true, beq_iff_eq] at h
    rcases h with h | h
    · rw [bl_asymm _ _ h]; rfl
    · rw [h]
      cases h2 : Op.bytesLess a.toList a.toList
      · rfl
      · have := bl_asymm _ _ h2; rw [h2] at this; cases this
theorem tmx_eq (a b : ByteArray) : tmx a b = if tle b a = true then a else b := by
  unfold tmx
  rw [less_tle]
  cases tle b a <;> simp
theorem tmx_le (a b c : ByteArray) : tle (tmx a b) c = (tle a c && tle b c) := by
  rw [tmx_eq]
  split
  · rename_i h
    cases h1 : tle a c
    · rfl
    · rw [tle_trans h h1]; rfl
  · rename_i h
    have h2 := tle_total (by simpa using h)
    cases h1 : tle b c
    · simp
    · rw [tle_trans h2 h1]; rfl
theorem tmn_ge (a b c : ByteArray) : tle c (tmn a b) = (tle c a && tle c b) := by
  unfold tmn
  split
  · rename_i h
    cases h1 : tle c a
    · rfl
    · rw [tle_trans h1 h]; rfl
  · rename_i h
    have h2 := tle_total (by simpa using h)
    cases h1 : tle c b
    · simp
    · rw [tle_trans h1 h2]; rfl
theorem mx_le (a b c : Int) : decide ((if b > a then b else a) ≤ c) = (decide (a ≤ c) && decide (b ≤ c)) := by
  rw [Bool.eq_iff_iff]; simp only [Bool.and_eq_true, decide_eq_true_eq]; split <;> omega
theorem mn_ge (a b c : Int) : decide (c ≤ (if b < a then b else a)) = (decide (c ≤ a) && decide (c ≤ b)) := by
  rw [Bool.eq_iff_iff]; simp only [Bool.and_eq_true, decide_eq_true_eq]; split <;> omega
theorem Sd.meetB_eq (s t : Sd) : s.meetB t = ((s.nu && t.nu) || (s.ot && (t.ot && ((decide (s.lo ≤ s.hi) && decide (s.lo ≤ t.hi) && (decide (t.lo ≤ s.hi) && decide (t.lo ≤ t.hi))) && (tle s.fr s.to && tle s.fr t.to && (tle t.fr s.to && tle t.fr t.to)))))) := by
  unfold Sd.meetB
  rw [mx_le, mn_ge, mn_ge, tmx_le, tmn_ge, tmn_ge]
theorem Sd.meetB_symm (s t : Sd) : s.meetB t = t.meetB s := by
  rw [Sd.meetB_eq, Sd.meetB_eq]
  generalize decide (s.lo ≤ s.hi) = a1
  generalize decide (s.lo ≤ t.hi) = a2
  generalize decide (t.lo ≤ s.hi) = a3
  generalize decide (t.lo ≤ t.hi) = a4
  generalize tle s.fr s.to = b1
  generalize tle s.fr t.to = b2
  generalize tle t.fr s.to = b3
  generalize tle t.fr t.to = b4
  cases s.nu <;> cases t.nu <;> cases s.ot <;> cases t.ot <;> simp [Bool.and_comm, Bool.and_left_comm]
theorem zip_symm {α : Type} (p : α → α → Bool) (hp : ∀ a b, p a b = p b a) : ∀ R S : List α, zipAll p R S = zipAll p S R
  | [], [] => rfl
  | [], _ :: _ => rfl
  | _ :: _, [] => rfl
  | a :: R, b :: S => by show (p a b && zipAll p R S) = (p b a && zipAll p S R); rw [hp, zip_symm p hp R S]
theorem meetB_symm (t u : Int) (R S : List Sd) : meetB t u R S = meetB u t S R := by
  unfold meetB
  by_cases h : t = u
  · subst h
    by_cases h2 : R.length = S.length
    · rw [if_pos rfl, if_pos rfl, if_pos h2, if_pos h2.symm, h2, zip_symm _ Sd.meetB_symm]
    · rw [if_pos rfl, if_pos rfl, if_neg h2, if_neg (Ne.symm h2)]
  · rw [if_neg h, if_neg (Ne.symm h)]
theorem hit_meet (t : Int) (R : List Sd) (it : It) : hitB t R it = meetB it.t t it.R R := by
  unfold hitB
  rw [meetB_symm it.t t it.R R]
  by_cases e : it.t = t
  · simp [e]
  · have e2 : ¬ t = it.t := fun h => e h.symm
    unfold meetB
    rw [if_neg e2]
    simp [e]
theorem KS.cand {L1 L2 : List It} (h : KS L1 L2) (t : Int) (R : List Sd) : candL L1 t R = wantL L2 t R := by
  have e : ∀ L : List It, wantL L t R = ((L.map It.key).filter (fun k => meetB k.2.1 t k.2.2 R)).map (fun k => k.1) := fun L => by
    unfold wantL
    rw [List.filter_map, List.map_map]
    rfl
  have e1 : candL L1 t R = wantL L1 t R := by
    unfold candL wantL
    rw [List.filter_congr (fun x _ => hit_meet t R x)]
  rw [e1, e, e, h]
theorem KS.nil : KS [] [] := rfl
end Go.Proofs.Ytgenpldldgplhaa
