/- The case of letters does not matter. -/
import Derived.Test.YtdkkflmhpncglaaDoorLsa
namespace Go.Proofs.YtdkkflmhpncglaaDoor
open Go.ChangeShapes Go.WideShapes Go.ChangeAt Go.RowKit Go.ChangeMaps

def FL (c d : UInt8) : Bool := ltrN d.toNat && (dgtN d.toNat == dgtN c.toNat) && (spcN d.toNat == spcN c.toNat) && (wrd d == wrd c) && (loB d == loB c) && (upB d == upB c) && (d != 10) && (c != 10) && (d != 45) && (c != 45) && (d != 39) && (c != 39) && (d != 60) && (c != 60) && (d != 61) && (c != 61) && (d != 62) && (c != 62) && (d.toNat != 95) && (c.toNat != 95)
theorem fl_all : ∀ n : Fin 256, ltrN n.val = true → FL (UInt8.ofNat n.val) (UInt8.ofNat n.val ^^^ 32) = true := by decide +kernel
theorem fl_of (c : UInt8) (h : ltrN c.toNat = true) : FL c (c ^^^ 32) = true := by
  have h1 := fl_all ⟨c.toNat, c.toNat_lt⟩ h
  simpa using h1
theorem xor_all : ∀ n : Fin 256, IntKind.u8.wrap (((BitVec.ofInt 8 (n.val : Int)) ^^^ (BitVec.ofInt 8 32)).toNat : Int) = ((UInt8.ofNat n.val ^^^ 32).toNat : Int) := by decide +kernel
theorem xor_of (c : UInt8) : IntKind.u8.wrap (((BitVec.ofInt 8 (c.toNat : Int)) ^^^ (BitVec.ofInt 8 32)).toNat : Int) = ((c ^^^ 32).toNat : Int) := by
  have h1 := xor_all ⟨c.toNat, c.toNat_lt⟩
  simpa using h1
/-- d is c, but for the case of a letter. -/
def Cs (c d : UInt8) : Prop := d = c ∨ (ltrN c.toNat = true ∧ FL c d = true)
structure CsF (c d : UInt8) : Prop where
  l : ltrN d.toNat = ltrN c.toNat
  g : dgtN d.toNat = dgtN c.toNat
  s : spcN d.toNat = spcN c.toNat
  w : wrd d = wrd c
  lo : loB d = loB c
  up : upB d = upB c
  n10 : d = 10 ↔ c = 10
  n45 : d = 45 ↔ c = 45
  n39 : d = 39 ↔ c = 39
  n60 : d = 60 ↔ c = 60
  n61 : d = 61 ↔ c = 61
  n62 : d = 62 ↔ c = 62
  n95 : d.toNat = 95 ↔ c.toNat = 95
  same : ltrN c.toNat = false → d = c
theorem Cs.facts {c d : UInt8} (h : Cs c d) : CsF c d := by
  rcases h with rfl | ⟨h, f⟩
  · constructor <;> first | rfl | exact Iff.rfl | exact fun _ => rfl
  · unfold FL at f
    simp only [Bool.and_eq_true, beq_iff_eq, bne_iff_ne, ne_eq] at f
    obtain ⟨⟨⟨⟨⟨⟨⟨⟨⟨⟨⟨⟨⟨⟨⟨⟨⟨⟨⟨f1, f2⟩, f3⟩, f4⟩, f5⟩, f6⟩, f7⟩, f8⟩, f9⟩, f10⟩, f11⟩, f12⟩, f13⟩, f14⟩, f15⟩, f16⟩, f17⟩, f18⟩, f19⟩, f20⟩ := f
    exact ⟨by rw [f1, h], f2, f3, f4, f5, f6, ⟨fun e => absurd e f7, fun e => absurd e f8⟩, ⟨fun e => absurd e f9, fun e => absurd e f10⟩, ⟨fun e => absurd e f11, fun e => absurd e f12⟩, ⟨fun e => absurd e f13, fun e => absurd e f14⟩, ⟨fun e => absurd e f15, fun e => absurd e f16⟩, ⟨fun e => absurd e f17, fun e => absurd e f18⟩, ⟨fun e => absurd e f19, fun e => absurd e f20⟩, fun e => by rw [h] at e; cases e⟩
def CsL : List UInt8 → List UInt8 → Prop
  | [], [] => True
  | c :: l, d :: r => Cs c d ∧ CsL l r
  | _, _ => False
theorem CsL.refl : ∀ l, CsL l l
  | [] => trivial
  | _ :: l => ⟨.inl rfl, CsL.refl l⟩
theorem CsL.len : ∀ {l r : List UInt8}, CsL l r → r.length = l.length
  | [], [], _ => rfl
  | _ :: _, _ :: _, h => by rw [List.length_cons, List.length_cons, h.2.len]
theorem CsL.drop : ∀ (k : Nat) {l r : List UInt8}, CsL l r → CsL (l.drop k) (r.drop k)
  | 0, _, _, h => h
  | _ + 1, [], [], _ => trivial
  | k + 1, _ :: _, _ :: _, h => CsL.drop k h.2
theorem CsL.take : ∀ (k : Nat) {l r : List UInt8}, CsL l r → CsL (l.take k) (r.take k)
  | 0, _, _, _ => by simp [CsL]
  | _ + 1, [], [], _ => trivial
  | k + 1, _ :: _, _ :: _, h => ⟨h.1, CsL.take k h.2⟩
theorem CsL.map {f : UInt8 → UInt8} (hf : ∀ c d, Cs c d → f d = f c) : ∀ {l r : List UInt8}, CsL l r → r.map f = l.map f
  | [], [], _ => rfl
  | _ :: _, _ :: _, h => by rw [List.map_cons, List.map_cons, hf _ _ h.1, CsL.map hf h.2]
theorem CsL.same : ∀ {l r : List UInt8}, CsL l r → (∀ c ∈ l, ltrN c.toNat = false) → r = l
  | [], [], _, _ => rfl
  | c :: l, _ :: _, h, hn => by rw [h.1.facts.same (hn c List.mem_cons_self), h.2.same (fun x hx => hn x (List.mem_cons_of_mem _ hx))]
theorem CsL.tw {p : UInt8 → Bool} (hp : ∀ c d, Cs c d → p d = p c) : ∀ {l r : List UInt8}, CsL l r → (r.takeWhile p).length = (l.takeWhile p).length
  | [], [], _ => rfl
  | c :: l, d :: r, h => by
    rw [List.takeWhile_cons, List.takeWhile_cons, hp c d h.1]
    split
    · rw [List.length_cons, List.length_cons, CsL.tw hp h.2]
    · rfl
theorem CsL.get {l r : List UInt8} (h : CsL l r) (k : Nat) : (l[k]? = none ∧ r[k]? = none) ∨ ∃ c d, l[k]? = some c ∧ r[k]? = some d ∧ Cs c d := by
  rcases Nat.lt_or_ge k l.length with hk | hk
  · right
    have h1 := CsL.drop k h
    have hk2 : k < r.length := by rw [h.len]; exact hk
    rw [List.drop_eq_getElem_cons hk, List.drop_eq_getElem_cons hk2] at h1
    exact ⟨_, _, List.getElem?_eq_getElem hk, List.getElem?_eq_getElem hk2, h1.1⟩
  · exact .inl ⟨List.getElem?_eq_none hk, List.getElem?_eq_none (by rw [h.len]; exact hk)⟩
theorem CsL.set : ∀ {l r : List UInt8} (k : Nat) (c : UInt8), CsL l r → l[k]? = some c → ltrN c.toNat = true → CsL l (r.set k (c ^^^ 32))
  | [], [], _, _, _, h, _ => by simp at h
  | _ :: _, _ :: _, 0, c, h, e, hl => by
    obtain rfl := Option.some.inj e
    exact ⟨.inr ⟨hl, fl_of _ hl⟩, h.2⟩
  | _ :: l, _ :: _, k + 1, c, h, e, hl => ⟨h.1, h.2.set k c (by simpa using e) hl⟩
theorem run_cs {p : UInt8 → Bool} (hp : ∀ c d, Cs c d → p d = p c) {l r : List UInt8} (h : CsL l r) : runP p r 0 = runP p l 0 := by
  unfold runP
  rw [List.drop_zero, List.drop_zero, h.tw hp]
theorem skip_cs : ∀ {l r : List UInt8} (b : Bool), CsL l r → CsL (skipL b l) (skipL b r)
  | [], [], b, _ => by cases b <;> trivial
  | c :: l, d :: r, b, h => by
    have F := h.1.facts
    cases b
    · rw [skipL, skipL, F.s]
      split
      · exact skip_cs false h.2
      · have e : (d = 45 ∧ r.head? = some 45) ↔ (c = 45 ∧ l.head? = some 45) := by
          rw [F.n45]
          have h2 := h.2
          rcases l with _ | ⟨x, l⟩ <;> rcases r with _ | ⟨y, r⟩
          · exact Iff.rfl
          · exact h2.elim
          · exact h2.elim
          · have G := h2.1.facts
            simp only [List.head?_cons, Option.some.injEq, G.n45]
        by_cases hc : c = 45 ∧ l.head? = some 45
        · rw [if_pos hc, if_pos (e.2 hc)]
          exact skip_cs true h.2
        · rw [if_neg hc, if_neg (fun h => hc (e.1 h))]
          exact h
    · rw [skipL, skipL]
      by_cases hc : c = 10
      · rw [if_pos hc, if_pos (F.n10.2 hc)]
        exact skip_cs false h.2
      · rw [if_neg hc, if_neg (fun h => hc (F.n10.1 h))]
        exact skip_cs true h.2
theorem skP_cs {l r : List UInt8} (h : CsL l r) (k : Nat) : skP r k = skP l k := by
  unfold skP skQ
  rw [h.len, (skip_cs false (h.drop k)).len]
theorem numAt_nx (c : UInt8) (k : Nat) (t : List UInt8) (x y : UInt8) (h : Cs x y) : numAt c k (some y) t = numAt c k (some x) t := by
  have F := h.facts
  unfold numAt
  simp only
  have e : ((y.toNat : Int) == 95) = ((x.toNat : Int) == 95) := by
    rw [Bool.eq_iff_iff, beq_iff_eq, beq_iff_eq]
    have := F.n95
    omega
  simp only [F.l, e]
theorem two_cs {l r : List UInt8} (h : CsL l r) : two r = two l ∧ (two l = true → r.take 2 = l.take 2) := by
  rcases l with _ | ⟨c, _ | ⟨x, l⟩⟩ <;> rcases r with _ | ⟨d, _ | ⟨y, r⟩⟩ <;> first | (exact h.elim) | (exact h.2.elim) | skip
  · exact ⟨rfl, fun _ => rfl⟩
  · exact ⟨by simp [two], fun e => by simp [two] at e⟩
  · have F := h.1.facts
    have G := h.2.1.facts
    have e : two (d :: y :: r) = two (c :: x :: l) := by
      unfold two
      simp only [List.take_succ_cons, List.take_zero, List.length_cons]
      rw [Bool.eq_iff_iff]
      simp only [Bool.and_eq_true, Bool.or_eq_true, beq_iff_eq, List.cons.injEq, decide_eq_true_eq, and_true, F.n60, F.n61, F.n62, G.n60, G.n61, G.n62]
      have := h.2.2.len
      constructor <;> (rintro ⟨_, h⟩; exact ⟨by omega, h⟩)
    refine ⟨e, fun h2 => ?_⟩
    unfold two at h2
    simp only [List.take_succ_cons, List.take_zero, List.length_cons, Bool.and_eq_true, Bool.or_eq_true, beq_iff_eq, List.cons.injEq, decide_eq_true_eq, and_true] at h2 ⊢
    obtain ⟨_, (⟨a, b⟩ | ⟨a, b⟩) | ⟨a, b⟩⟩ := h2
    · exact ⟨by rw [F.n60.2 a, a], by rw [G.n62.2 b, b]⟩
    · exact ⟨by rw [F.n60.2 a, a], by rw [G.n61.2 b, b]⟩
    · exact ⟨by rw [F.n62.2 a, a], by rw [G.n61.2 b, b]⟩
theorem next_cs (c d : UInt8) (l r : List UInt8) (h : CsL (c :: l) (d :: r)) (h39 : c ≠ 39) : nextR (d :: r) = nextR (c :: l) := by
  have F := h.1.facts
  have hw := run_cs (p := wrd) (fun c d h => h.facts.w) h
  have hd := run_cs (p := dgt) (fun c d h => h.facts.g) h
  unfold nextR
  show (if ltrN d.toNat then wordR (d :: r) else if dgtN d.toNat then numR (d :: r) else if ((d.toNat : Int) == 39) then textR (d :: r) else symR (d :: r)) = (if ltrN c.toNat then wordR (c :: l) else if dgtN c.toNat then numR (c :: l) else if ((c.toNat : Int) == 39) then textR (c :: l) else symR (c :: l))
  rw [F.l, F.g]
  by_cases h1 : ltrN c.toNat = true
  · rw [if_pos h1, if_pos h1]
    unfold wordR wordAt
    rw [hw, (h.take _).map (f := upB) (fun c d h => h.facts.up), (h.take _).map (f := loB) (fun c d h => h.facts.lo)]
  · rw [if_neg h1, if_neg h1]
    have hcd : d = c := F.same (by simpa using h1)
    subst hcd
    by_cases h2 : dgtN d.toNat = true
    · rw [if_pos h2, if_pos h2]
      unfold numR
      have hall : ∀ x ∈ (d :: l).take (runP dgt (d :: l) 0), ltrN x.toNat = false := fun x hx => by
        have h3 := run_all dgt (d :: l) x hx
        have key : ∀ m : Nat, dgtN m = true → ltrN m = false := fun m hm => by
          simp only [dgtN, Bool.and_eq_true, decide_eq_true_eq] at hm
          simp only [ltrN, Bool.or_eq_false_iff, Bool.and_eq_false_iff, decide_eq_false_iff_not]
          omega
        exact key _ h3
      rw [hd, (h.take _).same hall]
      show numAt d _ _ _ = numAt d _ _ _
      rcases h.get (runP dgt (d :: l) 0) with ⟨e1, e2⟩ | ⟨x, y, e1, e2, hc⟩
      · rw [e1, e2]
      · rw [e1, e2, numAt_nx _ _ _ _ _ hc]
    · rw [if_neg h2, if_neg h2]
      have h3 : ¬ ((d.toNat : Int) == 39) = true := fun e => h39 ((quo_iff d).2 (beq_iff_eq.1 e))
      rw [if_neg h3, if_neg h3]
      unfold symR
      obtain ⟨t1, t2⟩ := two_cs h
      rw [t1]
      show (if two (d :: l) = true then _ else if Lib.indexByte SYM d < 0 then _ else _) = (if two (d :: l) = true then _ else if Lib.indexByte SYM d < 0 then _ else _)
      by_cases h4 : two (d :: l) = true
      · rw [if_pos h4, if_pos h4, t2 h4]
      · rw [if_neg h4, if_neg h4]
        rfl
theorem tokG_cs {l r : List UInt8} (h : CsL l r) (hq : ∀ c ∈ l, c ≠ 39) : ∀ (f k : Nat) (T : List Tk), tokG r f k T = tokG l f k T
  | 0, _, _ => rfl
  | f + 1, k, T => by
    rw [tokG, tokG, h.len]
    by_cases hk : k < l.length
    · rw [if_pos hk, if_pos hk]
      have hk2 : k < r.length := by rw [h.len]; exact hk
      have h1 := CsL.drop k h
      have e : nextR (r.drop k) = nextR (l.drop k) := by
        rw [List.drop_eq_getElem_cons hk, List.drop_eq_getElem_cons hk2] at h1 ⊢
        exact next_cs _ _ _ _ h1 (hq _ (List.getElem_mem hk))
      rw [e, skP_cs h, tokG_cs h hq f]
    · rw [if_neg hk, if_neg hk]
/-- Turning the case of letters leaves the tokens. -/
theorem tok_case {l r : List UInt8} (h : CsL l r) (hq : ∀ c ∈ l, c ≠ 39) : tokL r = tokL l := by
  unfold tokL
  rw [h.len, skP_cs h, tokG_cs h hq]
end Go.Proofs.YtdkkflmhpncglaaDoor
