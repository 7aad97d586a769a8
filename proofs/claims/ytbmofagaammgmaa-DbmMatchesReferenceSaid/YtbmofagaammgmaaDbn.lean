/- Bound: an entry put into a map that was just made; the loop's model. -/
import Derived.Test.YtbmofagaammgmaaDw0
import Derived.Test.YtbmofagaammgmaaDra
namespace Go.Proofs.Ytbmofagaammgmaa
open Go.ChangeShapes Go.WideShapes Go.ChangeAt Go.RowKit Go.ChangeMaps

theorem wpList_gins {k t e : TypeId} {κ : Type} [DecidableEq κ] {V : KV k κ} {b n s : Nat} {f : κ → Option Value} {ops : Array Oper} {rest : List Oper} {o : Oper} {a : Act} {Q : Exit → Act → World → Prop} (w : World) (hg : o.guard = none) (m x v : Operand) (hop : o.op = Op.insert t m x v)
    (ht : Try.prog.underlying t = some (.map k e)) (hm : a.eval m = .map (some b)) (h : MG V w b n s f) (hn : n < maxLen) (z : κ) (hz : V.ok z) (hx : a.eval x = V.kv z) (u : Value) (hv : a.eval v = u)
    (hK : ∀ w', MG V w' b (n + 1) (if (f z).isSome then s else s + 1) (gup f z u) → w.grownBy w' (some b) → wpList Try.prog ops Q rest (a.put o.dst undef) w') :
    wpList Try.prog ops Q (o :: rest) a w := by
  refine wpList_plain hg fun K' hK' => ?_
  obtain ⟨w', hrun, r1, r2⟩ := h.put ht hn hz u
  unfold Oper.wp
  simp [execOp, hop, hm, hx, hv, hrun, Result.andThen]
  exact hK' _ _ (hK w' r1 r2)
/-- One bound in Bound's round: what is reached, and whether it changed. -/
def bstp (c : Nat × Nat → Int) (s : (Nat → Option Int) × Bool) (p : Nat × Nat) : (Nat → Option Int) × Bool :=
  match s.1 p.2 with
  | none => s
  | some a => match s.1 p.1 with
    | none => (fun v => if v = p.1 then some (a + c p) else s.1 v, true)
    | some o => if a + c p < o then (fun v => if v = p.1 then some (a + c p) else s.1 v, true) else s
/-- What is reached is reached by walks. -/
theorem bstp_walk {c : Nat × Nat → Int} {P : List (Nat × Nat)} {j : Nat} {s : (Nat → Option Int) × Bool} (h : ∀ i a, s.1 i = some a → Walk (fun i u k => (i, u) ∈ P ∧ k = c (i, u)) j i a) {p : Nat × Nat} (hp : p ∈ P) :
    ∀ i a, (bstp c s p).1 i = some a → Walk (fun i u k => (i, u) ∈ P ∧ k = c (i, u)) j i a := by
  intro i a hi
  unfold bstp at hi
  cases h2 : s.1 p.2 with
  | none => rw [h2] at hi; exact h i a hi
  | some b =>
    rw [h2] at hi
    have hw : Walk (fun i u k => (i, u) ∈ P ∧ k = c (i, u)) j p.1 (b + c p) := .cons (u := p.2) ⟨hp, rfl⟩ (h _ _ h2)
    cases h1 : s.1 p.1 with
    | none =>
      rw [h1] at hi
      have hi : (if i = p.1 then some (b + c p) else s.1 i) = some a := hi
      split at hi
      · rename_i e; injection hi with hi; rw [e, ← hi]; exact hw
      · exact h i a hi
    | some o =>
      rw [h1] at hi
      have hi : ((if b + c p < o then ((fun v => if v = p.1 then some (b + c p) else s.1 v, true) : (Nat → Option Int) × Bool) else s)).1 i = some a := hi
      split at hi
      · have hi : (if i = p.1 then some (b + c p) else s.1 i) = some a := hi
        split at hi
        · rename_i e; injection hi with hi; rw [e, ← hi]; exact hw
        · exact h i a hi
      · exact h i a hi
theorem bstp_no {c : Nat × Nat → Int} {s : (Nat → Option Int) × Bool} {p : Nat × Nat} (h : (bstp c s p).2 = false) : bstp c s p = s ∧ ∀ a, s.1 p.2 = some a → ∃ o, s.1 p.1 = some o ∧ o ≤ a + c p := by
  unfold bstp at h ⊢
  cases h2 : s.1 p.2 with
  | none => exact ⟨rfl, fun a ha => by cases ha⟩
  | some b =>
    rw [h2] at h
    cases h1 : s.1 p.1 with
    | none =>
      rw [h1] at h
      cases h
    | some o =>
      rw [h1] at h
      by_cases hlt : b + c p < o
      · have h : ((if b + c p < o then ((fun v => if v = p.1 then some (b + c p) else s.1 v, true) : (Nat → Option Int) × Bool) else s)).2 = false := h
        rw [if_pos hlt] at h
        cases h
      · refine ⟨if_neg hlt, fun a ha => ⟨o, rfl, ?_⟩⟩
        injection ha with ha
        omega
theorem bfold_no {c : Nat × Nat → Int} : ∀ (P : List (Nat × Nat)) (s : (Nat → Option Int) × Bool), (P.foldl (bstp c) s).2 = false → (P.foldl (bstp c) s) = s ∧ ∀ p ∈ P, ∀ a, s.1 p.2 = some a → ∃ o, s.1 p.1 = some o ∧ o ≤ a + c p
  | [], s, _ => ⟨rfl, fun p hp => by cases hp⟩
  | p :: P, s, h => by
    obtain ⟨e, hall⟩ := bfold_no P (bstp c s p) h
    have hf : (bstp c s p).2 = false := by
      have h' : ((P.foldl (bstp c) (bstp c s p))).2 = false := h
      rw [e] at h'
      exact h'
    obtain ⟨e2, h2⟩ := bstp_no hf
    rw [e2] at e hall
    refine ⟨by show P.foldl (bstp c) (bstp c s p) = s; rw [e2]; exact e, fun q hq => ?_⟩
    rcases List.mem_cons.1 hq with rfl | hq
    · exact h2
    · exact hall q hq
end Go.Proofs.Ytbmofagaammgmaa
