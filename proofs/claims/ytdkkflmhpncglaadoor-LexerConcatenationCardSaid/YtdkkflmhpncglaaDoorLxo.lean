/- Tokens: the model, and rows of tokens. -/
import Derived.Test.YtdkkflmhpncglaaDoorLxn
namespace Go.Proofs.YtdkkflmhpncglaaDoor
open Go.ChangeShapes Go.WideShapes Go.ChangeAt Go.RowKit Go.ChangeMaps

structure Tk where
  k : Int
  t : List UInt8
  p : Nat
deriving DecidableEq
def Tk.cells (x : Tk) : List Value := [.int .i64 x.k, .string ⟨x.t.toArray⟩, .int .i64 (x.p : Int)]
def OT (L : TypeId) (w : World) (base : Nat) (v : Value) (R : List Tk) : Prop := w.ownsRow base L 3 v R.length (R.flatMap Tk.cells)
theorem tk_one (s : Tk) : ∀ u ∈ s.cells, u.oneCell' = true := by
  intro u hu
  simp only [Tk.cells, List.mem_cons, List.not_mem_nil, or_false] at hu
  rcases hu with rfl | rfl | rfl <;> rfl
theorem tks_one (R : List Tk) : ∀ u ∈ R.flatMap Tk.cells, u.oneCell' = true := by
  intro u hu
  obtain ⟨x, _, hx⟩ := List.mem_flatMap.1 hu
  exact tk_one x u hx
def Tks (w : World) (A : Option Addr) (n : Nat) (R : List Tk) : Prop := At w A n 3 (R.flatMap Tk.cells)
theorem Tks.len {w : World} {A : Option Addr} {n : Nat} {R : List Tk} (h : Tks w A n R) : R.length = n := by
  have h1 := h.1
  rw [flat_len Tk.cells 3 (fun _ => rfl)] at h1
  omega
theorem Tks.below {w w' : World} {A : Option Addr} {n : Nat} {R : List Tk} (h : Tks w A n R) (hb : Below w.heap.size w w') : Tks w' A n R := At.below h hb
theorem Tks.at {w : World} {A : Option Addr} {n : Nat} {R : List Tk} (h : Tks w A n R) (hn : 0 < n) : ∃ b off, A = some ⟨b, off, none⟩ ∧ b < w.heap.size ∧ ∀ (W : World), Below w.heap.size w W → ∀ i (hi : i < R.length),
    W.cell? ⟨b, off + i * 3, none⟩ = some (.int .i64 R[i].k) ∧ W.cell? ⟨b, off + i * 3 + 1, none⟩ = some (.string ⟨R[i].t.toArray⟩) ∧ W.cell? ⟨b, off + i * 3 + 2, none⟩ = some (.int .i64 (R[i].p : Int)) := by
  obtain ⟨b, off, e, hb, hc⟩ := h.2 hn
  refine ⟨b, off, e, hb, fun W hW i hi => ?_⟩
  have g : ∀ j u, j < 3 → (R[i].cells)[j]? = some u → W.cell? ⟨b, off + i * 3 + j, none⟩ = some u := fun j u hj hu => by
    rw [Nat.add_assoc]
    exact keepcell hW (hc _ _ ((flat_get Tk.cells 3 (fun _ => rfl) R i j hi hj).trans hu))
  exact ⟨g 0 _ (by decide) rfl, g 1 _ (by decide) rfl, g 2 _ (by decide) rfl⟩
theorem OT.tks {L : TypeId} {w : World} {base : Nat} {v : Value} {R : List Tk} (h : OT L w base v R) : ∃ A c, v = .slice A R.length c ∧ Tks w A R.length R ∧ R.length ≤ c ∧ c ≤ maxLen := by
  obtain ⟨A, c, e, h1, h2, h3⟩ := At.of_own h
  exact ⟨A, c, e, h1, h2, h3⟩
theorem OT.below {L : TypeId} {w w' : World} {base : Nat} {v : Value} {R : List Tk} (h : OT L w base v R) (hb : Below w.heap.size w w') : OT L w' base v R := own_below h hb
theorem OT.nil (L : TypeId) (w : World) (base : Nat) : OT L w base (.slice none 0 0) [] := World.ownsRow_nil _ _ _ _
theorem tks_app (T : List Tk) (x : Tk) : (T ++ [x]).flatMap Tk.cells = T.flatMap Tk.cells ++ x.cells := by rw [List.flatMap_append]; simp
theorem Tryd.info37 : (Tryd.prog.info? 37).map (fun i => (i.zero, i.size, i.bytes)) = some (some (.agg #[.int .i64 0, .string ⟨#[]⟩, .int .i64 0]), 3, 32) := by kernel_rfl
theorem Tryd.info43 : (Tryd.prog.info? 43).map (fun i => (i.zero, i.size, i.bytes)) = some (some (.agg #[.int .i64 0, .string ⟨#[]⟩, .int .i64 0]), 3, 32) := by kernel_rfl
/-- What Tokens gives. -/
structure TS where
  ts : List Tk
  at_ : Nat
  e : Int
def tokG (l : List UInt8) : Nat → Nat → List Tk → TS
  | 0, _, T => ⟨T, 0, 0⟩
  | f + 1, k, T => if k < l.length then (if (nextR (l.drop k)).e = 0 then tokG l f (skP l (k + (nextR (l.drop k)).n)) (T ++ [⟨(nextR (l.drop k)).k, (nextR (l.drop k)).t, k⟩]) else ⟨[], k, (nextR (l.drop k)).e⟩) else ⟨T ++ [⟨0, [], l.length⟩], 0, 0⟩
def tokL (l : List UInt8) : TS := if 16384 < l.length then ⟨[], 16384, 3⟩ else tokG l (l.length + 1) (skP l 0) []
theorem litQ_le : ∀ (N : Nat) (l : List UInt8), l.length ≤ N → ∀ x, litQ l = some x → 1 ≤ x.2 ∧ x.2 ≤ l.length
  | _, [], _, x, h => by rw [litQ] at h; cases h
  | 0, c :: l, hl, _, _ => by simp at hl
  | N + 1, c :: l, hl, x, h => by
    rw [litQ.eq_def] at h
    simp only at h
    split at h
    · split at h
      · split at h
        · injection h with h; subst h; simp
        · rename_i d l'
          split at h
          · rw [Option.map_eq_some_iff] at h
            obtain ⟨y, hy, rfl⟩ := h
            have := litQ_le N l' (by simp at hl; omega) y hy
            simp
            omega
          · injection h with h; subst h; simp
      · rw [Option.map_eq_some_iff] at h
        obtain ⟨y, hy, rfl⟩ := h
        have := litQ_le N l (by simpa using hl) y hy
        simp
        omega
    · cases h
theorem run_one {p : UInt8 → Bool} {l : List UInt8} (h0 : 0 < l.length) (h : p (l.getD 0 0) = true) : 1 ≤ runP p l 0 ∧ runP p l 0 ≤ l.length := by
  have e : l.getD 0 0 = l[0] := by simp [List.getD, List.getElem?_eq_getElem h0]
  rw [e] at h
  refine ⟨?_, (runP_le (Nat.zero_le _)).2⟩
  rw [runP_yes h0 h]
  exact (runP_le (k := 0 + 1) h0).1
theorem pick3 (A B : Bool) (k : Nat) (t : List UInt8) (he : (if A = true then (⟨0, [], 0, 2⟩ : TR) else if B = true then ⟨0, [], 0, 3⟩ else ⟨3, t, k, 0⟩).e = 0) : (if A = true then (⟨0, [], 0, 2⟩ : TR) else if B = true then ⟨0, [], 0, 3⟩ else ⟨3, t, k, 0⟩).n = k := by
  cases A <;> cases B <;> first | rfl | (exact absurd he (by decide)) | (exact absurd he (show ¬ ((2 : Int) = 0) by decide)) | (exact absurd he (show ¬ ((3 : Int) = 0) by decide))
theorem numAt_ok (c0 : UInt8) (k : Nat) (nx : Option UInt8) (t : List UInt8) (he : (numAt c0 k nx t).e = 0) : (numAt c0 k nx t).n = k := by
  unfold numAt at he ⊢
  exact pick3 _ _ k t he
theorem next_ok (l : List UInt8) (h0 : 0 < l.length) (he : (nextR l).e = 0) : 1 ≤ (nextR l).n ∧ (nextR l).n ≤ l.length := by
  unfold nextR at he ⊢
  split at he
  · rename_i h1
    rw [if_pos h1]
    have hr := run_one (p := wrd) h0 (by unfold wrd; rw [h1]; rfl)
    unfold wordR wordAt at he ⊢
    split at he
    · rename_i h2; rw [if_pos h2]; exact hr
    · rename_i h2
      rw [if_neg h2]
      split at he
      · exact absurd he (by decide)
      · rename_i h3; rw [if_neg h3]; exact hr
  · rename_i h1
    rw [if_neg h1]
    split at he
    · rename_i h2
      rw [if_pos h2]
      have hr := run_one (p := dgt) h0 h2
      unfold numR at he ⊢
      rw [numAt_ok _ _ _ _ he]
      exact hr
    · rename_i h2
      rw [if_neg h2]
      split at he
      · rename_i h3
        rw [if_pos h3]
        unfold textR litP at he ⊢
        rcases hq : litQ (l.drop 1) with _ | x
        · rw [hq] at he; exact absurd he (by decide)
        · have := litQ_le _ _ (Nat.le_refl _) x hq
          rw [List.length_drop] at this
          rw [hq] at he
          simp only [Option.map_some, textAt] at he ⊢
          split at he
          · exact absurd he (by decide)
          · rename_i h4
            rw [if_neg h4]
            simp only
            omega
      · rename_i h3
        rw [if_neg h3]
        unfold symR at he ⊢
        split at he
        · rename_i h4
          rw [if_pos h4]
          unfold two at h4
          rw [Bool.and_eq_true, decide_eq_true_eq] at h4
          exact ⟨(by show 1 ≤ 2; decide), h4.1⟩
        · rename_i h4
          rw [if_neg h4]
          split at he
          · exact absurd he (by decide)
          · rename_i h5
            rw [if_neg h5]
            exact ⟨Nat.le_refl _, h0⟩
end Go.Proofs.YtdkkflmhpncglaaDoor
