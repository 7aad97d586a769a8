/- A drawn region with several operations that make memory: each one's result is described by what it meets, in whatever order they come up. -/
import Derived.Test.YtbmofagaammgmaaMix
import Derived.Test.YtbmofagaammgmaaBas
namespace Go.Proofs.Ytbmofagaammgmaa
open Go.ChangeShapes Go.WideShapes Go.ChangeAt Go.RowKit Go.ChangeMaps

section
variable {P : Program} {ops : Array Oper} {Q : Exit → Act → World → Prop} {S : World → Prop}
def puts (dst : Nat → Nat) (l : List Nat) (vs : Nat → Value) (a : Act) : Act := l.foldl (fun a j => a.put (some (dst j)) (vs j)) a
theorem put_twice (a : Act) (d : Nat) (v u : Value) : (a.put (some d) v).put (some d) u = a.put (some d) u := by
  simp [Act.put]
theorem puts_put {dst : Nat → Nat} : ∀ (l : List Nat) (vs : Nat → Value) (a : Act) (d : Nat) (v : Value), d ∉ l.map dst → (puts dst l vs a).put (some d) v = puts dst l vs (a.put (some d) v)
  | [], _, _, _, _, _ => rfl
  | k :: l, vs, a, d, v, h => by
    have h1 : d ≠ dst k := fun e => h (by simp [e])
    have h2 : d ∉ l.map dst := fun e => h (List.mem_cons_of_mem _ e)
    show (puts dst l vs (a.put (some (dst k)) (vs k))).put (some d) v = puts dst l vs ((a.put (some d) v).put (some (dst k)) (vs k))
    rw [puts_put l vs _ d v h2, Act.put_comm a (vs k) v (fun d' e e' => by cases e; cases e'; exact h1 rfl)]
theorem puts_congr {dst : Nat → Nat} : ∀ (l : List Nat) (vs vs' : Nat → Value) (a : Act), (∀ j ∈ l, vs j = vs' j) → puts dst l vs a = puts dst l vs' a
  | [], _, _, _, _ => rfl
  | k :: l, vs, vs', a, h => by
    show puts dst l vs (a.put (some (dst k)) (vs k)) = puts dst l vs' (a.put (some (dst k)) (vs' k))
    rw [h k (List.mem_cons_self ..)]
    exact puts_congr l vs vs' _ fun j hj => h j (List.mem_cons_of_mem _ hj)
theorem puts_upd {dst : Nat → Nat} {i : Nat} {v : Value} : ∀ (l : List Nat) (vs : Nat → Value) (a : Act), (l.map dst).Nodup → i ∈ l →
    (puts dst l vs a).put (some (dst i)) v = puts dst l (fun j => if j = i then v else vs j) a
  | k :: l, vs, a, hn, hi => by
    rw [List.map_cons, List.nodup_cons] at hn
    by_cases hk : k = i
    · subst hk
      have hni : k ∉ l := fun e => hn.1 (List.mem_map.2 ⟨k, e, rfl⟩)
      show (puts dst l vs (a.put (some (dst k)) (vs k))).put (some (dst k)) v = puts dst l _ (a.put (some (dst k)) (if k = k then v else vs k))
      rw [puts_put l vs _ _ v hn.1, put_twice, if_pos rfl]
      exact puts_congr l _ _ _ fun j hj => (if_neg (fun e : j = k => hni (by rw [← e]; exact hj))).symm
    · have hil : i ∈ l := (List.mem_cons.1 hi).resolve_left (Ne.symm hk)
      show (puts dst l vs (a.put (some (dst k)) (vs k))).put (some (dst i)) v = puts dst l _ (a.put (some (dst k)) (if k = i then v else vs k))
      rw [if_neg hk]
      exact puts_upd l vs _ hn.2 hil
theorem put_self (a : Act) (d : Nat) : a.put (some d) (a.tmps.getD d undef) = a := by
  obtain ⟨t, f⟩ := a
  simp only [Act.put, Act.mk.injEq, and_true]
  apply Array.ext
  · simp
  · intro i h1 h2
    rw [Array.getElem_setIfInBounds]
    split
    · rename_i h; subst h; simp [h2]
    · rfl
theorem puts_self {dst : Nat → Nat} (a : Act) : ∀ (l : List Nat), puts dst l (fun j => a.tmps.getD (dst j) undef) a = a
  | [] => rfl
  | k :: l => by
    show puts dst l _ (a.put (some (dst k)) (a.tmps.getD (dst k) undef)) = a
    rw [put_self]
    exact puts_self a l
def depB (ops : Array Oper) (i j : Nat) : Bool := match ops[i]? with | some o => o.after.any fun e => Region.binds .any e && e.on == j | none => false
def backB (ops : Array Oper) (n : Nat) : Bool := (List.range n).all fun i => match ops[i]? with | some o => o.after.all fun e => !Region.binds .any e || decide (e.on < i) | none => false
theorem least_of : ∀ (l : List Nat), l ≠ [] → ∃ i ∈ l, ∀ j ∈ l, i ≤ j
  | [], h => absurd rfl h
  | [a], _ => ⟨a, List.mem_cons_self .., fun j hj => by simp at hj; omega⟩
  | a :: b :: l, _ => by
    obtain ⟨i, hi, hm⟩ := least_of (b :: l) (by simp)
    by_cases h : a ≤ i
    · exact ⟨a, List.mem_cons_self .., fun j hj => (List.mem_cons.1 hj).elim (fun e => by omega) (fun hj => Nat.le_trans h (hm j hj))⟩
    · exact ⟨i, List.mem_cons_of_mem _ hi, fun j hj => (List.mem_cons.1 hj).elim (fun e => by omega) (fun hj => hm j hj)⟩
theorem wpAnyM_chains {n : Nat} {L : Array Bool → Act → World → Prop} {dst : Nat → Nat} {todo0 : List Nat} {a0 : Act} (Spec : Nat → Value → World → Prop) (hnd : (todo0.map dst).Nodup)
    (hs : Region.sinkB .any ops n = true) (hc : Region.chainB .any ops n = true) (hn : n < ops.size) (hb : backB ops n = true)
    (hmono : ∀ i v w w', Spec i v w → Below w.heap.size w w' → Spec i v w') 
    (hstep : ∀ i ∈ todo0, ∃ o, ops[i]? = some o ∧ o.dst = some (dst i) ∧ ∀ (vs : Nat → Value) (w : World) (K : Act → World → Prop), S w → (∀ j ∈ todo0, depB ops i j = true → Spec j (vs j) w) →
      (∀ v w', S w' → Below w.heap.size w w' → Spec i v w' → K ((puts dst todo0 vs a0).put (some (dst i)) v) w') →
      if Region.wanted o (yielded ops (puts dst todo0 vs a0).tmps) = true then Oper.wp P o (puts dst todo0 vs a0) w K Q else K ((puts dst todo0 vs a0).put (some (dst i)) undef) w)
    (hend : ∀ listed vs w, HeadInv .any ops n listed → (∀ j, j < n → listed.getD j false = true) → S w → (∀ j ∈ todo0, Spec j (vs j) w) → L listed (puts dst todo0 vs a0) w) :
    ∀ (f : Nat) (todo : List Nat) (listed : Array Bool) (vs : Nat → Value) (w : World), todo.length = f → (∀ j ∈ todo, j ∈ todo0) → todo.Nodup → (∀ j ∈ todo, j < n) → HeadInv .any ops n listed →
      (∀ j ∈ todo, listed.getD j true = false) → (∀ j, j < n → j ∉ todo → listed.getD j false = true) → S w → (∀ j ∈ todo0, j ∉ todo → Spec j (vs j) w) →
      wpAnyM P .any ops Q S n L f listed (puts dst todo0 vs a0) w := by
  intro f
  induction f with
  | zero =>
    intro todo listed vs w hf hsub _ _ inv _ hdone hS hsp
    obtain rfl : todo = [] := List.length_eq_zero_iff.1 hf
    exact hend listed vs w inv (fun j hj => hdone j hj (by simp)) hS (fun j hj => hsp j hj (by simp))
  | succ f ih =>
    intro todo listed vs w hf hsub hnodup hlt inv hun hdone hS hsp
    have hne : todo ≠ [] := fun e => by subst e; simp at hf
    obtain ⟨i0, hi0, hmin⟩ := least_of todo hne
    have hops : ∀ j, j < n → ∃ o, ops[j]? = some o := fun j hj => ⟨_, Array.getElem?_eq_getElem (by omega)⟩
    have hready : i0 ∈ Region.ready .any ops listed := by
      obtain ⟨o, ho⟩ := hops i0 (hlt i0 hi0)
      refine mem_ready.2 ⟨hun i0 hi0, o, ho, fun e he hbd => ?_⟩
      have h1 := List.all_eq_true.1 hb i0 (List.mem_range.2 (hlt i0 hi0))
      rw [ho] at h1
      have h2 := Array.all_eq_true'.1 h1 e he
      rw [hbd] at h2
      have h3 : e.on < i0 := by simpa using h2
      refine hdone _ (Nat.lt_trans h3 (hlt i0 hi0)) fun hm => ?_
      have := hmin _ hm
      omega
    refine ⟨fun h0 => (by rw [h0] at hready; cases hready), fun i hi => ?_⟩
    have hin : i < n := by
      rcases Nat.lt_or_ge i n with h | h
      · exact h
      · exact absurd hi (tail_waits hs hc hn inv _ i0 rfl (hlt i0 hi0) (hun i0 hi0) i h)
    obtain ⟨hiun, oi, hoi, hall⟩ := mem_ready.1 hi
    have hit : i ∈ todo := by
      refine Classical.byContradiction fun hni => ?_
      have h1 := hdone i hin hni
      rw [getD_both hiun] at h1
      cases h1
    refine ⟨hin, ?_⟩
    obtain ⟨o, ho, hdo, hst⟩ := hstep i (hsub i hit)
    obtain rfl : o = oi := Option.some.inj (ho.symm.trans hoi)
    have hdeps : ∀ j ∈ todo0, depB ops i j = true → Spec j (vs j) w := fun j hj hd => hsp j hj fun hjt => by
      unfold depB at hd
      rw [ho] at hd
      obtain ⟨e, he, h2⟩ := Array.any_eq_true'.1 hd
      simp only [Bool.and_eq_true, beq_iff_eq] at h2
      have h3 := hall e he h2.1
      rw [h2.2, getD_both (hun j hjt)] at h3
      cases h3
    refine wpOp_step ho fun K hK => ?_
    rw [hdo]
    refine hst vs w K hS hdeps fun v w' hS' hbw hsv => hK _ _ ⟨hS', ?_⟩
    rw [puts_upd todo0 vs a0 hnd (hsub i hit)]
    refine ih (todo.erase i) _ _ _ (by rw [List.length_erase_of_mem hit, hf]; rfl) (fun j hj => hsub j (List.mem_of_mem_erase hj)) (hnodup.erase i) (fun j hj => hlt j (List.mem_of_mem_erase hj)) (inv.set hi hin) (fun j hj => ?_) (fun j hj hnj => ?_) hS' (fun j hj hnj => ?_)
    · have hji : i ≠ j := fun e => by subst e; exact (hnodup.not_mem_erase) hj
      rw [getD_set_ne true hji]
      exact hun j (List.mem_of_mem_erase hj)
    · by_cases hji : j = i
      · subst hji
        have : j < listed.size := by rw [inv.size]; omega
        simp [this]
      · exact getD_set_true (hdone j hj fun hjt => hnj ((List.mem_erase_of_ne hji).2 hjt))
    · by_cases hji : j = i
      · subst hji; rw [if_pos rfl]; exact hsv
      · rw [if_neg hji]
        exact hmono _ _ _ _ (hsp j hj fun hjt => hnj ((List.mem_erase_of_ne hji).2 hjt)) hbw
theorem headinv_full {n : Nat} {listed : Array Bool} (hn : n ≤ ops.size) (inv : HeadInv .any ops n listed) (h : ∀ j, j < n → listed.getD j false = true) : listed = Array.replicate n true ++ Array.replicate (ops.size - n) false := by
  apply Array.ext
  · rw [inv.size]; simp; omega
  · intro i h1 h2
    have hi : i < ops.size := by rw [← inv.size]; exact h1
    rcases Nat.lt_or_ge i n with hin | hin
    · have h3 := h i hin
      simp [h1] at h3
      simp [Array.getElem_append, hin, h3]
    · have h3 := inv.tail i hin hi
      simp [h1] at h3
      simp [Array.getElem_append, Nat.not_lt.2 hin, h3]
theorem wpM_chains {n : Nat} {T : List Oper} {a : Act} {listed : Array Bool} {w : World} (dst : Nat → Nat) (todo : List Nat) (Spec : Nat → Value → World → Prop)
    (hB : (decide (todo.map dst).Nodup && decide todo.Nodup && Region.sinkB .any ops n && Region.chainB .any ops n && decide (n < ops.size) && backB ops n && todo.all (fun j => decide (j < n) && !listed.getD j true) && (List.range n).all (fun j => todo.contains j || listed.getD j false) && Region.seqB .any ops T.length n (Array.replicate n true ++ Array.replicate (ops.size - n) false)) = true)
    (hmono : ∀ i v w w', Spec i v w → Below w.heap.size w w' → Spec i v w') (hS : S w)
    (hstep : ∀ i ∈ todo, ∃ o, ops[i]? = some o ∧ o.dst = some (dst i) ∧ ∀ (vs : Nat → Value) (w : World) (K : Act → World → Prop), S w → (∀ j ∈ todo, depB ops i j = true → Spec j (vs j) w) →
      (∀ v w', S w' → Below w.heap.size w w' → Spec i v w' → K ((puts dst todo vs a).put (some (dst i)) v) w') →
      if Region.wanted o (yielded ops (puts dst todo vs a).tmps) = true then Oper.wp P o (puts dst todo vs a) w K Q else K ((puts dst todo vs a).put (some (dst i)) undef) w)
    (hend : ∀ vs w, S w → (∀ j ∈ todo, Spec j (vs j) w) → wpList P ops Q T (puts dst todo vs a) w) :
    wpM P ops Q S n T todo.length listed a w := by
  intro inv
  simp only [Bool.and_eq_true, decide_eq_true_eq, List.all_eq_true, Bool.not_eq_true', Bool.or_eq_true, List.contains_iff_mem, List.mem_range] at hB
  obtain ⟨⟨⟨⟨⟨⟨⟨⟨h1, h2⟩, h3⟩, h4⟩, h5⟩, h6⟩, h7⟩, h8⟩, h9⟩ := hB
  have := wpAnyM_chains (P := P) (Q := Q) (S := S) (L := fun listed' a' w' => Region.seqB .any ops T.length n listed' = true ∧ wpList P ops Q T a' w') Spec h1 h3 h4 h5 h6 hmono hstep
    (fun listed vs w inv' hall hS' hsp => ⟨by rw [headinv_full (by omega) inv' hall]; exact h9, hend vs w hS' hsp⟩)
    todo.length todo listed (fun j => a.tmps.getD (dst j) undef) w rfl (fun j hj => hj) h2 (fun j hj => (h7 j hj).1) inv (fun j hj => (h7 j hj).2) (fun j hj hnj => (h8 j hj).resolve_left hnj) hS (fun j hj hnj => absurd hj hnj)
  rw [puts_self] at this
  exact this
end
end Go.Proofs.Ytbmofagaammgmaa
