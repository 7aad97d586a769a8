/- An invariant over what has been done, where stores are among what may come in any order. -/
import Derived.Test.YthfolccofjaknaaMA
namespace Go.Proofs.Ythfolccofjaknaa
open Go.ChangeShapes Go.WideShapes Go.ChangeAt Go.RowKit Go.ChangeMaps

theorem put_big (a : Act) (d : Nat) (v : Value) (h : a.tmps.size ≤ d) : a.put (some d) v = a.put none v := by
  obtain ⟨t, f⟩ := a
  simp only [Act.put]
  congr 1
  exact Array.setIfInBounds_eq_of_size_le h
theorem puts_size {dst : Nat → Nat} : ∀ (l : List Nat) (vs : Nat → Value) (a : Act), (puts dst l vs a).tmps.size = a.tmps.size
  | [], _, _ => rfl
  | k :: l, vs, a => by
    show (puts dst l vs (a.put (some (dst k)) (vs k))).tmps.size = _
    rw [puts_size l vs _]
    simp [Act.put]
section
variable {P : Program} {ops : Array Oper} {Q : Exit → Act → World → Prop} {S : World → Prop}
theorem wpAnyM_inv2 {n : Nat} {L : Array Bool → Act → World → Prop} {dst : Nat → Nat} {todo0 : List Nat} {a0 : Act} (Inv : (Nat → Bool) → (Nat → Value) → World → Prop) (hnd : (todo0.map dst).Nodup)
    (hs : Region.sinkB .any ops n = true) (hc : Region.chainB .any ops n = true) (hn : n < ops.size) (hb : backB ops n = true) (hIS : ∀ d vs w, Inv d vs w → S w)
    (hstep : ∀ i ∈ todo0, ∃ o, ops[i]? = some o ∧ (o.dst = some (dst i) ∨ (o.dst = none ∧ a0.tmps.size ≤ dst i)) ∧ ∀ (d : Nat → Bool) (vs : Nat → Value) (w : World) (K : Act → World → Prop), Inv d vs w → d i = false → (∀ j ∈ todo0, depB ops i j = true → d j = true) →
      (∀ v w', Inv (upd d i true) (upd vs i v) w' → K ((puts dst todo0 vs a0).put o.dst v) w') →
      if Region.wanted o (yielded ops (puts dst todo0 vs a0).tmps) = true then Oper.wp P o (puts dst todo0 vs a0) w K Q else K ((puts dst todo0 vs a0).put o.dst undef) w)
    (hend : ∀ listed d vs w, HeadInv .any ops n listed → (∀ j, j < n → listed.getD j false = true) → (∀ j ∈ todo0, d j = true) → Inv d vs w → L listed (puts dst todo0 vs a0) w) :
    ∀ (f : Nat) (todo : List Nat) (listed : Array Bool) (d : Nat → Bool) (vs : Nat → Value) (w : World), todo.length = f → (∀ j ∈ todo, j ∈ todo0) → todo.Nodup → (∀ j ∈ todo, j < n) → HeadInv .any ops n listed →
      (∀ j ∈ todo, listed.getD j true = false) → (∀ j, j < n → j ∉ todo → listed.getD j false = true) → (∀ j ∈ todo, d j = false) → (∀ j ∈ todo0, j ∉ todo → d j = true) → Inv d vs w →
      wpAnyM P .any ops Q S n L f listed (puts dst todo0 vs a0) w := by
  intro f
  induction f with
  | zero =>
    intro todo listed d vs w hf hsub _ _ inv _ hdone _ hd1 hI
    obtain rfl : todo = [] := List.length_eq_zero_iff.1 hf
    exact hend listed d vs w inv (fun j hj => hdone j hj (by simp)) (fun j hj => hd1 j hj (by simp)) hI
  | succ f ih =>
    intro todo listed d vs w hf hsub hnodup hlt inv hun hdone hd0 hd1 hI
    have hne : todo ≠ [] := fun e => by subst e; simp at hf
    obtain ⟨i0, hi0, hmin⟩ := least_of todo hne
    have hops : ∀ j, j < n → ∃ o, ops[j]? = some o := fun j hj => ⟨_, Array.getElem?_eq_getElem (by omega)⟩
    have hready : i0 ∈ Region.ready .any ops listed := by
      obtain ⟨o, ho⟩ := hops i0 (hlt i0 hi0)
      refine mem_ready.2 ⟨hun i0 hi0, o, ho, fun e he hbd => ?_⟩
      have h1 := List.all_eq_true.1 hb i0 (List.mem_range.2 (hlt i0 hi0))
      rw [ho] at h1
      have h2 := Array.all_eq_true'.1 h1 e he
      rw [hbd] at h2
      have h3 : e.on < i0 := by simpa using h2
      refine hdone _ (Nat.lt_trans h3 (hlt i0 hi0)) fun hm => ?_
      have := hmin _ hm
      omega
    refine ⟨fun h0 => (by rw [h0] at hready; cases hready), fun i hi => ?_⟩
    have hin : i < n := by
      rcases Nat.lt_or_ge i n with h | h
      · exact h
      · exact absurd hi (tail_waits hs hc hn inv _ i0 rfl (hlt i0 hi0) (hun i0 hi0) i h)
    obtain ⟨hiun, oi, hoi, hall⟩ := mem_ready.1 hi
    have hit : i ∈ todo := by
      refine Classical.byContradiction fun hni => ?_
      have h1 := hdone i hin hni
      rw [getD_both hiun] at h1
      cases h1
    refine ⟨hin, ?_⟩
    obtain ⟨o, ho, hdo, hst⟩ := hstep i (hsub i hit)
    obtain rfl : o = oi := Option.some.inj (ho.symm.trans hoi)
    have hdeps : ∀ j ∈ todo0, depB ops i j = true → d j = true := fun j hj hd => hd1 j hj fun hjt => by
      unfold depB at hd
      rw [ho] at hd
      obtain ⟨e, he, h2⟩ := Array.any_eq_true'.1 hd
      simp only [Bool.and_eq_true, beq_iff_eq] at h2
      have h3 := hall e he h2.1
      rw [h2.2, getD_both (hun j hjt)] at h3
      cases h3
    refine wpOp_step ho fun K hK => ?_
    refine hst d vs w K hI (hd0 i hit) hdeps fun v w' hI' => hK _ _ ⟨hIS _ _ _ hI', ?_⟩
    have e : (puts dst todo0 vs a0).put o.dst v = (puts dst todo0 vs a0).put (some (dst i)) v := by
      rcases hdo with h | ⟨h, h2⟩
      · rw [h]
      · rw [h, put_big _ _ _ (by rw [puts_size]; exact h2)]
    rw [e, puts_upd todo0 vs a0 hnd (hsub i hit)]
    refine ih (todo.erase i) _ (upd d i true) _ _ (by rw [List.length_erase_of_mem hit, hf]; rfl) (fun j hj => hsub j (List.mem_of_mem_erase hj)) (hnodup.erase i) (fun j hj => hlt j (List.mem_of_mem_erase hj)) (inv.set hi hin) (fun j hj => ?_) (fun j hj hnj => ?_) (fun j hj => ?_) (fun j hj hnj => ?_) hI'
    · have hji : i ≠ j := fun e => by subst e; exact (hnodup.not_mem_erase) hj
      rw [getD_set_ne true hji]
      exact hun j (List.mem_of_mem_erase hj)
    · by_cases hji : j = i
      · subst hji
        have : j < listed.size := by rw [inv.size]; omega
        simp [this]
      · exact getD_set_true (hdone j hj fun hjt => hnj ((List.mem_erase_of_ne hji).2 hjt))
    · have hji : j ≠ i := fun e => by subst e; exact (hnodup.not_mem_erase) hj
      rw [upd_other _ _ _ _ hji]
      exact hd0 j (List.mem_of_mem_erase hj)
    · by_cases hji : j = i
      · subst hji; exact upd_same _ _ _
      · rw [upd_other _ _ _ _ hji]
        exact hd1 j hj fun hjt => hnj ((List.mem_erase_of_ne hji).2 hjt)
theorem wpM_inv2 {n : Nat} {T : List Oper} {a : Act} {listed : Array Bool} {w : World} (dst : Nat → Nat) (todo : List Nat) (Inv : (Nat → Bool) → (Nat → Value) → World → Prop)
    (hB : (decide (todo.map dst).Nodup && decide todo.Nodup && Region.sinkB .any ops n && Region.chainB .any ops n && decide (n < ops.size) && backB ops n && todo.all (fun j => decide (j < n) && !listed.getD j true) && (List.range n).all (fun j => todo.contains j || listed.getD j false) && Region.seqB .any ops T.length n (Array.replicate n true ++ Array.replicate (ops.size - n) false)) = true)
    (hIS : ∀ d vs w, Inv d vs w → S w) (h0 : Inv (fun _ => false) (fun j => a.tmps.getD (dst j) undef) w)
    (hstep : ∀ i ∈ todo, ∃ o, ops[i]? = some o ∧ (o.dst = some (dst i) ∨ (o.dst = none ∧ a.tmps.size ≤ dst i)) ∧ ∀ (d : Nat → Bool) (vs : Nat → Value) (w : World) (K : Act → World → Prop), Inv d vs w → d i = false → (∀ j ∈ todo, depB ops i j = true → d j = true) →
      (∀ v w', Inv (upd d i true) (upd vs i v) w' → K ((puts dst todo vs a).put o.dst v) w') →
      if Region.wanted o (yielded ops (puts dst todo vs a).tmps) = true then Oper.wp P o (puts dst todo vs a) w K Q else K ((puts dst todo vs a).put o.dst undef) w)
    (hend : ∀ d vs w, (∀ j ∈ todo, d j = true) → Inv d vs w → wpList P ops Q T (puts dst todo vs a) w) :
    wpM P ops Q S n T todo.length listed a w := by
  intro inv
  simp only [Bool.and_eq_true, decide_eq_true_eq, List.all_eq_true, Bool.not_eq_true', Bool.or_eq_true, List.contains_iff_mem, List.mem_range] at hB
  obtain ⟨⟨⟨⟨⟨⟨⟨⟨h1, h2⟩, h3⟩, h4⟩, h5⟩, h6⟩, h7⟩, h8⟩, h9⟩ := hB
  have h10 : Inv (fun j => !(todo.contains j) && false) (fun j => a.tmps.getD (dst j) undef) w := by
    simpa using h0
  have := wpAnyM_inv2 (P := P) (Q := Q) (S := S) (L := fun listed' a' w' => Region.seqB .any ops T.length n listed' = true ∧ wpList P ops Q T a' w') (todo0 := todo) (a0 := a) (dst := dst) Inv h1 h3 h4 h5 h6 hIS hstep
    (fun listed d vs w inv' hall hd hI => ⟨by rw [headinv_full (by omega) inv' hall]; exact h9, hend d vs w hd hI⟩)
    todo.length todo listed (fun _ => false) (fun j => a.tmps.getD (dst j) undef) w rfl (fun j hj => hj) h2 (fun j hj => (h7 j hj).1) inv (fun j hj => (h7 j hj).2) (fun j hj hnj => (h8 j hj).resolve_left hnj) (fun _ _ => rfl) (fun j hj hnj => absurd hj hnj) h0
  rw [puts_self] at this
  exact this
end
end Go.Proofs.Ythfolccofjaknaa
