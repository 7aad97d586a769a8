/- A region that draws its order and holds one call: the order of the text serves. -/
import Derived.Test.YtdkkflmhpncglaaDoorLaw
import Derived.Deep.QuietTactic
import Derived.BigQuiet
import Derived.Lib.QuietBelow
namespace Go.Proofs.YtdkkflmhpncglaaDoor
open Go.ChangeShapes Go.WideShapes Go.ChangeAt Go.RowKit Go.ChangeMaps

section
variable {P : Program} {ops : Array Oper} {md : Region.Mode}
/-- Operations that only yield a value. -/
def plainOp (o : Oper) : Bool :=
  match o.op with
  | .move _ => true
  | .assign _ => true
  | .pick _ _ _ => true
  | .load _ _ => true
  | .binOp _ _ _ _ _ => true
  | .unOp _ _ _ => true
  | .convert _ _ _ => true
  | .slice _ _ _ _ _ => true
  | .extract _ _ => true
  | .indexAddr _ _ _ => true
  | .fieldAddr _ _ _ => true
  | .index _ _ _ => true
  | _ => false
theorem value_run {s : Sem Value} {w w' : World} {n : Next} (h : (do pure (Next.value (← s)) : Sem Next).run P w = .ok n w') : ∃ u, n = .value u := by
  rw [Sem.run_bind] at h
  cases hs : s.run P w with
  | ok a w1 =>
    rw [hs] at h
    simp only [Result.andThen_ok, Sem.run_pure] at h
    injection h with h1 h2
    exact ⟨a, h1.symm⟩
  | halt x w1 => rw [hs] at h; simp [Result.andThen] at h
theorem plain_value {o : Oper} (h : plainOp o = true) {ev : Operand → Value} {w w' : World} {n : Next} (hr : (execOp ev o).run P w = .ok n w') : ∃ u, n = .value u := by
  obtain ⟨dst, op, type, pos, after, guard⟩ := o
  cases op <;> simp only [plainOp] at h <;> first | (exact absurd h (by decide)) | skip
  all_goals unfold execOp at hr
  all_goals simp only at hr
  case move => rw [Sem.run_pure] at hr; injection hr with h1 h2; exact ⟨_, h1.symm⟩
  case assign => rw [Sem.run_pure] at hr; injection hr with h1 h2; exact ⟨_, h1.symm⟩
  case pick c a b =>
    rw [Sem.run_bind] at hr
    cases hs : (asBool (ev c)).run P w with
    | ok z w1 =>
      rw [hs] at hr
      simp only [Result.andThen_ok, Sem.run_pure] at hr
      injection hr with h1 h2
      exact ⟨_, h1.symm⟩
    | halt x w1 => rw [hs] at hr; simp [Result.andThen] at hr
  all_goals exact value_run hr
/-- What an operation yields in every world of a class, it yields in one of them. -/
theorem yields_one {C : World → Prop} {o : Oper} {v : Value} {a : Act} {w1 : World} (hp : plainOp o = true) (hC : C w1) (h : YieldsIn P ops C o v a) : YieldsIn P ops (fun w => w = w1) o v a := by
  rcases h with ⟨hw, hv⟩ | h
  · refine .inl ⟨hw, fun w e => ?_⟩
    subst e
    have h1 := hv w hC
    unfold Oper.quietAt at *
    cases hr : (execOp a.eval o).run P w with
    | ok n w' =>
      obtain ⟨u, rfl⟩ := plain_value hp hr
      rw [hr] at h1
      exact h1
    | halt x w' => rw [hr] at h1; exact h1.elim
  · exact .inr h
/-- A call: in the world w0 it hands back some v and leaves some world, the two as R says. -/
def CallsAt (P : Program) (ops : Array Oper) (o : Oper) (a : Act) (w0 : World) (R : Value → World → Prop) : Prop :=
  Region.wanted o (yielded ops a.tmps) = true ∧ ∃ f args, (execOp a.eval o).run P w0 = .ok (.enter f args) w0 ∧ Calls P f args w0 (fun e w' => ∃ v, e = .returned v ∧ R v w')
theorem CallsAt.of_same {o : Oper} {a a' : Act} {w0 : World} {R : Value → World → Prop} (h : CallsAt P ops o a w0 R) (he : execOp a'.eval o = execOp a.eval o)
    (hw : Region.wanted o (yielded ops a'.tmps) = Region.wanted o (yielded ops a.tmps)) : CallsAt P ops o a' w0 R := by
  unfold CallsAt at *
  rw [he, hw]
  exact h
/-- Whatever order is picked from here on, the call c being still to come. -/
def wpAnyB (P : Program) (md : Region.Mode) (ops : Array Oper) (c : Nat) (w0 : World) (R : Value → World → Prop) (Q : Act → World → Prop) : Nat → Array Bool → Act → Prop
  | 0, _, _ => False
  | fuel + 1, listed, a => Region.ready md ops listed ≠ [] ∧ ∀ i ∈ Region.ready md ops listed,
      (i = c ∧ ∃ o, ops[i]? = some o ∧ CallsAt P ops o a w0 R ∧ ∀ v w1, R v w1 → wpAnyQ P md ops (fun w => w = w1) (fun a' => Q a' w1) fuel (listed.setIfInBounds i true) (a.put o.dst v)) ∨
      (i ≠ c ∧ ∃ o u, ops[i]? = some o ∧ YieldsIn P ops (fun w => w = w0) o u a ∧ wpAnyB P md ops c w0 R Q fuel (listed.setIfInBounds i true) (a.put o.dst u))
theorem wpAny_of_B {c : Nat} {w0 : World} {R : Value → World → Prop} {Q : Act → World → Prop} {Q' : Exit → Act → World → Prop} (hQ : ∀ a w, Q a w → Q' .normal a w) :
    ∀ (fuel : Nat) (listed : Array Bool) (a : Act), wpAnyB P md ops c w0 R Q fuel listed a → wpAny P md ops Q' fuel listed a w0
  | 0, _, _, h => h.elim
  | fuel + 1, listed, a, h => by
    refine ⟨fun h0 => absurd h0 h.1, fun i hi => ?_⟩
    rcases h.2 i hi with ⟨rfl, o, ho, ⟨hw, f, args, hr, hc⟩, hk⟩ | ⟨_, o, u, ho, hy, hk⟩
    · unfold wpOp
      simp only [ho, hw, if_true]
      refine .inl ?_
      unfold Oper.wp
      rw [hr]
      refine hc.mono fun e w' ⟨v, he, hR⟩ => ?_
      subst he
      exact wpAny_of_quiet (C := fun w => w = w') (Q := fun a' => Q a' w') (fun a2 w2 hw2 h2 => by subst hw2; exact hQ _ _ h2) fuel _ _ _ rfl (hk v w' hR)
    · exact wpOp_of_qOp (C := fun w => w = w0) rfl (fun a' w' hw' h2 => by subst hw'; exact wpAny_of_B hQ fuel _ a' h2) (hy.qOp ho hk)
theorem wpAnyB_first {c : Nat} {w0 : World} {R : Value → World → Prop} {Q : Act → World → Prop} {C : World → Prop} (h0 : C w0) (h1 : ∀ v w, R v w → C w)
    {i : Nat} {oi : Oper} {v : Value} (hi : ops[i]? = some oi) (hic : i ≠ c) (hp : plainOp oi = true) (hsel : ∀ (j : Nat) (o : Oper) cs b, ops[j]? = some o → o.op ≠ .select cs b) :
    ∀ (fuel : Nat) (listed : Array Bool) (a : Act),
      (∀ j oj, ops[j]? = some oj → j ≠ i → listed.getD j true = false → (∀ e ∈ oj.after, Region.binds md e = true → e.on ≠ i) → oi.apart ops oj = true) →
      i ∈ Region.ready md ops listed → YieldsIn P ops C oi v a →
      wpAnyB P md ops c w0 R Q fuel (listed.setIfInBounds i true) (a.put oi.dst v) → wpAnyB P md ops c w0 R Q (fuel + 1) listed a := by
  intro fuel
  induction fuel with
  | zero => intro listed a _ _ _ H; exact H.elim
  | succ fuel ih =>
    intro listed a hfree hr hy H
    refine ⟨fun h => (by rw [h] at hr; cases hr), fun j hj => ?_⟩
    by_cases hji : j = i
    · subst hji; exact .inr ⟨hic, oi, v, hi, yields_one hp h0 hy, H⟩
    · have hjr := H.2 j (ready_mono hj hji)
      obtain ⟨hjun, oj, hoj, hall⟩ := mem_ready.1 hj
      have hnot : ∀ e ∈ oj.after, Region.binds md e = true → e.on ≠ i := fun e he hb heq => by
        have h1 := hall e he hb
        have h0 := (mem_ready.1 hr).1
        rw [heq] at h1
        rcases Nat.lt_or_ge i listed.size with h' | h'
        · simp [h'] at h0 h1; rw [h0] at h1; cases h1
        · simp [Array.getElem?_eq_none h'] at h1
      have hap := hfree j oj hoj hji hjun hnot
      obtain ⟨a1, a2, a3⟩ := Oper.apart_spec hap
      have hsi := fun cs b => hsel i oi cs b hi
      have hsj := fun cs b => hsel j oj cs b hoj
      have keep : ∀ u, YieldsIn P ops C oi v (a.put oj.dst u) := fun u =>
        hy.of_same (execOp_put oi hsi a oj.dst u a3) (wanted_put oi a oj.dst u a3)
      have hfree' : ∀ k ok, ops[k]? = some ok → k ≠ i → (listed.setIfInBounds j true).getD k true = false →
          (∀ e ∈ ok.after, Region.binds md e = true → e.on ≠ i) → oi.apart ops ok = true := fun k ok hk hki hun hno => by
        refine hfree k ok hk hki ?_ hno
        by_cases hjk : j = k
        · subst hjk; exact hjun
        · rw [getD_set_ne true hjk] at hun; exact hun
      rcases hjr with ⟨hjc, o, ho, hcall, hk⟩ | ⟨hjc, o, u, ho, hyj, hk⟩
      · obtain rfl : o = oj := Option.some.inj (ho.symm.trans hoj)
        refine .inl ⟨hjc, o, ho, hcall.of_same (execOp_put o hsj a oi.dst v a1).symm (wanted_put o a oi.dst v a1).symm, fun v' w1 hR => ?_⟩
        refine wpAnyQ_first hi hsel fuel (listed.setIfInBounds j true) _ hfree' (ready_mono hr (Ne.symm hji)) (yields_one hp (h1 _ _ hR) (keep v')) ?_
        rw [Array.setIfInBounds_comm _ _ hji, ← Act.put_comm a v v' a2]
        exact hk v' w1 hR
      · obtain rfl : o = oj := Option.some.inj (ho.symm.trans hoj)
        refine .inr ⟨hjc, o, u, ho, hyj.of_same (execOp_put o hsj a oi.dst v a1).symm (wanted_put o a oi.dst v a1).symm, ?_⟩
        refine ih (listed.setIfInBounds j true) _ hfree' (ready_mono hr (Ne.symm hji)) (keep u) ?_
        rw [Array.setIfInBounds_comm _ _ hji, ← Act.put_comm a v u a2]
        exact hk
def setAll : Array Bool → Nat → Nat → Array Bool
  | listed, _, 0 => listed
  | listed, k, n + 1 => setAll (listed.setIfInBounds k true) (k + 1) n
theorem wpAnyB_lex {c : Nat} {w0 : World} {R : Value → World → Prop} {Q : Act → World → Prop} {C : World → Prop} (h0 : C w0) (h1 : ∀ v w, R v w → C w) (hs : Region.noSelect ops = true) {oc : Oper} (hoc : ops[c]? = some oc) {post : List Oper} (hpost : ∀ j, post[j]? = ops[c + 1 + j]?) :
    ∀ (l : List Oper) (k : Nat) (listed : Array Bool) (a : Act), (∀ j, j < l.length → l[j]? = ops[k + j]?) → l.all plainOp = true → k + l.length = c →
      Region.lexFrom md ops (l.length + (1 + post.length)) k listed = true → Region.ready md ops (setAll listed k l.length) = [c] →
      wpQuiet P ops C (fun a' => CallsAt P ops oc a' w0 R ∧ ∀ v w1, R v w1 → wpQuiet P ops (fun w => w = w1) (fun a'' => Q a'' w1) post (a'.put oc.dst v)) l a →
      wpAnyB P md ops c w0 R Q (l.length + (1 + post.length)) listed a
  | [], k, listed, a, _, _, hk, hB, hr, h => by
    obtain rfl : k = c := by simpa using hk
    rw [show ([] : List Oper).length + (1 + post.length) = post.length + 1 by simp; omega] at hB ⊢
    simp only [Region.lexFrom, Bool.and_eq_true] at hB
    have hr : Region.ready md ops listed = [k] := hr
    refine ⟨by rw [hr]; simp, fun i hi => ?_⟩
    rw [hr] at hi
    obtain rfl : i = k := by simpa using hi
    exact .inl ⟨rfl, oc, hoc, h.1, fun v w1 hR => wpAnyQ_lex hs post (i + 1) _ _ hpost hB.2 (h.2 v w1 hR)⟩
  | o :: l, k, listed, a, hl, hp, hk, hB, hr, h => by
    have h00 : ops[k]? = some o := by simpa using (hl 0 (by simp)).symm
    simp only [List.all_cons, Bool.and_eq_true] at hp
    rw [show (o :: l).length + (1 + post.length) = (l.length + (1 + post.length)) + 1 by simp; omega] at hB ⊢
    simp only [Region.lexFrom, Bool.and_eq_true] at hB
    obtain ⟨⟨hrd, hf⟩, hB'⟩ := hB
    have hst : qOp P ops C k (wpQuiet P ops C (fun a' => CallsAt P ops oc a' w0 R ∧ ∀ v w1, R v w1 → wpQuiet P ops (fun w => w = w1) (fun a'' => Q a'' w1) post (a'.put oc.dst v)) l) a := by
      unfold qOp; simp only [h00]; exact h
    obtain ⟨v, hy, hK⟩ := yieldsIn_of_qOp h00 hst
    simp only [List.length_cons] at hk
    exact wpAnyB_first h0 h1 h00 (by omega) hp.1 (Region.noSelect_spec hs) _ listed a (Region.free_spec h00 hf) (by simpa using hrd) hy
      (wpAnyB_lex h0 h1 hs hoc hpost l (k + 1) _ _ (fun j hj => by have := hl (j + 1) (by simpa using hj); simpa [Nat.add_assoc, Nat.add_comm 1 j] using this) hp.2 (by omega) hB' hr hK)
/-- A region that draws its order, whose operations only yield values but for ONE call: one walk of the order of the text. -/
theorem wp_region_one {id : Nat} {Q : Exit → Act → World → Prop} {a : Act} {w : World} {C : World → Prop} (pre : List Oper) (oc : Oper) (post : List Oper) (R : Value → World → Prop)
    (hm : P.follows .mixedOrders = true) (hB : Region.lexB .any (pre ++ oc :: post).toArray = true) (hp : pre.all plainOp = true)
    (hr : Region.ready .any (pre ++ oc :: post).toArray (setAll (Array.replicate (pre ++ oc :: post).toArray.size false) 0 pre.length) = [pre.length])
    (h0 : C w.drew) (h1 : ∀ v w', R v w' → C w')
    (h : wpQuiet P (pre ++ oc :: post).toArray C (fun a' => CallsAt P (pre ++ oc :: post).toArray oc a' w.drew R ∧ ∀ v w1, R v w1 → wpQuiet P (pre ++ oc :: post).toArray (fun w => w = w1) (fun a'' => Q .normal a'' w1) post (a'.put oc.dst v)) pre a) :
    (Code.region id (pre ++ oc :: post).toArray true).wp P Q a w := by
  simp only [Region.lexB, Bool.and_eq_true] at hB
  refine wp_region_any hm (wpAny_of_B (c := pre.length) (R := R) (Q := fun a' w' => Q .normal a' w') (fun _ _ h => h) _ _ _ ?_)
  have hlen : (pre ++ oc :: post).toArray.size = pre.length + (1 + post.length) := by simp; omega
  have hB2 := hB.2
  rw [hlen] at hB2 ⊢
  rw [hlen] at hr
  refine wpAnyB_lex (C := C) h0 h1 hB.1 (by simp) (fun j => ?_) pre 0 _ a (fun j hj => ?_) hp (by simp) hB2 hr h
  · simp [List.getElem?_append_right, show pre.length ≤ pre.length + 1 + j by omega, show pre.length + 1 + j - pre.length = j + 1 by omega]
  · simp [List.getElem?_append_left hj]
end
open Go.Sort in
theorem wp_region_one_below {P : Program} {id : Nat} {Q : Exit → Act → World → Prop} {a : Act} {w : World} {l : List Oper} (n : Nat) (R : Value → World → Prop) (hm : P.follows .mixedOrders = true) (hB : Region.lexB .any l.toArray = true)
    (hp : (l.take n).all plainOp = true) (hr : Region.ready .any l.toArray (setAll (Array.replicate l.length false) 0 n) = [n]) (hR : ∀ v w', R v w' → Below w.heap.size w w')
    (h : ∃ oc post, l.drop n = oc :: post ∧ wpQuiet P l.toArray (fun w' => ∃ p : Regrown, w' = grow (redrawn w p.d) p.os) (fun a' => CallsAt P l.toArray oc a' w.drew R ∧ ∀ v w1, R v w1 → wpQuiet P l.toArray (fun w => w = w1) (fun a'' => Q .normal a'' w1) post (a'.put oc.dst v)) (l.take n) a) :
    (Code.region id l.toArray true).wp P Q a w := by
  obtain ⟨oc, post, hd, h⟩ := h
  have hl : l = l.take n ++ oc :: post := by rw [← hd, List.take_append_drop]
  have hn : (l.take n).length = n := by
    have := congrArg List.length hd
    rw [List.length_drop, List.length_cons] at this
    rw [List.length_take]; omega
  generalize hpre : l.take n = pre at *
  subst hl
  refine wp_region_one (C := fun w' => ∃ p : Regrown, w' = grow (redrawn w p.d) p.os) pre oc post R hm hB hp ?_ ⟨⟨w.drawn + 1, #[]⟩, by rw [grow_empty]; rfl⟩ (fun v w' h => regrown_of_below (hR v w' h)) h
  rw [hn]
  simpa using hr
end Go.Proofs.YtdkkflmhpncglaaDoor
