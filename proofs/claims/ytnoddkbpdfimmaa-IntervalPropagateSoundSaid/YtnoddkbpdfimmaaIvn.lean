/- One constraint narrows the domains. -/
import Derived.Test.YtnoddkbpdfimmaaIvh
import Derived.Test.YtnoddkbpdfimmaaIve
import Derived.Test.YtnoddkbpdfimmaaChi
namespace Go.Proofs.Ytnoddkbpdfimmaa
open Go.ChangeShapes Go.WideShapes Go.ChangeAt Go.RowKit Go.ChangeMaps

def nwM (c : Int) (eq : Bool) (L : List Iv) : Nat → List Iv → Bool → Option (List Iv × Bool)
  | 0, R, b => some (R, b)
  | m + 1, R, b =>
    if (L.getD (L.length - (m + 1)) ⟨0, 0⟩).hi = 0 then nwM c eq L m R b
    else if (nrw (R.getD (L.getD (L.length - (m + 1)) ⟨0, 0⟩).lo.toNat ⟨0, 0⟩) (L.getD (L.length - (m + 1)) ⟨0, 0⟩).hi ((rngM R (L.eraseIdx (L.length - (m + 1))) ⟨c, c⟩).getD ⟨0, 0⟩) eq).emp then none
    else nwM c eq L m (R.set (L.getD (L.length - (m + 1)) ⟨0, 0⟩).lo.toNat (nrw (R.getD (L.getD (L.length - (m + 1)) ⟨0, 0⟩).lo.toNat ⟨0, 0⟩) (L.getD (L.length - (m + 1)) ⟨0, 0⟩).hi ((rngM R (L.eraseIdx (L.length - (m + 1))) ⟨c, c⟩).getD ⟨0, 0⟩) eq)) false
def nwE (c : Int) (eq : Bool) : Option (List Iv × Bool) → Bool
  | none => false
  | some (_, b) => !b || (decide (c = 0) || (decide (c < 0) && !eq))
theorem rngA_eq (o : Option Iv) : rngA o = .tuple #[(o.getD ⟨0, 0⟩).agg, .bool o.isSome] := by cases o <;> rfl
theorem nw_step {c : Int} {eq : Bool} {L : List Iv} {k n : Nat} {R : List Iv} {b : Bool} {x : Iv} (hn : L.length = n) (hk : k < n) (hx : L.getD k ⟨0, 0⟩ = x) : nwM c eq L (n - k) R b =
    if x.hi = 0 then nwM c eq L (n - (k + 1)) R b else if (nrw (R.getD x.lo.toNat ⟨0, 0⟩) x.hi ((rngM R (L.eraseIdx k) ⟨c, c⟩).getD ⟨0, 0⟩) eq).emp then none
    else nwM c eq L (n - (k + 1)) (R.set x.lo.toNat (nrw (R.getD x.lo.toNat ⟨0, 0⟩) x.hi ((rngM R (L.eraseIdx k) ⟨c, c⟩).getD ⟨0, 0⟩) eq)) false := by
  subst hx
  obtain ⟨m, hm⟩ : ∃ m, n - k = m + 1 := ⟨n - k - 1, by omega⟩
  rw [hm, show n - (k + 1) = m by omega]
  have hk2 : L.length - (m + 1) = k := by omega
  show (if (L.getD (L.length - (m + 1)) ⟨0, 0⟩).hi = 0 then _ else _) = _
  rw [hk2]
/-- What stands behind each of the four operations of the form without a term. -/
def OI (X : World) (c : Int) (L L' : List Iv) (d : Nat → Bool) (vs : Nat → Value) (w' : World) : Prop :=
  Below X.heap.size X w' ∧ (d 6 = true → d 10 = false → OR 61 w' X.heap.size (vs 6) L) ∧ (d 10 = true → OR 61 w' X.heap.size (vs 10) L') ∧ (d 11 = true → d 10 = true ∧ vs 11 = .agg #[.int .i64 c, vs 10]) ∧
    (d 12 = true → ∃ g, vs 12 = .pointer (some ⟨g, 0, none⟩) ∧ X.heap.size ≤ g ∧ Blk w' g 56 #[.int .i64 0, .slice none 0 0])
theorem OI.none_ {X : World} {c : Int} {L L' : List Iv} {vs : Nat → Value} {w' : World} (h : Below X.heap.size X w') : OI X c L L' (fun _ => false) vs w' := ⟨h, nofun, nofun, nofun, nofun⟩
theorem OI.s6 {X : World} {c : Int} {L L' : List Iv} {d : Nat → Bool} {vs : Nat → Value} {w' W : World} {v : Value} (h : OI X c L L' d vs w') (hv : OR 61 W w'.heap.size v L) (hb : Below w'.heap.size w' W) : OI X c L L' (upd d 6 true) (upd vs 6 v) W := by
  obtain ⟨h1, h2, h3, h4, h5⟩ := h
  refine ⟨h1.trans (hb.mono h1.size), fun _ _ => ?_, fun e => ?_, fun e => ?_, fun e => ?_⟩
  · rw [upd_same]; exact hv.mono h1.size
  · rw [upd_other _ _ _ _ (by decide)] at e ⊢
    exact (h3 e).below hb
  · rw [upd_other _ _ _ _ (by decide)] at e ⊢
    rw [upd_other _ _ _ _ (by decide), upd_other _ _ _ _ (by decide)]
    exact h4 e
  · rw [upd_other _ _ _ _ (by decide)] at e ⊢
    obtain ⟨g, e1, e2, e3⟩ := h5 e
    exact ⟨g, e1, e2, Blk.below hb e3⟩
theorem OI.s10 {X : World} {c : Int} {L L' : List Iv} {d : Nat → Bool} {vs : Nat → Value} {w' W : World} {v : Value} (h : OI X c L L' d vs w') (h6 : d 6 = true) (h10 : d 10 = false) (hv : OR 61 W X.heap.size v L') (hb : Below X.heap.size w' W) (hg : w'.grownBy W (vs 6).ownBlock) : OI X c L L' (upd d 10 true) (upd vs 10 v) W := by
  obtain ⟨h1, h2, h3, h4, h5⟩ := h
  have ho := h2 h6 h10
  refine ⟨h1.trans hb, fun _ e => ?_, fun e => ?_, fun e => ?_, fun e => ?_⟩
  · rw [upd_same] at e; cases e
  · rw [upd_same]; exact hv
  · rw [upd_other _ _ _ _ (by decide)] at e
    have := (h4 e).1
    rw [h10] at this; cases this
  · rw [upd_other _ _ _ _ (by decide)] at e ⊢
    obtain ⟨g, e1, e2, e3⟩ := h5 e
    exact ⟨g, e1, e2, Blk.grown e3 ho (by decide) hg⟩
theorem OI.s11 {X : World} {c : Int} {L L' : List Iv} {d : Nat → Bool} {vs : Nat → Value} {w' : World} (h : OI X c L L' d vs w') (h10 : d 10 = true) : OI X c L L' (upd d 11 true) (upd vs 11 (.agg #[.int .i64 c, vs 10])) w' := by
  obtain ⟨h1, h2, h3, h4, h5⟩ := h
  refine ⟨h1, fun e1 e2 => ?_, fun e => ?_, fun e => ?_, fun e => ?_⟩
  · rw [upd_other _ _ _ _ (by decide)] at e2
    rw [h10] at e2; cases e2
  · rw [upd_other _ _ _ _ (by decide)]; exact h3 h10
  · rw [upd_other _ _ _ _ (by decide), upd_same, upd_other _ _ _ _ (by decide)]; exact ⟨h10, rfl⟩
  · rw [upd_other _ _ _ _ (by decide)] at e ⊢; exact h5 e
theorem OI.s12 {X : World} {c : Int} {L L' : List Iv} {d : Nat → Bool} {vs : Nat → Value} {w' : World} (h : OI X c L L' d vs w') : OI X c L L' (upd d 12 true) (upd vs 12 (.pointer (some ⟨w'.heap.size, 0, none⟩))) (w'.alloc (.cells #[.int .i64 0, .slice none 0 0] 56)) := by
  obtain ⟨h1, h2, h3, h4, h5⟩ := h
  refine ⟨h1.alloc h1.size _, fun e1 e2 => ?_, fun e => ?_, fun e => ?_, fun e => ?_⟩
  · rw [upd_other _ _ _ _ (by decide)] at e1 e2 ⊢
    exact (h2 e1 e2).alloc _
  · rw [upd_other _ _ _ _ (by decide)] at e ⊢
    exact (h3 e).alloc _
  · rw [upd_other _ _ _ _ (by decide)] at e ⊢
    rw [upd_other _ _ _ _ (by decide), upd_other _ _ _ _ (by decide)]
    exact h4 e
  · rw [upd_same]
    exact ⟨_, rfl, h1.size, Blk.new _ _ _⟩
end Go.Proofs.Ytnoddkbpdfimmaa
