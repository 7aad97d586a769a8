/- Maps with keys of whatever kind, whatever their elements. -/
import Derived.Test.YtbmofagaammgmaaSlc
import Derived.Maps.OwnSet
import Derived.Maps.RangeWalk
import Derived.Below
namespace Go.Proofs.Ytbmofagaammgmaa
open Go.ChangeShapes Go.WideShapes Go.ChangeAt Go.RowKit Go.ChangeMaps

open Go.Maps (Keyed)
def rawR : Value → Option (DataW Value × List MemPlace) := fun v => some (.held v, [])
/-- The keys of a type: what they are in memory, and as what they are known. -/
structure KV (k : TypeId) (κ : Type) where
  kv : κ → Value
  kl : κ → Lit
  ok : κ → Prop
  keyed : Keyed Try.prog k
  key : ∀ x, ok x → keyOf Try.prog k (kv x) = some (kl x)
  inj : ∀ x y, kv x = kv y → x = y
section
variable {κ : Type} [DecidableEq κ]
def gup (f : κ → Option Value) (a : κ) (v : Value) : κ → Option Value := fun x => if x = a then some v else f x
def gdel (f : κ → Option Value) (a : κ) : κ → Option Value := fun x => if x = a then none else f x
variable {k t e : TypeId} (V : KV k κ)
def GS (D : DataW Value) (f : κ → Option Value) : Prop := ∀ a, V.ok a → Maps.has D (V.kl a) = (f a).isSome ∧ ∀ z, D.atKey (V.kl a) z = match f a with | some v => .held v | none => z
/-- Block b is a map: at most n entries ever, s of them, f what it holds. -/
def MG (w : World) (b n s : Nat) (f : κ → Option Value) : Prop := ∃ D : DataW Value, w.ownsMap Try.prog k rawR b n D ∧ Maps.size D = s ∧ GS V D f
variable {V} {w w' : World} {b n s : Nat} {f : κ → Option Value}
omit [DecidableEq κ] in
theorem MG.made (w : World) : MG V (w.alloc (.map #[] 0)) w.heap.size 0 0 (fun _ => none) := ⟨_, World.ownsMap_made w Try.prog k rawR, rfl, fun _ _ => ⟨rfl, fun _ => rfl⟩⟩
omit [DecidableEq κ] in
theorem MG.kept {row : Option Nat} (h : MG V w b n s f) (hg : w.grownBy w' row) (hne : some b ≠ row) : MG V w' b n s f := by
  obtain ⟨D, h1, h2, h3⟩ := h
  exact ⟨D, h1.kept hg hne, h2, h3⟩
omit [DecidableEq κ] in
theorem MG.lt (h : MG V w b n s f) : b < w.heap.size := by obtain ⟨D, h1, _⟩ := h; exact h1.lt
omit [DecidableEq κ] in
theorem MG.below (h : MG V w b n s f) (hb : Below w.heap.size w w') : MG V w' b n s f := by
  refine h.kept (row := none) ⟨hb.os, hb.tape, hb.output, hb.size, fun i hi _ => hb.block i hi⟩ (by simp)
omit [DecidableEq κ] in
theorem MG.alloc (h : MG V w b n s f) (o : Obj) : MG V (w.alloc o) b n s f := h.kept (World.grownBy_alloc w o none) (by simp)
omit [DecidableEq κ] in
theorem MG.mono (h : MG V w b n s f) {n' : Nat} (hn : n ≤ n') : MG V w b n' s f := by
  obtain ⟨D, h1, h2, h3⟩ := h
  exact ⟨D, h1.mono hn, h2, h3⟩
omit [DecidableEq κ] in
theorem MG.ext (h : MG V w b n s f) {s' : Nat} {g : κ → Option Value} (hs : s' = s) (hg : ∀ a, V.ok a → g a = f a) : MG V w b n s' g := by
  obtain ⟨D, h1, h2, h3⟩ := h
  exact ⟨D, h1, by rw [hs, h2], fun a ha => by rw [hg a ha]; exact h3 a ha⟩
omit [DecidableEq κ] in
theorem MG.set (h : MG V w b n s f) {p i : Nat} (hp : b ≠ p) (u : Value) : MG V (w.setCell ⟨p, i, none⟩ u) b n s f := by
  obtain ⟨D, h1, h2, h3⟩ := h
  exact ⟨D, h1.setCell hp u, h2, h3⟩
omit [DecidableEq κ] in
theorem MG.block (h : MG V w b n s f) : ∃ es clock, w.heap[b]? = some (.map es clock) := by
  obtain ⟨D, ⟨es, clock, hb, _⟩, _⟩ := h
  exact ⟨es, clock, hb⟩
omit [DecidableEq κ] in
theorem MG.ne (h : MG V w b n s f) {j : Nat} {cs : Array Value} {t : TypeId} {z : Nat × Nat} (hj : w.heap[j]? = some (.cells cs t z)) : j ≠ b := by
  rintro rfl
  obtain ⟨es, clock, hb⟩ := h.block
  rw [hb] at hj
  cases hj
variable (ht : Try.prog.underlying t = some (.map k e))
include ht
omit [DecidableEq κ] in
theorem MG.look (h : MG V w b n s f) {z : Value} (hz : (zeroValue e).run Try.prog w = .ok z w) {a : κ} (ha : V.ok a) : (Instr.lookup t (.map (some b)) (V.kv a) false).run Try.prog w = .ok ((f a).getD z) w := by
  obtain ⟨D, h1, h2, h3⟩ := h
  obtain ⟨v, ps, hrun, hv⟩ := h1.lookup V.keyed ht hz (zd := .held z) (zp := []) rfl (V.key a ha)
  rw [hrun]
  unfold rawR at hv
  rw [(h3 a ha).2] at hv
  injection hv with hv
  injection hv with hv _
  cases hf : f a with
  | none => rw [hf] at hv; injection hv with hv; rw [hv]; rfl
  | some u => rw [hf] at hv; injection hv with hv; rw [hv]; rfl
omit [DecidableEq κ] in
theorem MG.look_ok (h : MG V w b n s f) {z : Value} (hz : (zeroValue e).run Try.prog w = .ok z w) {a : κ} (ha : V.ok a) : (Instr.lookup t (.map (some b)) (V.kv a) true).run Try.prog w = .ok (.tuple #[(f a).getD z, .bool (f a).isSome]) w := by
  obtain ⟨D, h1, h2, h3⟩ := h
  obtain ⟨v, ps, hrun, hv⟩ := h1.look_ok V.keyed ht hz (zd := .held z) (zp := []) rfl (V.key a ha)
  rw [hrun, (h3 a ha).1]
  unfold rawR at hv
  rw [(h3 a ha).2] at hv
  injection hv with hv
  injection hv with hv _
  cases hf : f a with
  | none => rw [hf] at hv; injection hv with hv; rw [hv]; rfl
  | some u => rw [hf] at hv; injection hv with hv; rw [hv]; rfl
omit [DecidableEq κ] in
theorem MG.len (h : MG V w b n s f) (ty : TypeId) : (Builtin.len_ #[t] ty #[.map (some b)]).run Try.prog w = .ok (.int .i64 (s : Int)) w := by
  obtain ⟨D, h1, h2, h3⟩ := h
  rw [h1.len ht ty, h2]
omit [DecidableEq κ] ht in
theorem KV.lit_ne {x a : κ} (hx : V.ok x) (ha : V.ok a) (hne : x ≠ a) : V.kl x ≠ V.kl a := fun e =>
  hne (V.inj _ _ (V.keyed.inj (V.key x hx) (by rw [e]; exact V.key a ha)))
theorem MG.put (h : MG V w b n s f) (hn : n < maxLen) {a : κ} (ha : V.ok a) (v : Value) :
    ∃ w', (Instr.mapUpdate t (.map (some b)) (V.kv a) v).run Try.prog w = .ok () w' ∧ MG V w' b (n + 1) (if (f a).isSome then s else s + 1) (gup f a v) ∧ w.grownBy w' (some b) := by
  obtain ⟨D, h1, h2, h3⟩ := h
  have hkl := V.keyed.key (V.key a ha)
  obtain ⟨w', hrun, hown, hturn⟩ := h1.store V.keyed ht hn (V.key a ha) (val := v) (d := .held v) (ps := []) rfl
  refine ⟨w', hrun, ⟨_, hown, ?_, fun x hx => ?_⟩, hturn.grown⟩
  · rw [Maps.size_put (h1.tidy V.keyed), (h3 a ha).1, h2]
  · unfold gup
    by_cases e : x = a
    · subst e
      rw [if_pos rfl]
      exact ⟨Maps.has_put_same h1.isMap hkl _, fun z => Maps.atKey_put_same h1.isMap hkl _ _⟩
    · rw [if_neg e]
      have hne := KV.lit_ne hx ha e
      rw [Maps.has_put_other hne]
      exact ⟨(h3 x hx).1, fun z => by rw [Maps.atKey_put_other hne]; exact (h3 x hx).2 z⟩
theorem MG.del (h : MG V w b n s f) {a : κ} (ha : V.ok a) (ty : TypeId) :
    ∃ w', (Builtin.delete_ #[t, k] ty #[.map (some b), V.kv a]).run Try.prog w = .ok (.tuple #[]) w' ∧ MG V w' b n (if (f a).isSome then s - 1 else s) (gdel f a) ∧ w.grownBy w' (some b) := by
  obtain ⟨D, h1, h2, h3⟩ := h
  have hkl := V.keyed.key (V.key a ha)
  obtain ⟨w', hrun, hown, hturn⟩ := h1.drop V.keyed ht (V.key a ha) ty
  refine ⟨w', hrun, ⟨_, hown, ?_, fun x hx => ?_⟩, hturn.grown⟩
  · have h4 := Maps.size_del (k := V.kl a) (h1.tidy V.keyed)
    rw [(h3 a ha).1, h2] at h4
    split
    · rename_i h5; rw [if_pos h5] at h4; omega
    · rename_i h5; rw [if_neg h5] at h4; omega
  · unfold gdel
    by_cases e : x = a
    · subst e
      rw [if_pos rfl]
      exact ⟨Maps.has_del_same, fun z => Maps.atKey_del_same _⟩
    · rw [if_neg e]
      have hne := KV.lit_ne hx ha e
      rw [Maps.has_del_other hne]
      exact ⟨(h3 x hx).1, fun z => by rw [Maps.atKey_del_other hne]; exact (h3 x hx).2 z⟩
end
end Go.Proofs.Ytbmofagaammgmaa
