/- Maps with integer keys, whatever their elements. -/
import Derived.Test.YtgenpldldgplhaaSlc
import Derived.Maps.OwnSet
import Derived.Maps.RangeWalk
import Derived.Below
namespace Go.Proofs.Ytgenpldldgplhaa
open Go.ChangeShapes Go.WideShapes Go.ChangeAt Go.RowKit Go.ChangeMaps

open Go.Maps (Keyed)
def rawR : Value → Option (DataW Value × List MemPlace) := fun v => some (.held v, [])
def fup (f : Int → Option Value) (a : Int) (v : Value) : Int → Option Value := fun x => if x = a then some v else f x
def fdel (f : Int → Option Value) (a : Int) : Int → Option Value := fun x => if x = a then none else f x
def MS (q : IntKind) (D : DataW Value) (f : Int → Option Value) : Prop := ∀ a, (Lit.int q a).wf = true → Maps.has D (.int q a) = (f a).isSome ∧ ∀ z, D.atKey (.int q a) z = match f a with | some v => .held v | none => z
/-- Block b is a map with integer keys: at most n entries ever, s of them, f what it holds. -/
def MB (w : World) (k : TypeId) (q : IntKind) (b n s : Nat) (f : Int → Option Value) : Prop :=
  ∃ D : DataW Value, w.ownsMap Try.prog k rawR b n D ∧ Maps.size D = s ∧ MS q D f
section
variable {w w' : World} {k t e : TypeId} {q : IntKind} {b n s : Nat} {f : Int → Option Value}
theorem MB.made (w : World) (k : TypeId) (q : IntKind) : MB (w.alloc (.map #[] 0)) k q w.heap.size 0 0 (fun _ => none) :=
  ⟨_, World.ownsMap_made w Try.prog k rawR, rfl, fun _ _ => ⟨rfl, fun _ => rfl⟩⟩
theorem MB.kept {row : Option Nat} (h : MB w k q b n s f) (hg : w.grownBy w' row) (hne : some b ≠ row) : MB w' k q b n s f := by
  obtain ⟨D, h1, h2, h3⟩ := h
  exact ⟨D, h1.kept hg hne, h2, h3⟩
theorem MB.lt (h : MB w k q b n s f) : b < w.heap.size := by obtain ⟨D, h1, _⟩ := h; exact h1.lt
theorem MB.below (h : MB w k q b n s f) (hb : Below w.heap.size w w') : MB w' k q b n s f := by
  refine h.kept (row := none) ⟨hb.os, hb.tape, hb.output, hb.size, fun i hi _ => hb.block i hi⟩ (by simp)
theorem MB.alloc (h : MB w k q b n s f) (o : Obj) : MB (w.alloc o) k q b n s f := h.kept (World.grownBy_alloc w o none) (by simp)
theorem MB.mono (h : MB w k q b n s f) {n' : Nat} (hn : n ≤ n') : MB w k q b n' s f := by
  obtain ⟨D, h1, h2, h3⟩ := h
  exact ⟨D, h1.mono hn, h2, h3⟩
theorem MB.ext (h : MB w k q b n s f) {s' : Nat} {g : Int → Option Value} (hs : s' = s) (hg : ∀ a, (Lit.int q a).wf = true → g a = f a) : MB w k q b n s' g := by
  obtain ⟨D, h1, h2, h3⟩ := h
  exact ⟨D, h1, by rw [hs, h2], fun a ha => by rw [hg a ha]; exact h3 a ha⟩
theorem MB.set (h : MB w k q b n s f) {p i : Nat} (hp : b ≠ p) (u : Value) : MB (w.setCell ⟨p, i, none⟩ u) k q b n s f := by
  obtain ⟨D, h1, h2, h3⟩ := h
  exact ⟨D, h1.setCell hp u, h2, h3⟩
variable (hk : Try.prog.underlying k = some (.int q)) (ht : Try.prog.underlying t = some (.map k e))
include hk ht
theorem MB.look (h : MB w k q b n s f) {z : Value} (hz : (zeroValue e).run Try.prog w = .ok z w) {a : Int} (ha : (Lit.int q a).wf = true) : (Instr.lookup t (.map (some b)) (.int q a) false).run Try.prog w = .ok ((f a).getD z) w := by
  obtain ⟨D, h1, h2, h3⟩ := h
  obtain ⟨v, ps, hrun, hv⟩ := h1.lookup (Maps.int_keyed hk) ht hz (zd := .held z) (zp := []) rfl (Maps.keyOf_int_mk hk ha)
  rw [hrun]
  unfold rawR at hv
  rw [(h3 a ha).2] at hv
  injection hv with hv
  injection hv with hv _
  cases hf : f a with
  | none => rw [hf] at hv; injection hv with hv; rw [hv]; rfl
  | some u => rw [hf] at hv; injection hv with hv; rw [hv]; rfl
theorem MB.look_ok (h : MB w k q b n s f) {z : Value} (hz : (zeroValue e).run Try.prog w = .ok z w) {a : Int} (ha : (Lit.int q a).wf = true) : (Instr.lookup t (.map (some b)) (.int q a) true).run Try.prog w = .ok (.tuple #[(f a).getD z, .bool (f a).isSome]) w := by
  obtain ⟨D, h1, h2, h3⟩ := h
  obtain ⟨v, ps, hrun, hv⟩ := h1.look_ok (Maps.int_keyed hk) ht hz (zd := .held z) (zp := []) rfl (Maps.keyOf_int_mk hk ha)
  rw [hrun, (h3 a ha).1]
  unfold rawR at hv
  rw [(h3 a ha).2] at hv
  injection hv with hv
  injection hv with hv _
  cases hf : f a with
  | none => rw [hf] at hv; injection hv with hv; rw [hv]; rfl
  | some u => rw [hf] at hv; injection hv with hv; rw [hv]; rfl
omit hk in
theorem MB.len (h : MB w k q b n s f) (ty : TypeId) : (Builtin.len_ #[t] ty #[.map (some b)]).run Try.prog w = .ok (.int .i64 (s : Int)) w := by
  obtain ⟨D, h1, h2, h3⟩ := h
  rw [h1.len ht ty, h2]
omit ht in
theorem key_lit {a : Int} (ha : (Lit.int q a).wf = true) : WideAt.IsKeyLit (.int q a) := (Maps.int_keyed (P := Try.prog) hk).key (Maps.keyOf_int_mk hk ha)
theorem MB.put (h : MB w k q b n s f) (hn : n < maxLen) {a : Int} (ha : (Lit.int q a).wf = true) (v : Value) :
    ∃ w', (Instr.mapUpdate t (.map (some b)) (.int q a) v).run Try.prog w = .ok () w' ∧ MB w' k q b (n + 1) (if (f a).isSome then s else s + 1) (fup f a v) ∧ w.grownBy w' (some b) := by
  obtain ⟨D, h1, h2, h3⟩ := h
  have hkl := key_lit hk ha
  obtain ⟨w', hrun, hown, hturn⟩ := h1.store (Maps.int_keyed hk) ht hn (Maps.keyOf_int_mk hk ha) (val := v) (d := .held v) (ps := []) rfl
  refine ⟨w', hrun, ⟨_, hown, ?_, fun x hx => ?_⟩, hturn.grown⟩
  · rw [Maps.size_put (h1.tidy (Maps.int_keyed hk)), (h3 a ha).1, h2]
  · unfold fup
    by_cases e : x = a
    · subst e
      rw [if_pos rfl]
      exact ⟨Maps.has_put_same h1.isMap hkl _, fun z => Maps.atKey_put_same h1.isMap hkl _ _⟩
    · rw [if_neg e]
      have hne : (Lit.int q x) ≠ .int q a := fun h => e (by injection h)
      rw [Maps.has_put_other hne]
      exact ⟨(h3 x hx).1, fun z => by rw [Maps.atKey_put_other hne]; exact (h3 x hx).2 z⟩
theorem MB.del (h : MB w k q b n s f) {a : Int} (ha : (Lit.int q a).wf = true) (ty : TypeId) :
    ∃ w', (Builtin.delete_ #[t, k] ty #[.map (some b), .int q a]).run Try.prog w = .ok (.tuple #[]) w' ∧ MB w' k q b n (if (f a).isSome then s - 1 else s) (fdel f a) ∧ w.grownBy w' (some b) := by
  obtain ⟨D, h1, h2, h3⟩ := h
  have hkl := key_lit hk ha
  obtain ⟨w', hrun, hown, hturn⟩ := h1.drop (Maps.int_keyed hk) ht (Maps.keyOf_int_mk hk ha) ty
  refine ⟨w', hrun, ⟨_, hown, ?_, fun x hx => ?_⟩, hturn.grown⟩
  · have h4 := Maps.size_del (k := .int q a) (h1.tidy (Maps.int_keyed hk))
    rw [(h3 a ha).1, h2] at h4
    split
    · rename_i h5; rw [if_pos h5] at h4; omega
    · rename_i h5; rw [if_neg h5] at h4; omega
  · unfold fdel
    by_cases e : x = a
    · subst e
      rw [if_pos rfl]
      exact ⟨Maps.has_del_same, fun z => Maps.atKey_del_same _⟩
    · rw [if_neg e]
      have hne : (Lit.int q x) ≠ .int q a := fun h => e (by injection h)
      rw [Maps.has_del_other hne]
      exact ⟨(h3 x hx).1, fun z => by rw [Maps.atKey_del_other hne]; exact (h3 x hx).2 z⟩
end
/-- A range over a map under way: l which keys are still to come. -/
def MR (w : World) (k : TypeId) (q : IntKind) (b r n : Nat) (f : Int → Option Value) (l : Int → Bool) (cnt : Nat) : Prop :=
  ∃ (D : DataW Value) (left : Lit → Bool), w.ranges Try.prog k rawR b r n D left cnt ∧ MS q D f ∧ ∀ a, (Lit.int q a).wf = true → left (.int q a) = l a
section
variable {w w' : World} {k t e : TypeId} {q : IntKind} {b r n s cnt : Nat} {f : Int → Option Value} {l : Int → Bool}
theorem MR.kept {row : Option Nat} (h : MR w k q b r n f l cnt) (hg : w.grownBy w' row) (hb : some b ≠ row) (hr : some r ≠ row) : MR w' k q b r n f l cnt := by
  obtain ⟨D, left, h1, h2⟩ := h
  exact ⟨D, left, h1.kept hg hb hr, h2⟩
theorem MR.left_eq (h : MR w k q b r n f l cnt) : w.rangeLeft b r = cnt := by
  obtain ⟨D, left, h1, h2⟩ := h
  exact h1.left_eq
theorem MR.lt (h : MR w k q b r n f l cnt) : r < w.heap.size ∧ b < w.heap.size := by
  obtain ⟨D, left, h1, h2⟩ := h
  exact ⟨h1.lt, h1.owns.lt⟩
variable (hk : Try.prog.underlying k = some (.int q)) (ht : Try.prog.underlying t = some (.map k e))
include hk
include ht in
theorem MB.range (h : MB w k q b n s f) : ∃ w', (Instr.range t (.map (some b))).run Try.prog w = .ok (.pointer (some ⟨w.heap.size, 0, none⟩)) w' ∧ MR w' k q b w.heap.size n f (fun a => (f a).isSome) s ∧ w.grownBy w' none ∧ w'.heap.size = w.heap.size + 1 := by
  obtain ⟨D, h1, h2, h3⟩ := h
  obtain ⟨w', hrun, hr, hg, hs⟩ := h1.range (Maps.int_keyed hk) ht
  rw [h2] at hr
  exact ⟨w', hrun, ⟨D, _, hr, h3, fun a ha => (h3 a ha).1⟩, hg, hs⟩
theorem MR.next (h : MR w k q b r n f l cnt) (ty : TypeId) :
    (cnt = 0 ∧ (∀ a, (Lit.int q a).wf = true → l a = false) ∧ (Instr.next (.pointer (some ⟨r, 0, none⟩)) false ty).run Try.prog w = .ok (.tuple #[.bool false]) w) ∨
    ∃ a v w' cnt', (Lit.int q a).wf = true ∧ l a = true ∧ f a = some v ∧ (Instr.next (.pointer (some ⟨r, 0, none⟩)) false ty).run Try.prog w = .ok (.tuple #[.bool true, .int q a, v]) w' ∧
      MR w' k q b r n f (fun x => l x && !decide (x = a)) cnt' ∧ cnt' < cnt ∧ w.grownBy w' (some r) ∧ w'.heap.size = w.heap.size ∧ (Instr.entry (.pointer (some ⟨r, 0, none⟩))).run Try.prog w' = .ok (.tuple #[.int q a, v]) w' := by
  obtain ⟨D, left, h1, h2, h3⟩ := h
  rcases h1.next (Maps.int_keyed hk) ty with ⟨h0, hl, hrun⟩ | ⟨key, v, kl, y, w', cnt', hkey, hlk, hv, hat, hrun, hrg, hlt, hgr, hsz, hen⟩
  · exact .inl ⟨h0, fun a ha => by rw [← h3 a ha]; exact hl _, hrun⟩
  · obtain ⟨a, rfl, rfl, ha⟩ := Maps.keyOf_int_inv hk hkey
    refine .inr ⟨a, v, w', cnt', ha, by rw [← h3 a ha]; exact hlk, ?_, hrun, ⟨D, _, hrg, h2, fun x hx => ?_⟩, hlt, hgr, hsz, hen⟩
    · unfold rawR at hv
      injection hv with hv
      have h4 := hat .nil
      rw [(h2 a ha).2, ← hv] at h4
      cases hf : f a with
      | none => rw [hf] at h4; cases h4
      | some u => rw [hf] at h4; injection h4 with h4; rw [h4]
    · rw [h3 x hx]
      congr 1
      by_cases e : x = a
      · subst e
        rw [WideAt.sameKey_self (key_lit hk ha)]
        simp
      · rw [Maps.sameKey_ne (fun h => e (by injection h))]
        simp [e]
end
end Go.Proofs.Ytgenpldldgplhaa
