/- Copying into a disk. -/
import Derived.Test.YthhpilkhcomhbaaDoorDsr
namespace Go.Proofs.YthhpilkhcomhbaaDoor
open Go.ChangeShapes Go.WideShapes Go.ChangeAt Go.RowKit Go.ChangeMaps

open Go.Deep in
theorem step_copy_row {P : Program} {ops : Array Oper} {o : Oper} {a : Act} {w : World} {K : Act → World → Prop} {Q : Exit → Act → World → Prop} {E : Prop} (hgd : o.guard = none) (d s : Operand) (dT sT : TypeId)
    (ho : o.op = .call { callee := .builtin .copy, args := #[d, s], argTypes := #[dT, sT] }) (elem : TypeId) (hu : P.underlying dT = some (.slice elem)) (hsz : (P.info? elem).map (·.size) = some 1)
    (g off dLen dCap : Nat) (ad : Addr) (sLen sCap : Nat) (hd : a.eval d = .slice (some ⟨g, off, none⟩) dLen dCap) (hs : a.eval s = .slice (some ad) sLen sCap)
    (cur : List Value) (t : TypeId) (hg : w.heap[g]? = some (.cells cur.toArray t (0, 0))) (cs : List Value) (hn : cs.length = Nat.min sLen dLen)
    (hsrc : ∀ j v, cs[j]? = some v → w.cell? (ad.add j) = some v) (hfit : off + cs.length ≤ cur.length) (h1 : ∀ v ∈ cs, v.oneCell' = true)
    (h : K (a.put o.dst (goInt cs.length)) (w.setRow g (splice cur off cs).toArray)) : if Region.wanted o (yielded ops a.tmps) = true then Oper.wp P o a w K Q else E := by
  have hw : Region.wanted o (yielded ops a.tmps) = true := by simp [Region.wanted, hgd]
  rw [if_pos hw]
  have hrun := run_copy_row (P := P) w dT sT o.type elem g off dLen dCap ad sLen sCap cur.toArray t cs hu hsz hg hn hsrc (by simpa using hfit) h1
  unfold Oper.wp
  simp [execOp, ho, resolve, invoke, builtin, hd, hs, hrun, Result.andThen]
  exact h
theorem wpList_copy_row {P : Program} {w : World} {ops : Array Oper} {rest : List Oper} {o : Oper} {a : Act} {Q : Exit → Act → World → Prop} (hgd : o.guard = none) (d s : Operand) (dT sT : TypeId)
    (ho : o.op = .call { callee := .builtin .copy, args := #[d, s], argTypes := #[dT, sT] }) (elem : TypeId) (hu : P.underlying dT = some (.slice elem)) (hsz : (P.info? elem).map (·.size) = some 1)
    (g off dLen dCap : Nat) (ad : Addr) (sLen sCap : Nat) (hd : a.eval d = .slice (some ⟨g, off, none⟩) dLen dCap) (hs : a.eval s = .slice (some ad) sLen sCap)
    (cur : List Value) (t : TypeId) (hg : w.heap[g]? = some (.cells cur.toArray t (0, 0))) (cs : List Value) (hn : cs.length = Nat.min sLen dLen)
    (hsrc : ∀ j v, cs[j]? = some v → w.cell? (ad.add j) = some v) (hfit : off + cs.length ≤ cur.length) (h1 : ∀ v ∈ cs, v.oneCell' = true)
    (h : wpList P ops Q rest (a.put o.dst (goInt cs.length)) (w.setRow g (splice cur off cs).toArray)) : wpList P ops Q (o :: rest) a w := by
  have := wpList_copy_own hgd d s dT sT ho elem hu hsz g off dLen dCap ad sLen sCap hd hs cur.toArray t hg cs hn hsrc (by simpa using hfit) h1 (P := P) (ops := ops) (rest := rest) (Q := Q) (w := w)
  refine this ?_
  exact h
theorem src_take {w : World} {b off n : Nat} {l : List UInt8} (h : ∀ i (h : i < l.length), w.cell? ⟨b, off + i, none⟩ = some (.int .u8 (l[i].toNat : Int))) (j : Nat) (v : Value) (hj : (bc (l.take n))[j]? = some v) : w.cell? ((⟨b, off, none⟩ : Addr).add j) = some v := by
  have hl : j < (l.take n).length := by have := (List.getElem?_eq_some_iff.1 hj).1; rwa [bc_len] at this
  rw [bc_at _ _ hl] at hj
  injection hj with hj
  rw [add_plain, h j (by rw [List.length_take] at hl; omega), ← hj]
  simp
theorem size5 : (Tryd.prog.info? 5).map (·.size) = some 1 := by kernel_rfl
theorem Dk.row {w : World} {p q : Nat} {s : St} (h : Dk w p q s) {k : Nat} (hk : k < s.R.length) {cs : List UInt8} (hc : cs.length ≤ 64) : Dk (w.setRow q (splice (bc s.R.flatten) (k * 64) (bc cs)).toArray) p q { s with R := s.R.set k (cs ++ (s.R.getD k []).drop cs.length) } ∧ Chg (PQ p q) w (w.setRow q (splice (bc s.R.flatten) (k * 64) (bc cs)).toArray) := by
  have hg := getD_len64 h.2.2.2.1 hk
  refine ⟨⟨?_, ?_, h.2.2.1, set_len64 h.2.2.2.1 (by rw [List.length_append, List.length_drop, hg]; omega), h.2.2.2.2.1, ?_, h.2.2.2.2.2.2⟩, (Chg.refl _ _).row (.inr rfl)⟩
  · have := h.1.chg (F := fun k => k = q) ((Chg.refl (fun k => k = q) w).row (cs := (splice (bc s.R.flatten) (k * 64) (bc cs)).toArray) rfl) h.2.2.1
    simpa using this
  · have e : bc (s.R.set k (cs ++ (s.R.getD k []).drop cs.length)).flatten = splice (bc s.R.flatten) (k * 64) (bc cs) := by rw [bc_splice, flat_splice k cs h.2.2.2.1 hk hc]
    rw [e]
    exact setRow_heap w q _ _ _ _ h.2.1
  · have := h.2.2.2.2.2.1
    simpa using this
end Go.Proofs.YthhpilkhcomhbaaDoor
