/- The list of inequalities while a proof is checked. -/
import Derived.Test.YthfolccofjaknaaCsf
namespace Go.Proofs.Ythfolccofjaknaa
open Go.ChangeShapes Go.WideShapes Go.ChangeAt Go.RowKit Go.ChangeMaps

theorem sumM_len {l : List QI} {wd : Nat} (hl : ∀ q ∈ l, q.1.length = wd) : ∀ (U : List (Int × Int)) (s s' : QI), s.1.length = wd → sumM l U s = some s' → s'.1.length = wd
  | [], s, s', hs, h => by
    injection h with h
    rw [← h]
    exact hs
  | u :: U, s, s', hs, h => by
    rw [sumM] at h
    split at h
    · cases h
    · rename_i hc
      refine sumM_len hl U _ s' ?_ h
      unfold addQ
      rw [List.length_zipWith, hs]
      have hi : u.1.toNat < l.length := by omega
      rw [List.getD_eq_getElem?_getD, List.getElem?_eq_getElem hi, Option.getD_some, hl _ (List.getElem_mem hi), Nat.min_self]
theorem applyM_len {l : List QI} {wd : Nat} (hl : ∀ q ∈ l, q.1.length = wd) (hw : widthM l = wd) {U : List (Int × Int)} {d : Int} {m : QI} (h : applyM l U d = some m) : m.1.length = wd := by
  unfold applyM at h
  split at h
  · cases h
  · split at h
    · cases h
    · rename_i s hs
      have h1 := sumM_len hl U _ _ (by rw [List.length_replicate]; exact hw) hs
      unfold divM at h
      split at h
      · injection h with h
        rw [← h, List.length_map]
        exact h1
      · cases h
theorem ownI_below {w w' : World} {B n : Nat} {v : Value} {xs : List Value} (h : w.ownsRow B 44 3 v n xs) (hb : Below w.heap.size w w') : w'.ownsRow B 44 3 v n xs :=
  ⟨h.1, h.2.imp id fun ⟨g, cap, cur, e, hg, hh, r⟩ => ⟨g, cap, cur, e, hg, (hb.block g (Array.getElem?_eq_some_iff.1 hh).1).trans hh, r⟩⟩
/-- The list: a row of one's own, its inequalities good whatever becomes of that row. -/
structure CL (w0 wr : World) (s0 : Value) (Q : List Iq) (N wd : Nat) : Prop where
  below : Below w0.heap.size w0 wr
  own : wr.ownsRow w0.heap.size 44 3 s0 Q.length (Q.flatMap Iq.cells)
  sf : ∀ q ∈ Q, Sf wr s0.ownBlock N q
  sys : ∀ q ∈ Q, q.n = wd
  z : Q.length = 0 → wd = 0
theorem CL.keep {w0 wr w' : World} {s0 : Value} {Q : List Iq} {N wd : Nat} (h : CL w0 wr s0 Q N wd) (hb : Below wr.heap.size wr w') : CL w0 w' s0 Q N wd :=
  ⟨h.below.trans (hb.mono h.below.size), ownI_below h.own hb, fun q hq => (h.sf q hq).below hb, h.sys, h.z⟩
theorem CL.wide {w0 wr : World} {s0 : Value} {Q : List Iq} {N N' wd : Nat} (h : CL w0 wr s0 Q N wd) (hN : N ≤ N') : CL w0 wr s0 Q N' wd := ⟨h.below, h.own, fun q hq => (h.sf q hq).wide hN, h.sys, h.z⟩
theorem CL.at {w0 wr : World} {s0 : Value} {Q : List Iq} {N wd : Nat} (h : CL w0 wr s0 Q N wd) (hn : Q.length ≤ 9223372036854775807) : ∃ A c, s0 = .slice A Q.length c ∧ Ineqs wr A Q.length Q N := by
  obtain ⟨A, c, e, ha⟩ := own_at h.own
  exact ⟨A, c, e, ha, hn, fun q hq => (h.sf q hq).ok⟩
theorem CL.width {w0 wr : World} {s0 : Value} {Q : List Iq} {N wd : Nat} (h : CL w0 wr s0 Q N wd) : (∀ m ∈ Q.map Iq.m, m.1.length = wd) ∧ widthM (Q.map Iq.m) = wd := by
  have h1 : ∀ m ∈ Q.map Iq.m, m.1.length = wd := fun m hm => by
    obtain ⟨q, hq, rfl⟩ := List.mem_map.1 hm
    show (q.L.map Bg.z).length = wd
    rw [List.length_map, (h.sf q hq).ok.1.len]
    exact h.sys q hq
  refine ⟨h1, ?_⟩
  cases Q with
  | nil => exact (h.z rfl).symm
  | cons q Q' => exact h1 _ List.mem_cons_self
theorem CL.app {w0 wr w' : World} {s0 v' : Value} {Q : List Iq} {N wd : Nat} {q : Iq} (h : CL w0 wr s0 Q N wd) (hq : Sf wr s0.ownBlock N q) (hn : q.n = wd) (hown : w'.ownsRow w0.heap.size 44 3 v' (Q.length + 1) (Q.flatMap Iq.cells ++ q.cells)) (hg : wr.grownBy w' s0.ownBlock) (hm : Moved wr s0 v') : CL w0 w' v' (Q ++ [q]) N wd := by
  have hgg : v'.ownBlock = s0.ownBlock ∨ ∀ k, v'.ownBlock = some k → wr.heap.size ≤ k := by
    rcases hm with e | ⟨k, e, hk⟩
    · exact .inl e
    · refine .inr fun j hj => ?_
      rw [e] at hj
      injection hj with hj
      omega
  refine ⟨h.below.grown hg h.below.size (fun j hj => (h.own.lt j hj).1), ?_, fun x hx => ?_, fun x hx => ?_, fun h0 => ?_⟩
  · rw [List.length_append, List.flatMap_append, List.flatMap_cons, List.flatMap_nil, List.append_nil]
    exact hown
  · rcases List.mem_append.1 hx with hx | hx
    · exact (h.sf x hx).grow hg hgg
    · rw [List.mem_singleton.1 hx]
      exact hq.grow hg hgg
  · rcases List.mem_append.1 hx with hx | hx
    · exact h.sys x hx
    · rw [List.mem_singleton.1 hx]
      exact hn
  · rw [List.length_append, List.length_singleton] at h0
    omega
end Go.Proofs.Ythfolccofjaknaa
