/- What lies in memory while a step is applied. -/
import Derived.Test.YthfolccofjaknaaCsm
import Derived.Test.YthfolccofjaknaaBkt
import Derived.Test.YthfolccofjaknaaCpa
namespace Go.Proofs.Ythfolccofjaknaa
open Go.ChangeShapes Go.WideShapes Go.ChangeAt Go.RowKit Go.ChangeMaps

theorem BG.abs {w : World} {v : Value} {z : Int} {N : Nat} (h : BG w v z N) : z.natAbs < 4294967296 ^ N := by
  obtain ⟨neg, A, n, c, D, e, hd, hs, hn, hz⟩ := h
  rw [hz, sgn_abs]
  have h1 := dv_lt (B := 4294967296) (by decide) D hd.2.1
  rw [hd.1] at h1
  exact Nat.lt_of_lt_of_le h1 (Nat.pow_le_pow_right (by decide) hn)
theorem mix_set (T S : List Int) (j : Nat) (hl : T.length = S.length) (hj : j < T.length) : (T.take j ++ S.drop j).set j T[j] = T.take (j + 1) ++ S.drop (j + 1) := by
  have hS : j < S.length := by omega
  rw [List.set_append, if_neg (by rw [List.length_take]; omega), List.length_take, Nat.min_eq_left (by omega), Nat.sub_self, List.drop_eq_getElem_cons hS, List.set_cons_zero, List.take_succ_eq_append_getElem hj, List.append_assoc]
  rfl
theorem mix_get (T S : List Int) (j : Nat) (hl : T.length = S.length) (hj : j < S.length) : (T.take j ++ S.drop j)[j]? = some S[j] := by
  rw [List.getElem?_append_right (by rw [List.length_take]; omega), List.length_take, Nat.min_eq_left (by omega), Nat.sub_self, List.getElem?_drop]
  simp [hj]
theorem mix_skip (T S : List Int) (j : Nat) (hl : T.length = S.length) (hj : j < T.length) (he : T[j] = S[j]'(by omega)) : T.take j ++ S.drop j = T.take (j + 1) ++ S.drop (j + 1) := by
  rw [← mix_set T S j hl hj, he]
  symm
  apply List.ext_getElem?
  intro i
  by_cases hi : i = j
  · subst hi
    rw [List.getElem?_set_self (by rw [List.length_append, List.length_take, List.length_drop]; omega), mix_get T S i hl (by omega)]
  · rw [List.getElem?_set_ne (Ne.symm hi)]
theorem mix_end (T S : List Int) (hl : T.length = S.length) : T.take S.length ++ S.drop S.length = T := by
  rw [List.drop_length, List.append_nil, List.take_of_length_le (by omega)]
/-- The row of a sum: none yet, or a row in a block of its own. -/
def Ro (w : World) (B : Nat) (A : Option Addr) (L : List Bg) (N : Nat) : Prop := (A = none ∧ L = []) ∨ ∃ g, A = some ⟨g, 0, none⟩ ∧ Rw w B g L N
theorem Ro.below {w w' : World} {B N : Nat} {A : Option Addr} {L : List Bg} (h : Ro w B A L N) (hb : Below w.heap.size w w') : Ro w' B A L N := by
  rcases h with h | ⟨g, h1, h2⟩
  · exact .inl h
  · exact .inr ⟨g, h1, h2.below hb⟩
theorem Ro.bigs {w : World} {B N : Nat} {A : Option Addr} {L : List Bg} (h : Ro w B A L N) (hn : L.length ≤ 9223372036854775807) : Bigs w A L.length L N := by
  rcases h with ⟨rfl, rfl⟩ | ⟨g, rfl, h2⟩
  · exact ⟨⟨rfl, fun h => absurd h (Nat.lt_irrefl _)⟩, by decide, fun b hb => by cases hb⟩
  · exact h2.bigs hn
theorem Ro.own {w : World} {B N : Nat} {A : Option Addr} {L : List Bg} (h : Ro w B A L N) (hn : 0 < L.length) : ∃ g, A = some ⟨g, 0, none⟩ ∧ Rw w B g L N := by
  rcases h with ⟨-, rfl⟩ | h
  · cases hn
  · exact h
theorem Blk.set_other {w : World} {g k : Nat} {t T : TypeId} {cs ds : Array Value} (h : Blk w g t cs) (hk : Blk w k T ds) (hne : t ≠ T) (j : Nat) (u : Value) : Blk (w.setCell ⟨k, j, none⟩ u) g t cs :=
  ((grown_set w k j u).block _ h.lt (fun e => by
    injection e with e
    subst e
    have := h.symm.trans hk
    injection this with this
    injection this with _ e2
    exact hne e2)).trans h
theorem NB.set_other {w : World} {base k N : Nat} {T : TypeId} {v : Value} {z : Int} {ds : Array Value} (h : NB w base v z N) (hk : Blk w k T ds) (hT : T ≠ 86) (j : Nat) (u : Value) : NB (w.setCell ⟨k, j, none⟩ u) base v z N := by
  obtain ⟨A, n, c, D, e, ho, hs, hn, hv, hN⟩ := h
  refine ⟨A, n, c, D, e, ⟨ho.1, ho.2.1, fun h0 => ?_⟩, hs, hn, hv, hN⟩
  obtain ⟨g2, off, cs2, e2, hg, hb, hc⟩ := ho.2.2 h0
  exact ⟨g2, off, cs2, e2, hg, hb.set_other hk (Ne.symm hT) j u, hc⟩
theorem Rw.set_other {w : World} {B g k N : Nat} {T : TypeId} {L : List Bg} {ds : Array Value} (h : Rw w B g L N) (hk : Blk w k T ds) (hT : T ≠ 86) (hT2 : T ≠ 37) (j : Nat) (u : Value) : Rw (w.setCell ⟨k, j, none⟩ u) B g L N :=
  ⟨h.1, h.2.1.set_other hk (Ne.symm hT2) j u, fun b hb => (h.2.2 b hb).set_other hk hT j u⟩
/-- A step is being applied: k3 holds the step, k4 the result, k6 the sum. -/
structure ST (w0 wr : World) (k3 k4 k6 : Nat) (sv : Array Value) (A : Option Addr) (L : List Bg) (b : Bg) (K : Nat) : Prop where
  below : Below w0.heap.size w0 wr
  b3 : Blk wr k3 39 sv
  b4 : Blk wr k4 44 #[.slice none 0 0, .bool false, .slice none 0 0]
  b6 : Blk wr k6 44 #[.slice A L.length L.length, .bool b.neg, .slice b.A b.n b.c]
  bd : NB wr w0.heap.size b.val b.z K
  ro : Ro wr w0.heap.size A L K
  h4 : w0.heap.size ≤ k4
  h6 : w0.heap.size ≤ k6
  hne : k4 ≠ k6
section
variable {w0 wr w' : World} {k3 k4 k6 K : Nat} {sv : Array Value} {A : Option Addr} {L : List Bg} {b : Bg}
theorem ST.keep (h : ST w0 wr k3 k4 k6 sv A L b K) (hb : Below wr.heap.size wr w') : ST w0 w' k3 k4 k6 sv A L b K :=
  ⟨h.below.trans (hb.mono h.below.size), h.b3.below hb, h.b4.below hb, h.b6.below hb, h.bd.below hb, h.ro.below hb, h.h4, h.h6, h.hne⟩
theorem ST.setL (h : ST w0 wr k3 k4 k6 sv A L b K) {g : Nat} (hA : A = some ⟨g, 0, none⟩) (k : Nat) (hk : k < L.length) (d : Bg) (hd : NB wr w0.heap.size d.val d.z K) : ST w0 (wr.setCells g (k * 2) d.cells) k3 k4 k6 sv A (L.set k d) b K := by
  rcases h.ro with ⟨e, -⟩ | ⟨g', e, hr⟩
  · rw [hA] at e; cases e
  rw [hA] at e
  injection e with e
  injection e with e _
  subst e
  have h1 : Blk (wr.setCell ⟨g, k * 2, none⟩ (.bool d.neg)) g 37 ((L.flatMap Bg.cells).toArray.setIfInBounds (k * 2) (.bool d.neg)) := Joins.block_setCell hr.2.1 _
  refine ⟨setrow_below h.below hr.1 _, (h.b3.set_other hr.2.1 (by decide) _ _).set_other h1 (by decide) _ _, (h.b4.set_other hr.2.1 (by decide) _ _).set_other h1 (by decide) _ _, ?_, (h.bd.set_other hr.2.1 (by decide) _ _).set_other h1 (by decide) _ _, .inr ⟨g, hA, hr.set k hk d hd⟩, h.h4, h.h6, h.hne⟩
  rw [List.length_set]
  exact (h.b6.set_other hr.2.1 (by decide) _ _).set_other h1 (by decide) _ _
theorem ST.wide (h : ST w0 wr k3 k4 k6 sv A L b K) {K' : Nat} (hK : K ≤ K') : ST w0 wr k3 k4 k6 sv A L b K' := by
  refine ⟨h.below, h.b3, h.b4, h.b6, h.bd.mono (Nat.le_refl _) hK, ?_, h.h4, h.h6, h.hne⟩
  rcases h.ro with hr | ⟨g', e, hr⟩
  · exact .inl hr
  · exact .inr ⟨g', e, hr.mono (Nat.le_refl _) hK⟩
theorem ST.setA (h : ST w0 wr k3 k4 k6 sv A L b K) {g : Nat} {L' : List Bg} (hr : Rw wr w0.heap.size g L' K) : ST w0 (wr.setCell ⟨k6, 0, none⟩ (.slice (some ⟨g, 0, none⟩) L'.length L'.length)) k3 k4 k6 sv (some ⟨g, 0, none⟩) L' b K := by
  have h1 : Blk (wr.setCell ⟨k6, 0, none⟩ (.slice (some ⟨g, 0, none⟩) L'.length L'.length)) k6 44 #[.slice (some ⟨g, 0, none⟩) L'.length L'.length, .bool b.neg, .slice b.A b.n b.c] := Joins.block_setCell h.b6 _
  exact ⟨h.below.setCell (p := ⟨k6, 0, none⟩) h.h6 _, h.b3.set_other h.b6 (by decide) _ _, ((grown_set wr k6 0 _).block _ h.b4.lt (fun e => by injection e with e; exact h.hne e)).trans h.b4, h1, h.bd.set_other h.b6 (by decide) _ _, .inr ⟨g, rfl, hr.set_other h.b6 (by decide) (by decide) _ _⟩, h.h4, h.h6, h.hne⟩
theorem ST.rw {g : Nat} (h : ST w0 wr k3 k4 k6 sv (some ⟨g, 0, none⟩) L b K) (hn : 0 < L.length := by omega) : Rw wr w0.heap.size g L K := by
  obtain ⟨g', e, hr⟩ := h.ro.own hn
  injection e with e
  injection e with e
  subst e
  exact hr
theorem Blk.set_ne {w : World} {g k : Nat} {t : TypeId} {cs : Array Value} (h : Blk w g t cs) (hne : g ≠ k) (j : Nat) (u : Value) : Blk (w.setCell ⟨k, j, none⟩ u) g t cs :=
  ((grown_set w k j u).block _ h.lt (fun e => by injection e with e; exact hne e)).trans h
theorem ST.setB (h : ST w0 wr k3 k4 k6 sv A L b K) (d : Bg) (hd : NB wr w0.heap.size d.val d.z K) : ST w0 ((wr.setCell ⟨k6, 1, none⟩ (.bool d.neg)).setCell ⟨k6, 2, none⟩ (.slice d.A d.n d.c)) k3 k4 k6 sv A L d K := by
  have h1 : Blk (wr.setCell ⟨k6, 1, none⟩ (.bool d.neg)) k6 44 #[.slice A L.length L.length, .bool d.neg, .slice b.A b.n b.c] := Joins.block_setCell h.b6 _
  have h2 : Blk ((wr.setCell ⟨k6, 1, none⟩ (.bool d.neg)).setCell ⟨k6, 2, none⟩ (.slice d.A d.n d.c)) k6 44 #[.slice A L.length L.length, .bool d.neg, .slice d.A d.n d.c] := Joins.block_setCell h1 _
  refine ⟨(h.below.setCell (p := ⟨k6, 1, none⟩) h.h6 _).setCell (p := ⟨k6, 2, none⟩) h.h6 _, (h.b3.set_other h.b6 (by decide) _ _).set_other h1 (by decide) _ _, (h.b4.set_ne h.hne _ _).set_ne h.hne _ _, h2, (hd.set_other h.b6 (by decide) _ _).set_other h1 (by decide) _ _, ?_, h.h4, h.h6, h.hne⟩
  rcases h.ro with hr | ⟨g', e, hr⟩
  · exact .inl hr
  · exact .inr ⟨g', e, (hr.set_other h.b6 (by decide) (by decide) _ _).set_other h1 (by decide) (by decide) _ _⟩
end
theorem sumM_step (l : List QI) (U : List (Int × Int)) (k : Nat) (hk : k < U.length) (s : QI) (h : ¬ (U[k].1 < 0 ∨ U[k].1 ≥ l.length ∨ U[k].2 < 0)) : sumM l (U.drop k) s = sumM l (U.drop (k + 1)) (addQ s (l.getD U[k].1.toNat ([], 0)) U[k].2) := by
  rw [List.drop_eq_getElem_cons hk, sumM, if_neg h]
theorem sumM_stop (l : List QI) (U : List (Int × Int)) (k : Nat) (hk : k < U.length) (s : QI) (h : U[k].1 < 0 ∨ U[k].1 ≥ l.length ∨ U[k].2 < 0) : sumM l (U.drop k) s = none := by
  rw [List.drop_eq_getElem_cons hk, sumM, if_pos h]
/-- A bound of the numbers of a sum. -/
def Bd (S : QI) (X : Nat) : Prop := (∀ z ∈ S.1, z.natAbs ≤ X) ∧ S.2.natAbs ≤ X
theorem Bd.add {S q : QI} {k M : Nat} {u : Int} (h : Bd S (k * M)) (hq : ∀ z ∈ q.1, (u * z).natAbs ≤ M) (hq2 : (u * q.2).natAbs ≤ M) : Bd (addQ S q u) ((k + 1) * M) := by
  have e : (k + 1) * M = k * M + M := by rw [Nat.add_mul, Nat.one_mul]
  rw [e]
  refine ⟨fun z hz => ?_, ?_⟩
  · obtain ⟨i, hi, rfl⟩ := List.mem_iff_getElem.1 hz
    unfold addQ at hi ⊢
    simp only [List.length_zipWith] at hi
    simp only [List.getElem_zipWith]
    have h1 := h.1 (S.1[i]'(by omega)) (List.getElem_mem _)
    have h2 := hq (q.1[i]'(by omega)) (List.getElem_mem _)
    omega
  · unfold addQ
    have := h.2
    dsimp only
    omega
theorem mul_abs {a b : Int} {x y : Nat} (ha : a.natAbs < 4294967296 ^ x) (hb : b.natAbs < 4294967296 ^ y) : (a * b).natAbs ≤ 4294967296 ^ (x + y) := by
  rw [Int.natAbs_mul, Nat.pow_add]
  exact Nat.mul_le_mul (Nat.le_of_lt ha) (Nat.le_of_lt hb)
theorem fits {z : Int} {k m X : Nat} (h : z.natAbs ≤ k * 4294967296 ^ X) (hk : k ≤ m) (hm : m < 4294967296) : z.natAbs < 4294967296 ^ (X + 1) := by
  rw [Nat.pow_succ, Nat.mul_comm]
  refine Nat.lt_of_le_of_lt h ?_
  exact Nat.mul_lt_mul_of_pos_right (by omega) (Nat.pow_pos (by decide))
end Go.Proofs.Ythfolccofjaknaa
