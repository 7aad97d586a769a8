/- What the laws share: integers with digits of their own; equal integers; drawn regions whose new blocks are told apart; the opening of an integer. -/
import Derived.Test.YtndkcimdbidgaaaDoorBaw
import Derived.Test.YtndkcimdbidgaaaDoorChi
import Derived.Test.YtndkcimdbidgaaaDoorBsl
import Derived.Test.YtndkcimdbidgaaaDoorBml
import Derived.Stop.LaidErr
namespace Go.Proofs.YtndkcimdbidgaaaDoor
open Go.ChangeShapes Go.WideShapes Go.ChangeAt Go.RowKit Go.ChangeMaps

open Go.Sort
/-- An integer in a value, its digits in an own block, not necessarily normal. -/
def OB (w : World) (base : Nat) (v : Value) (z : Int) (N : Nat) : Prop := ∃ neg A n c D, v = .agg #[.bool neg, .slice A n c] ∧ Own w base A n D ∧ Sl A n c ∧ n ≤ N ∧ z = sgn neg (dv 4294967296 D)
theorem OB.below {w w' : World} {base N : Nat} {v : Value} {z : Int} (h : OB w base v z N) (hb : Below w.heap.size w w') : OB w' base v z N := by
  obtain ⟨neg, A, n, c, D, e, ho, hs, hn, hz⟩ := h
  exact ⟨neg, A, n, c, D, e, ho.below hb, hs, hn, hz⟩
theorem OB.bg {w : World} {base N : Nat} {v : Value} {z : Int} (h : OB w base v z N) : BG w v z N := by
  obtain ⟨neg, A, n, c, D, e, ho, hs, hn, hz⟩ := h
  exact ⟨neg, A, n, c, D, e, ho.dg, hs, hn, hz⟩
theorem Same_nb {w : World} {b1 b2 N1 N2 : Nat} {v1 v2 : Value} {z : Int} (h1 : NB w b1 v1 z N1) (h2 : NB w b2 v2 z N2) (hN : N1 ≤ 100000) : Calls Tryd.prog 18 #[v1, v2] w fun e w' => e = .returned (.bool true) ∧ Below w.heap.size w w' := by
  obtain ⟨A, n, c, D, rfl, ho, hs, hn, hv, hN1⟩ := h1
  obtain ⟨A2, n2, c2, D2, rfl, ho2, hs2, hn2, hv2, hN2⟩ := h2
  obtain rfl : D = D2 := nmz_inj (by decide) _ _ ho.2.1 ho2.2.1 hn hn2 (hv.trans hv2.symm)
  obtain rfl : n = n2 := by rw [← ho.1, ← ho2.1]
  exact Same_any (decide (z < 0)) A n c D A2 c2 w ho.dg ho2.dg (by omega)
section
variable {P : Program} {ops : Array Oper} {Q : Exit → Act → World → Prop} {S : World → Prop}
theorem wpM_apart {n : Nat} {T : List Oper} {a : Act} {listed : Array Bool} {w : World} (dst : Nat → Nat) (todo : List Nat) (Spec : Nat → Value → World → Prop) (ap : Nat → Nat → Bool)
    (hB : (decide (todo.map dst).Nodup && decide todo.Nodup && Region.sinkB .any ops n && Region.chainB .any ops n && decide (n < ops.size) && backB ops n && todo.all (fun j => decide (j < n) && !listed.getD j true) && (List.range n).all (fun j => todo.contains j || listed.getD j false) && Region.seqB .any ops T.length n (Array.replicate n true ++ Array.replicate (ops.size - n) false)) = true)
    (hap : ∀ i j, ap i j = true → ap j i = true ∧ i ≠ j)
    (hmono : ∀ i v w w', Spec i v w → Below w.heap.size w w' → Spec i v w') (hS : S w)
    (hstep : ∀ i ∈ todo, ∃ o, ops[i]? = some o ∧ o.dst = some (dst i) ∧ ∀ (vs : Nat → Value) (w : World) (K : Act → World → Prop), S w → (∀ j ∈ todo, depB ops i j = true → Spec j (vs j) w) →
      (∀ v w', S w' → Below w.heap.size w w' → Spec i v w' → (∀ j, ap i j = true → ∀ u, Spec j u w → v ≠ u) → K ((puts dst todo vs a).put (some (dst i)) v) w') →
      if Region.wanted o (yielded ops (puts dst todo vs a).tmps) = true then Oper.wp P o (puts dst todo vs a) w K Q else K ((puts dst todo vs a).put (some (dst i)) undef) w)
    (hend : ∀ vs w, S w → (∀ j ∈ todo, Spec j (vs j) w) → (∀ i ∈ todo, ∀ j ∈ todo, ap i j = true → vs i ≠ vs j) → wpList P ops Q T (puts dst todo vs a) w) :
    wpM P ops Q S n T todo.length listed a w := by
  refine wpM_inv (S := S) dst todo (fun d vs w => S w ∧ (∀ j ∈ todo, d j = true → Spec j (vs j) w) ∧ (∀ i ∈ todo, ∀ j ∈ todo, ap i j = true → d i = true → d j = true → vs i ≠ vs j)) hB (fun _ _ _ h => h.1) ⟨hS, (fun _ _ h => by cases h), (fun _ _ _ _ _ h => by cases h)⟩ ?_ ?_
  · intro i hi
    obtain ⟨o, ho, hdst, hs⟩ := hstep i hi
    refine ⟨o, ho, hdst, fun d vs w K hI hdi hdep hK => ?_⟩
    obtain ⟨h1, h2, h3⟩ := hI
    refine hs vs w K h1 (fun j hj hd => h2 j hj (hdep j hj hd)) (fun v w' hS' hb hsp hne => hK v w' ⟨hS', fun j hj hd => ?_, fun j hj k hk hjk hdj hdk => ?_⟩)
    · by_cases e : j = i
      · subst e; rw [upd_same]; exact hsp
      · rw [upd_other _ _ _ _ e] at hd ⊢
        exact hmono j _ w w' (h2 j hj hd) hb
    · by_cases e : j = i
      · subst e
        have hkj : k ≠ j := fun e => (hap _ _ hjk).2 e.symm
        rw [upd_same, upd_other _ _ _ _ hkj]
        rw [upd_other _ _ _ _ hkj] at hdk
        exact hne k hjk _ (h2 k hk hdk)
      · rw [upd_other _ _ _ _ e] at hdj ⊢
        by_cases e2 : k = i
        · subst e2
          rw [upd_same]
          exact fun e3 => hne j (hap _ _ hjk).1 _ (h2 j hj hdj) e3.symm
        · rw [upd_other _ _ _ _ e2] at hdk ⊢
          exact h3 j hj k hk hjk hdj hdk
  · intro d vs w hd hI
    exact hend vs w hI.1 (fun j hj => hI.2.1 j hj (hd j hj)) (fun i hi j hj h => hI.2.2 i hi j hj h (hd i hi) (hd j hj))
end
theorem u32_bdx {n : Int} (h : (Lit.int .u32 n).wf = true) : 0 ≤ n ∧ n ≤ 4294967295 := by
  have h1 : IntKind.u32.min = 0 := rfl
  have h2 : IntKind.u32.max = 4294967295 := rfl
  simp only [Lit.wf, Bool.and_eq_true, decide_eq_true_eq, h1, h2] at h
  exact h
theorem Tryd.cells47 : Tryd.prog.cellsOf 47 = 1 := by kernel_rfl
open Go.Deep Go.WideElems in
theorem digs_trod {H : Type} {enc : TypeId × Value → H} {W : World} {v : Value} {fuel : Nat} {y : DataW H × List MemPlace} (h : DataW.trod enc Tryd.prog W 0 (fun _ => true) true fuel 22 [v] = some y) (hlt : ∀ x ∈ y.2, x.block < W.heap.size) (hs0 : ∀ a n c, v = .slice (some a) n c → a.spot = none) :
    ∃ (A : Option Addr) (n c : Nat) (D : List Nat), v = .slice A n c ∧ DG W A n D ∧ Sl A n c := by
  rcases open_ints Tryd.underlying22 Tryd.underlying47 Tryd.cells47 h with ⟨hcs, hx⟩ | ⟨a, len, cap, zs, hcs, _, hl, hm, hz, hx, hcell, hwz⟩
  · obtain rfl : v = .slice none 0 0 := by simpa using hcs
    exact ⟨_, _, _, [], rfl, DG.empty _ _, Sl.nil⟩
  · obtain rfl : v = .slice (some a) len cap := by simpa using hcs
    simp only [if_true] at hz
    subst hx
    unfold maxLen at hm
    have hsp := hs0 _ _ _ rfl
    refine ⟨_, _, _, (zs.take len).map Int.toNat, rfl, ⟨by rw [List.length_map, List.length_take]; omega, fun d hd => ?_, fun hn => ?_⟩, hl, by omega, (fun h => by cases h), fun b hb => by cases hb; exact hsp⟩
    · obtain ⟨x, hx, rfl⟩ := List.mem_map.1 hd
      have := u32_bdx (hwz x (List.mem_of_mem_take hx))
      omega
    · obtain ⟨b, off, spot⟩ := a
      have hspot : spot = none := hsp
      subst hspot
      refine ⟨b, off, rfl, hlt (.cell b off) (MemPlace.mem_row.2 ⟨0, by omega, by simp⟩), fun i d hi => ?_⟩
      rw [List.getElem?_map, Option.map_eq_some_iff] at hi
      obtain ⟨x, hx, rfl⟩ := hi
      rw [List.getElem?_take] at hx
      split at hx
      · have hi2 : i < zs.length := (List.getElem?_eq_some_iff.1 hx).1
        have h3 := hcell i hi2
        rw [add_plain] at h3
        rw [h3]
        obtain ⟨g0, g1⟩ := u32_bdx (hwz x (List.mem_of_getElem? hx))
        simp [List.getD, hx]
        omega
      · cases hx
theorem Tryd.cells24 : Tryd.prog.cellsOf 24 = 2 := by kernel_rfl
open Go.Deep Go.WideElems in
set_option maxRecDepth 100000 in
theorem open_Big {H : Type} {enc : TypeId × Value → H} {W : World} {r : Reach} {b0 : Nat} {v : Value} {d : DataW H} {p : List MemPlace}
    (hv : Value.okWide Tryd.prog W r b0 24 v) (h : DataW.Trod enc Tryd.prog W 0 (fun _ => true) true 24 v d p) (hlt : ∀ x ∈ p, x.block < W.heap.size) :
    ∃ (x0 : Bool) (A1 : Option Addr) (n1 c1 : Nat) (l1 : List Nat), v = .agg #[.bool x0, .slice A1 n1 c1] ∧ DG W A1 n1 l1 ∧ Sl A1 n1 c1 := by
  have hv0 := hv
  obtain ⟨cs, rfl, hsz⟩ := okWide_struct Tryd.underlying24 hv
  rw [Tryd.cells24] at hsz
  obtain ⟨fuel, hf⟩ := h
  obtain ⟨ys, n', hn', hy, hlen, hyl, hg⟩ := DataW.trod_struct Tryd.underlying24 hf
  simp only [Prod.mk.injEq] at hy
  obtain ⟨-, hp⟩ := hy
  rcases cs with ⟨l⟩
  have hl4 : l.length = 2 := by simpa using hsz
  have key : ∀ (j : Nat) (f : Field) (u : Value), (match Tryd.prog.underlying 24 with | some (.struct fs) => fs[j]? | _ => none) = some f → l[j]? = some u → ∃ y, DataW.trod enc Tryd.prog W 0 (fun _ => true) true n' f.type [u] = some y ∧ ∀ x ∈ y.2, x.block < W.heap.size := by
    intro j f u hj hu
    rw [Tryd.underlying24] at hj
    obtain ⟨ho, hk⟩ := hone_of (P := Tryd.prog) (by kernel_rfl) j f hj
    have h1 := hg j f hj
    rw [ho, hk] at h1
    have hjl : j < l.length := (List.getElem?_eq_some_iff.1 hu).1
    have hys : ys[j]? = some (ys[j]'(by rw [hyl]; have := (Array.getElem?_eq_some_iff.1 hj).1; simpa using this)) := List.getElem?_eq_getElem _
    have hone' : ((Value.cells (.agg ⟨l⟩)).toList.drop j).take 1 = [u] := by
      show (l.drop j).take 1 = [u]
      rw [List.drop_eq_getElem_cons hjl]
      have := (List.getElem?_eq_some_iff.1 hu).2
      simp [this]
    rw [hone'] at h1
    refine ⟨_, h1.trans hys, fun x hx => hlt x ?_⟩
    rw [hp]
    exact List.mem_flatMap.2 ⟨_, List.getElem_mem _, hx⟩
  match l, hl4 with
  | [u0, u1], _ =>
    obtain ⟨y0, t0, hl0⟩ := key 0 _ u0 (by rw [Tryd.underlying24]; rfl) rfl
    obtain ⟨y1, t1, hl1⟩ := key 1 _ u1 (by rw [Tryd.underlying24]; rfl) rfl
    obtain ⟨x0, g0, _⟩ := DataW.trod_bool Tryd.underlying4 t0
    obtain rfl : u0 = .bool x0 := by simpa using g0
    have hs0 : ∀ a n c, u1 = .slice (some a) n c → a.spot = none := by
      rintro a n c rfl
      simp only [Value.okWide, Tryd.underlying24] at hv0
      obtain ⟨cs, e, _, ts, hts, _, hc⟩ := hv0
      injection e with e
      subst e
      have e2 : Tryd.prog.cellTypes Tryd.prog.depth 24 = some [4, 22] := by kernel_rfl
      obtain rfl := Option.some.inj (e2.symm.trans hts)
      obtain ⟨u, hu, hk⟩ := hc 1 _ rfl
      obtain rfl : (22 : Nat) = u := Option.some.inj hu
      simp only [Cell.okWide, Cell.ok, Tryd.underlying22] at hk
      exact hk.2.2.2.1
    obtain ⟨A1, n1, c1, l1, rfl, b1, k1⟩ := digs_trod t1 hl1 hs0
    exact ⟨x0, A1, n1, c1, l1, rfl, b1, k1⟩
theorem env_of {W : World} (hL : laidMetH Tryd.prog Rows.bigintRingRow.laid W) : EnvB W := by
  rw [MakeChecks.laidMetH_plain _ _ _ (by kernel_rfl)] at hL
  exact Lib.tabIs_of_head (g := 0) (t := 110) (e := 49) (n := 20) (by kernel_rfl) (by kernel_rfl) (by kernel_rfl) (by kernel_rfl) (by kernel_rfl) (by kernel_rfl) hL.tail.tail
theorem OB.grow {w : World} {base N : Nat} {v : Value} {z : Int} {na : Bool} {A : Option Addr} {n c : Nat} {D : List Nat} (ho : Own w base A n D) (hs : Sl A n c) (hn : n ≤ N) (hz : z = sgn na (dv 4294967296 D)) (e : v = .agg #[.bool na, .slice A n c]) : OB w base v z N := ⟨na, A, n, c, D, e, ho, hs, hn, hz⟩
theorem OB.mono {w : World} {base b2 N : Nat} {v : Value} {z : Int} (h : OB w base v z N) (hb : b2 ≤ base) : OB w b2 v z N := by
  obtain ⟨neg, A, n, c, D, e, ho, hs, hn, hz⟩ := h
  exact ⟨neg, A, n, c, D, e, ho.mono hb, hs, hn, hz⟩
/-- A copy of an integer that can be read. -/
theorem cp_bg (w : World) (v : Value) (z : Int) (N : Nat) (h : BG w v z N) (hN : N ≤ 100000) : Calls Tryd.prog 16 #[v] w fun e w' => ∃ v', e = .returned v' ∧ OB w' w.heap.size v' z N ∧ Below w.heap.size w w' := by
  obtain ⟨neg, A, n, c, D, rfl, hd, hs, hn, hz⟩ := h
  refine (cp_any w neg A n c D hd (by omega)).mono ?_
  rintro e w' ⟨A', c', rfl, ho, hs', hb⟩
  exact ⟨_, rfl, ⟨neg, A', n, c', D, rfl, ho, hs', hn, hz⟩, hb⟩
theorem NB.expose {w : World} {base N : Nat} {v : Value} {z : Int} (h : NB w base v z N) : ∃ s A n c, v = .agg #[.bool s, .slice A n c] := by
  obtain ⟨A, n, c, D, e, _⟩ := h
  exact ⟨_, _, _, _, e⟩
theorem OB.expose {w : World} {base N : Nat} {v : Value} {z : Int} (h : OB w base v z N) : ∃ s A n c, v = .agg #[.bool s, .slice A n c] := by
  obtain ⟨neg, A, n, c, D, e, _⟩ := h
  exact ⟨_, _, _, _, e⟩
/-- A new block for an integer. -/
def NwB (w : World) (base : Nat) (v : Value) : Prop := ∃ g, v = .pointer (some ⟨g, 0, none⟩) ∧ base ≤ g ∧ Blk w g 24 #[.bool false, .slice none 0 0]
theorem NwB.below {w w' : World} {base : Nat} {v : Value} (h : NwB w base v) (hb : Below w.heap.size w w') : NwB w' base v := by
  obtain ⟨g, e, hg, hk⟩ := h
  exact ⟨g, e, hg, hk.below hb⟩
theorem NwB.new {w : World} {base : Nat} (hb : base ≤ w.heap.size) : NwB (w.alloc (.cells #[.bool false, .slice none 0 0] 24)) base (.pointer (some ⟨w.heap.size, 0, none⟩)) := ⟨_, rfl, hb, Blk.new _ _ _⟩
theorem NwB.ne {w : World} {base : Nat} {u : Value} (h : NwB w base u) : Value.pointer (some ⟨w.heap.size, 0, none⟩) ≠ u := by
  obtain ⟨g, rfl, _, hk⟩ := h
  intro e
  injection e with e
  injection e with e
  injection e with e
  have := hk.lt
  omega
def ap2 (a b i j : Nat) : Bool := (i == a && j == b) || (i == b && j == a)
theorem ap2_no {a b i j : Nat} (h1 : i ≠ a) (h2 : i ≠ b) : ¬ ap2 a b i j = true := by
  simp [ap2, h1, h2]
theorem ap2_sym {a b : Nat} (h : a ≠ b) (i j : Nat) (hi : ap2 a b i j = true) : ap2 a b j i = true ∧ i ≠ j := by
  simp only [ap2, Bool.or_eq_true, Bool.and_eq_true, beq_iff_eq] at hi ⊢
  omega
theorem ap2_l {a b j : Nat} (_h : a ≠ b) (hj : ap2 a b a j = true) : j = b := by
  simp only [ap2, Bool.or_eq_true, Bool.and_eq_true, beq_iff_eq] at hj
  omega
theorem ap2_r {a b j : Nat} (_h : a ≠ b) (hj : ap2 a b b j = true) : j = a := by
  simp only [ap2, Bool.or_eq_true, Bool.and_eq_true, beq_iff_eq] at hj
  omega
def ap0 (_ _ : Nat) : Bool := false
theorem ap0_no {i j : Nat} : ¬ ap0 i j = true := fun h => by cases h
end Go.Proofs.YtndkcimdbidgaaaDoor
