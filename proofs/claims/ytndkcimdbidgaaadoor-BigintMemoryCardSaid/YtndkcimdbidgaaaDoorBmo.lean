/- Results that are overwritten; integers with given digits. -/
import Derived.Test.YtndkcimdbidgaaaDoorBqi
namespace Go.Proofs.YtndkcimdbidgaaaDoor
open Go.ChangeShapes Go.WideShapes Go.ChangeAt Go.RowKit Go.ChangeMaps

section
variable {P : Program} {ops : Array Oper} {Q : Exit → Act → World → Prop} {S : World → Prop}
theorem wpAny_specs {dst : Nat → Nat} {todo0 : List Nat} {a0 : Act} (Spec : Nat → Value → World → Prop) (hnd : (todo0.map dst).Nodup) (hb : backB ops ops.size = true)
    (hmono : ∀ i v w w', Spec i v w → Below w.heap.size w w' → Spec i v w')
    (hstep : ∀ i ∈ todo0, ∃ o, ops[i]? = some o ∧ o.dst = some (dst i) ∧ ∀ (vs : Nat → Value) (w : World) (K : Act → World → Prop), S w → (∀ j ∈ todo0, depB ops i j = true → Spec j (vs j) w) →
      (∀ v w', S w' → Below w.heap.size w w' → Spec i v w' → K ((puts dst todo0 vs a0).put (some (dst i)) v) w') →
      if Region.wanted o (yielded ops (puts dst todo0 vs a0).tmps) = true then Oper.wp P o (puts dst todo0 vs a0) w K Q else K ((puts dst todo0 vs a0).put (some (dst i)) undef) w)
    (hend : ∀ vs w, S w → (∀ j ∈ todo0, Spec j (vs j) w) → Q .normal (puts dst todo0 vs a0) w) :
    ∀ (f : Nat) (todo : List Nat) (listed : Array Bool) (vs : Nat → Value) (w : World), todo.length = f → (∀ j ∈ todo, j ∈ todo0) → todo.Nodup → (∀ j ∈ todo, j < ops.size) → listed.size = ops.size →
      (∀ j ∈ todo, listed.getD j true = false) → (∀ j, j < ops.size → j ∉ todo → listed.getD j false = true) → S w → (∀ j ∈ todo0, j ∉ todo → Spec j (vs j) w) →
      wpAny P .any ops Q f listed (puts dst todo0 vs a0) w := by
  intro f
  induction f with
  | zero =>
    intro todo listed vs w hf _ _ _ _ _ hdone hS hsp
    obtain rfl : todo = [] := List.length_eq_zero_iff.1 hf
    refine ⟨List.eq_nil_iff_forall_not_mem.2 fun i hi => ?_, hend vs w hS (fun j hj => hsp j hj (by simp))⟩
    obtain ⟨hiun, o, ho, _⟩ := mem_ready.1 hi
    have h1 := hdone i (Array.getElem?_eq_some_iff.1 ho).1 (by simp)
    rw [getD_both hiun] at h1
    cases h1
  | succ f ih =>
    intro todo listed vs w hf hsub hnodup hlt hsz hun hdone hS hsp
    have hne : todo ≠ [] := fun e => by subst e; simp at hf
    obtain ⟨i0, hi0, hmin⟩ := least_of todo hne
    have hready : i0 ∈ Region.ready .any ops listed := by
      obtain ⟨o0, ho⟩ : ∃ o, ops[i0]? = some o := ⟨_, Array.getElem?_eq_getElem (hlt i0 hi0)⟩
      refine mem_ready.2 ⟨hun i0 hi0, _, ho, fun e he hbd => ?_⟩
      have h1 := List.all_eq_true.1 hb i0 (List.mem_range.2 (hlt i0 hi0))
      rw [ho] at h1
      have h2 := Array.all_eq_true'.1 h1 e he
      rw [hbd] at h2
      have h3 : e.on < i0 := by simpa using h2
      refine hdone _ (Nat.lt_trans h3 (hlt i0 hi0)) fun hm => ?_
      have := hmin _ hm
      omega
    refine ⟨fun h0 => (by rw [h0] at hready; cases hready), fun i hi => ?_⟩
    obtain ⟨hiun, oi, hoi, hall⟩ := mem_ready.1 hi
    have hin : i < ops.size := (Array.getElem?_eq_some_iff.1 hoi).1
    have hit : i ∈ todo := by
      refine Classical.byContradiction fun hni => ?_
      have h1 := hdone i hin hni
      rw [getD_both hiun] at h1
      cases h1
    obtain ⟨o, ho, hdo, hst⟩ := hstep i (hsub i hit)
    obtain rfl : o = oi := Option.some.inj (ho.symm.trans hoi)
    have hdeps : ∀ j ∈ todo0, depB ops i j = true → Spec j (vs j) w := fun j hj hd => hsp j hj fun hjt => by
      unfold depB at hd
      rw [ho] at hd
      obtain ⟨e, he, h2⟩ := Array.any_eq_true'.1 hd
      simp only [Bool.and_eq_true, beq_iff_eq] at h2
      have h3 := hall e he h2.1
      rw [h2.2, getD_both (hun j hjt)] at h3
      cases h3
    refine wpOp_step ho fun K hK => ?_
    rw [hdo]
    refine hst vs w K hS hdeps fun v w' hS' hbel hsp' => hK _ _ ?_
    rw [puts_upd todo0 vs a0 hnd (hsub i hit)]
    refine ih (todo.erase i) _ _ _ (by rw [List.length_erase_of_mem hit, hf]; rfl) (fun j hj => hsub j (List.mem_of_mem_erase hj)) (hnodup.erase i) (fun j hj => hlt j (List.mem_of_mem_erase hj)) (by simpa using hsz) (fun j hj => ?_) (fun j hj hnj => ?_) hS' (fun j hj hnj => ?_)
    · have hji : i ≠ j := fun e => by subst e; exact (hnodup.not_mem_erase) hj
      rw [getD_set_ne true hji]
      exact hun j (List.mem_of_mem_erase hj)
    · by_cases hji : j = i
      · subst hji
        have : j < listed.size := by rw [hsz]; exact hj
        simp [this]
      · exact getD_set_true (hdone j hj fun hjt => hnj ((List.mem_erase_of_ne hji).2 hjt))
    · by_cases hji : j = i
      · subst hji
        simpa using hsp'
      · rw [if_neg hji]
        exact hmono j _ _ _ (hsp j hj fun hjt => hnj ((List.mem_erase_of_ne hji).2 hjt)) hbel
end
theorem wp_region_specs {P : Program} {Q : Exit → Act → World → Prop} {id : Nat} {a : Act} {w : World} {l : List Oper} (S : World → Prop) (dst : Nat → Nat) (todo : List Nat) (Spec : Nat → Value → World → Prop)
    (hm : P.follows .mixedOrders = true)
    (hB : (decide (todo.map dst).Nodup && decide todo.Nodup && backB l.toArray l.length && decide (todo.length = l.length) && todo.all (fun j => decide (j < l.length)) && (List.range l.length).all (fun j => todo.contains j)) = true)
    (hmono : ∀ i v w w', Spec i v w → Below w.heap.size w w' → Spec i v w') (hS : S w.drew)
    (hstep : ∀ i ∈ todo, ∃ o, l.toArray[i]? = some o ∧ o.dst = some (dst i) ∧ ∀ (vs : Nat → Value) (w : World) (K : Act → World → Prop), S w → (∀ j ∈ todo, depB l.toArray i j = true → Spec j (vs j) w) →
      (∀ v w', S w' → Below w.heap.size w w' → Spec i v w' → K ((puts dst todo vs a).put (some (dst i)) v) w') →
      if Region.wanted o (yielded l.toArray (puts dst todo vs a).tmps) = true then Oper.wp P o (puts dst todo vs a) w K Q else K ((puts dst todo vs a).put (some (dst i)) undef) w)
    (hend : ∀ vs w, S w → (∀ j ∈ todo, Spec j (vs j) w) → Q .normal (puts dst todo vs a) w) : (Code.region id l.toArray true).wp P Q a w := by
  simp only [Bool.and_eq_true, decide_eq_true_eq, List.all_eq_true, List.contains_iff_mem, List.mem_range] at hB
  obtain ⟨⟨⟨⟨⟨h1, h2⟩, h3⟩, h4⟩, h5⟩, h6⟩ := hB
  have hsz : l.toArray.size = l.length := by simp
  refine wp_region_any hm ?_
  have := wpAny_specs (P := P) (Q := Q) (S := S) (ops := l.toArray) (todo0 := todo) (a0 := a) (dst := dst) Spec h1 (by rw [hsz]; exact h3) hmono hstep hend todo.length todo (Array.replicate l.toArray.size false) (fun j => a.tmps.getD (dst j) undef) w.drew rfl (fun j hj => hj) h2 (fun j hj => by rw [hsz]; exact h5 j hj) (by simp) (fun j hj => getD_in (by simpa using h5 j hj) (getD_replicate_false _ _)) (fun j hj hnj => absurd (h6 j (by rw [← hsz]; exact hj)) hnj) hS (fun j hj hnj => absurd hj hnj)
  rw [puts_self, h4, ← hsz] at this
  exact this

/-- A row whose cells are digits of 32 bits. -/
def RW (w : World) (base : Nat) (A : Option Addr) (n : Nat) : Prop := 0 < n → ∃ g off cs, A = some ⟨g, off, none⟩ ∧ base ≤ g ∧ Blk w g 47 cs ∧ ∀ j, j < n → ∃ d : Nat, d < 4294967296 ∧ cs[off + j]? = some (.int .u32 (d : Int))
/-- What overwriting rows keeps. -/
structure SpK (base : Nat) (w w' : World) : Prop where
  below : Below base w w'
  blk : ∀ g T cs, T ≠ 47 → Blk w g T cs → Blk w' g T cs
  row : ∀ A n, RW w base A n → RW w' base A n
theorem SpK.refl (base : Nat) (w : World) : SpK base w w := ⟨Below.refl _ _, fun _ _ _ _ h => h, fun _ _ h => h⟩
theorem SpK.trans {base : Nat} {w w' w2 : World} (h : SpK base w w') (h2 : SpK base w' w2) : SpK base w w2 :=
  ⟨h.below.trans h2.below, fun g T cs hT hb => h2.blk g T cs hT (h.blk g T cs hT hb), fun A n hr => h2.row A n (h.row A n hr)⟩
theorem SpK.grow {base : Nat} {w w' : World} (hb : Below w.heap.size w w') (hs : base ≤ w.heap.size) : SpK base w w' :=
  ⟨hb.mono hs, fun _ _ _ _ h => h.below hb, fun _ _ h hn => let ⟨g, off, cs, e, hg, hk, hc⟩ := h hn; ⟨g, off, cs, e, hg, hk.below hb, hc⟩⟩
theorem SpK.set {base : Nat} {w : World} {g k d : Nat} {cs : Array Value} (hk : Blk w g 47 cs) (hg : base ≤ g) (hd : d < 4294967296) : SpK base w (w.setCell ⟨g, k, none⟩ (.int .u32 (d : Int))) := by
  refine ⟨(store_step hk k _).2.2 _ _ (Below.refl _ _) hg, fun g' T cs' hT hb => ?_, fun A n hr hn => ?_⟩
  · refine (store_step hk k _).2.1 g' T cs' (fun e => ?_) hb
    subst e
    have h1 := hb.symm.trans hk
    injection h1 with h1
    injection h1 with _ h1
    exact hT h1
  · obtain ⟨g2, off, cs2, e, hg2, hk2, hc⟩ := hr hn
    by_cases hgg : g2 = g
    · subst hgg
      have h1 := hk2.symm.trans hk
      injection h1 with h1
      injection h1 with h1
      subst h1
      refine ⟨g2, off, _, e, hg2, (store_step hk k _).1, fun j hj => ?_⟩
      obtain ⟨d2, hd2, hcd⟩ := hc j hj
      by_cases hkj : k = off + j
      · refine ⟨d, hd, ?_⟩
        have hlt : k < cs2.size := by rw [hkj]; exact (Array.getElem?_eq_some_iff.1 hcd).1
        rw [← hkj, Array.getElem?_setIfInBounds_self_of_lt hlt]
      · refine ⟨d2, hd2, ?_⟩
        rw [Array.getElem?_setIfInBounds_ne hkj]
        exact hcd
    · exact ⟨g2, off, cs2, e, hg2, (store_step hk k _).2.1 g2 47 cs2 hgg hk2, hc⟩
theorem Own.rw {w : World} {b base n : Nat} {A : Option Addr} {D : List Nat} (h : Own w b A n D) (hb : base ≤ b) : RW w base A n := fun hn => by
  obtain ⟨g, off, cs, e, hg, hk, hc⟩ := h.2.2 hn
  refine ⟨g, off, cs, e, Nat.le_trans hb hg, hk, fun j hj => ?_⟩
  obtain ⟨d, hd⟩ : ∃ d, D[j]? = some d := ⟨_, List.getElem?_eq_getElem (by rw [h.1]; exact hj)⟩
  exact ⟨d, dok_at h.2.1 hd, hc j d hd⟩
/-- A result whose digits may be overwritten. -/
def RV (w : World) (base : Nat) (v : Value) : Prop := ∃ s A n c, v = .agg #[.bool s, .slice A n c] ∧ RW w base A n ∧ Sl A n c ∧ n ≤ 100000
theorem RV.below {w w' : World} {base : Nat} {v : Value} (h : RV w base v) (hb : Below w.heap.size w w') : RV w' base v := by
  obtain ⟨s, A, n, c, e, hr, hs, hn⟩ := h
  exact ⟨s, A, n, c, e, fun h0 => let ⟨g, off, cs, e, hg, hk, hc⟩ := hr h0; ⟨g, off, cs, e, hg, hk.below hb, hc⟩, hs, hn⟩
theorem NB.rv {w : World} {b base N : Nat} {v : Value} {z : Int} (h : NB w b v z N) (hb : base ≤ b) (hN : N ≤ 100000) : RV w base v := by
  obtain ⟨A, n, c, D, e, ho, hs, _, _, hn⟩ := h
  exact ⟨_, A, n, c, e, ho.rw hb, hs, Nat.le_trans hn hN⟩
theorem FR.rv {okb : Bool} {B base : Nat} {x : Int} {v : Value} {w : World} (h : FR okb B x v w) (hb : base ≤ B) : RV w base v := by
  cases okb
  · rw [h.2.2 rfl]
    exact ⟨false, none, 0, 0, rfl, fun h0 => absurd h0 (Nat.lt_irrefl 0), Sl.nil, Nat.zero_le _⟩
  · exact (h.2.1 rfl).rv hb (by decide)
/-- An integer with given sign and digits, in a block of its own. -/
def OD (w : World) (base : Nat) (v : Value) (s : Bool) (n : Nat) (D : List Nat) : Prop := ∃ A c, v = .agg #[.bool s, .slice A n c] ∧ Own w base A n D ∧ Sl A n c
theorem OD.below {w w' : World} {base : Nat} {v : Value} {s : Bool} {n : Nat} {D : List Nat} (h : OD w base v s n D) (hb : Below w.heap.size w w') : OD w' base v s n D :=
  let ⟨A, c, e, ho, hs⟩ := h; ⟨A, c, e, ho.below hb, hs⟩
theorem OD.row {w : World} {base g : Nat} {v : Value} {s : Bool} {n : Nat} {D : List Nat} {cs : Array Value} (h : OD w base v s n D) (hk : Blk w g 24 cs) (ds : Array Value) : OD (w.setRow g ds) base v s n D :=
  let ⟨A, c, e, ho, hs⟩ := h; ⟨A, c, e, ho.row hk ds, hs⟩
theorem OD.expose {w : World} {base : Nat} {v : Value} {s : Bool} {n : Nat} {D : List Nat} (h : OD w base v s n D) : ∃ s A n c, v = .agg #[.bool s, .slice A n c] :=
  let ⟨A, c, e, _, _⟩ := h; ⟨s, A, n, c, e⟩
theorem OD.eqs {w : World} {base : Nat} {s s' : Bool} {A : Option Addr} {n n' c : Nat} {D : List Nat} (h : OD w base (.agg #[.bool s', .slice A n' c]) s n D) : s = s' ∧ n = n' := by
  obtain ⟨A2, c2, e, _, _⟩ := h
  injection e with e
  simp only [Array.mk.injEq, List.cons.injEq, Value.bool.injEq, Value.slice.injEq, and_true] at e
  exact ⟨e.1.symm, e.2.2.1.symm⟩
theorem OD.mono {w : World} {base b2 : Nat} {v : Value} {s : Bool} {n : Nat} {D : List Nat} (h : OD w base v s n D) (hb : b2 ≤ base) : OD w b2 v s n D :=
  let ⟨A, c, e, ho, hs⟩ := h; ⟨A, c, e, ho.mono hb, hs⟩
theorem OD.bg {w : World} {base : Nat} {v : Value} {s : Bool} {n N : Nat} {D : List Nat} {z : Int} (h : OD w base v s n D) (hn : n ≤ N) (hz : z = sgn s (dv 4294967296 D)) : BG w v z N :=
  let ⟨A, c, e, ho, hs⟩ := h; ⟨s, A, n, c, D, e, ho.dg, hs, hn, hz⟩
theorem cp_od (w : World) (s : Bool) (A : Option Addr) (n c : Nat) (D : List Nat) (hd : DG w A n D) (hn : n ≤ 100000) : Calls Tryd.prog 16 #[.agg #[.bool s, .slice A n c]] w fun e w' => ∃ v, e = .returned v ∧ OD w' w.heap.size v s n D ∧ Below w.heap.size w w' := by
  refine (cp_any w s A n c D hd hn).mono ?_
  rintro e w' ⟨A', c', rfl, ho, hs, hb⟩
  exact ⟨_, rfl, ⟨A', c', rfl, ho, hs⟩, hb⟩
theorem Same_od {w : World} {b1 b2 n : Nat} {v1 v2 : Value} {s : Bool} {D : List Nat} (h1 : OD w b1 v1 s n D) (h2 : OD w b2 v2 s n D) (hn : n ≤ 100000) : Calls Tryd.prog 18 #[v1, v2] w fun e w' => e = .returned (.bool true) ∧ Below w.heap.size w w' := by
  obtain ⟨A, c, rfl, ho, hs⟩ := h1
  obtain ⟨A2, c2, rfl, ho2, hs2⟩ := h2
  exact Same_any s A n c D A2 c2 w ho.dg ho2.dg hn
set_option maxRecDepth 100000 in
set_option maxHeartbeats 4000000 in
theorem spoil_any (v : Value) (base : Nat) (w : World) (h : RV w base v) (hB : base ≤ w.heap.size) : Calls Tryd.prog 43 #[v] w fun e w' => e = .returned (.tuple #[]) ∧ SpK base w w' := by
  obtain ⟨s, A, n, c, rfl, hr, hs, hn⟩ := h
  obtain ⟨W0, hW0⟩ : ∃ W, W = w.alloc (.cells #[.bool s, .slice A n c] 24) := ⟨_, rfl⟩
  have hb0 : Below w.heap.size w W0 := by rw [hW0]; exact (Below.refl _ w).alloc (Nat.le_refl _) _
  have HK := Lib.hid (show Blk W0 w.heap.size 24 #[.bool s, .slice A n c] by rw [hW0]; exact Blk.new _ _ _)
  have HS0 := Lib.hid (SpK.grow hb0 hB)
  have HR := Lib.hid (HS0.out.row A n hr)
  have k0 : W0.cell? ⟨w.heap.size, 1, none⟩ = some (.slice A n c) := HK.out.cell 1
  clear hr hb0
  go_enter Tryd.func43, Tryd.ntmps43
  go_upto_region 1 with fail
  rw [← hW0]
  clear hW0
  go_wp2
  clear k0
  go_loopw [6] (fun s6 wr => ∃ i : Nat, s6 = .int .i64 (i : Int) ∧ i ≤ n ∧ SpK base W0 wr) (fun s6 _ => n - (intOf s6).toNat)
  case atStart => exact ⟨0, rfl, Nat.zero_le _, SpK.refl _ _⟩
  case round =>
    obtain ⟨i, rfl, hin, hk⟩ := hrel
    have HSK := Lib.hid hk
    clear hk
    by_cases hlt : i < n
    · have hltI : (i : Int) < (n : Int) := by omega
      have hlt0 : (0 : Int) ≤ (i : Int) := by omega
      obtain ⟨g, off, cs, eA, hg, hk, hc⟩ := HSK.out.row A n HR.out (by omega)
      obtain ⟨d, hd, hcd⟩ := hc i hlt
      subst eA
      have k0 : wr.cell? ⟨w.heap.size, 1, none⟩ = some (.slice (some ⟨g, off, none⟩) n c) := (HSK.out.blk _ _ _ (by decide) HK.out).cell 1
      have c9 : wr.cell? ⟨g, off + i, none⟩ = some (.int .u32 (d : Int)) := (hk.cell _).trans hcd
      have f9 : wr.frozen? ⟨g, off + i, none⟩ = false := Joins.unfrozen_of_block hk _
      obtain ⟨d2, hd2⟩ : ∃ x, x = (d + 1) % 4294967296 := ⟨_, rfl⟩
      have hwr : IntKind.u32.wrap ((d : Int) + 1) = (d2 : Int) := by rw [IntKind.wrap_u32]; omega
      have hwe : ((d : Int) + 1) % 4294967296 = (d2 : Int) := by omega
      have HNX := Lib.hid (SpK.set (k := off + i) hk hg (show d2 < 4294967296 by omega))
      clear hc hcd hd hd2 hk
      go_wp2
      go_roundw
      case rel => exact ⟨i + 1, by go_num, by omega, HSK.out.trans HNX.out⟩
      case measure => simp only [intOf]; omega
    · obtain rfl : i = n := by omega
      have hlt2 : ¬ ((i : Int) < (i : Int)) := by omega
      go_wp2
      go_end0
      exact ⟨rfl, HS0.out.trans HSK.out⟩
end Go.Proofs.YtndkcimdbidgaaaDoor
