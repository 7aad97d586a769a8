/- The index's Candidates. -/
import Derived.Test.YtgenpldldgplhaaBpt
import Derived.Test.YtgenpldldgplhaaBso
import Derived.Test.YtgenpldldgplhaaSme
import Derived.Laws.IdiomRangeMap
import Derived.Maps.RangeWalk
namespace Go.Proofs.Ytgenpldldgplhaa
open Go.ChangeShapes Go.WideShapes Go.ChangeAt Go.RowKit Go.ChangeMaps

section
variable {ops : Array Oper} {rest : List Oper} {o : Oper} {a : Act} {Q : Exit → Act → World → Prop} {k t e : TypeId} {q : IntKind} {b r n s cnt : Nat} {f : Int → Option Value} {l : Int → Bool}
theorem wpList_mrange (w : World) (hg : o.guard = none) (m : Operand) (t : TypeId) (hop : o.op = Op.range t m) (hk : Try.prog.underlying k = some (.int q)) (ht : Try.prog.underlying t = some (.map k e)) (hm : a.eval m = .map (some b)) (h : MB w k q b n s f)
    (hK : ∀ w', MR w' k q b w.heap.size n f (fun a => (f a).isSome) s → w.grownBy w' none → w'.heap.size = w.heap.size + 1 → wpList Try.prog ops Q rest (a.put o.dst (.pointer (some ⟨w.heap.size, 0, none⟩))) w') : wpList Try.prog ops Q (o :: rest) a w := by
  refine wpList_plain hg fun K' hK' => ?_
  obtain ⟨w', hrun, r1, r2, r3⟩ := h.range hk ht
  unfold Oper.wp
  simp [execOp, hop, hm, hrun, Result.andThen]
  exact hK' _ _ (hK w' r1 r2 r3)
theorem wpList_mnext (w : World) (hg : o.guard = none) (it : Operand) (hop : o.op = Op.next it false) (hk : Try.prog.underlying k = some (.int q)) (hit : a.eval it = .pointer (some ⟨r, 0, none⟩)) (h : MR w k q b r n f l cnt)
    (hDone : cnt = 0 → (∀ a, (Lit.int q a).wf = true → l a = false) → wpList Try.prog ops Q rest (a.put o.dst (.tuple #[.bool false])) w)
    (hMore : ∀ (x : Int) (v : Value) (w' : World) (cnt' : Nat), (Lit.int q x).wf = true → l x = true → f x = some v → MR w' k q b r n f (fun y => l y && !decide (y = x)) cnt' → cnt' < cnt → w.grownBy w' (some r) → w'.heap.size = w.heap.size →
      (Instr.entry (.pointer (some ⟨r, 0, none⟩))).run Try.prog w' = .ok (.tuple #[.int q x, v]) w' → wpList Try.prog ops Q rest (a.put o.dst (.tuple #[.bool true, .int q x, v])) w') : wpList Try.prog ops Q (o :: rest) a w := by
  refine wpList_plain hg fun K' hK' => ?_
  unfold Oper.wp
  rcases h.next hk o.type with ⟨h0, hl, hrun⟩ | ⟨x, v, w', cnt', h1, h2, h3, hrun, h4, h5, h6, h7, h8⟩
  · simp [execOp, hop, hit, hrun, Result.andThen]
    exact hK' _ _ (hDone h0 hl)
  · simp [execOp, hop, hit, hrun, Result.andThen]
    exact hK' _ _ (hMore x v w' cnt' h1 h2 h3 h4 h5 h6 h7 h8)
end
def hitB (t : Int) (R : List Sd) (it : It) : Bool := it.t == t && meetB t it.t R it.R
def candL (L : List It) (t : Int) (R : List Sd) : List Int := (L.filter (hitB t R)).map It.id
/-- What a range has collected. -/
structure Got (L : List It) (t : Int) (R : List Sd) (zs : List Int) (l : Int → Bool) : Prop where
  nodup : zs.Nodup
  mem : ∀ a, a ∈ zs ↔ (∃ it, fnd L a = some it ∧ hitB t R it = true) ∧ l a = false
theorem Got.start {L : List It} {t : Int} {R : List Sd} : Got L t R [] (fun a => (spec L t a).isSome) := by
  refine ⟨List.nodup_nil, fun a => ⟨fun h => (by cases h), fun h => ?_⟩⟩
  obtain ⟨⟨it, h1, h2⟩, h3⟩ := h
  unfold hitB at h2
  rw [Bool.and_eq_true, beq_iff_eq] at h2
  unfold spec at h3
  rw [h1] at h3
  simp [h2.1] at h3
theorem Got.hit {L : List It} {t : Int} {R : List Sd} {zs : List Int} {l : Int → Bool} (h : Got L t R zs l) {a : Int} {it : It} (hf : fnd L a = some it) (hb : hitB t R it = true) (hl : l a = true) : Got L t R (zs ++ [a]) (fun y => l y && !decide (y = a)) := by
  have hna : a ∉ zs := fun hm => by rw [((h.mem a).1 hm).2] at hl; cases hl
  refine ⟨List.nodup_append.2 ⟨h.nodup, by simp, fun x hx y hy => ?_⟩, fun y => ?_⟩
  · rintro rfl
    rw [List.mem_singleton.1 hy] at hx
    exact hna hx
  · rw [List.mem_append, List.mem_singleton, h.mem]
    by_cases e : y = a
    · subst e
      simp [hf, hb]
    · simp [e]
theorem Got.miss {L : List It} {t : Int} {R : List Sd} {zs : List Int} {l : Int → Bool} (h : Got L t R zs l) {a : Int} {it : It} (hf : fnd L a = some it) (hb : hitB t R it = false) : Got L t R zs (fun y => l y && !decide (y = a)) := by
  refine ⟨h.nodup, fun y => ?_⟩
  rw [h.mem]
  by_cases e : y = a
  · subst e
    simp [hf, hb]
  · simp [e]
theorem cand_asc {L : List It} (h : Asc L) (t : Int) (R : List Sd) : (candL L t R).Pairwise (· < ·) := by
  unfold candL
  rw [List.pairwise_map]
  exact List.Pairwise.filter _ h
theorem Got.done {L : List It} {t : Int} {R : List Sd} {zs : List Int} {l : Int → Bool} (h : Got L t R zs l) (hA : Asc L) (hw : ∀ y ∈ L, w64 y.id) (hl : ∀ a, w64 a → l a = false) : srt zs = candL L t R := by
  refine srt_perm ((List.perm_ext_iff_of_nodup h.nodup ((cand_asc hA t R).imp fun {a b} h => by omega)).2 fun a => ?_) (cand_asc hA t R)
  rw [h.mem]
  unfold candL
  rw [List.mem_map]
  constructor
  · rintro ⟨⟨it, h1, h2⟩, -⟩
    obtain ⟨h3, h4⟩ := fnd_mem h1
    exact ⟨it, List.mem_filter.2 ⟨h3, h2⟩, h4⟩
  · rintro ⟨it, h1, rfl⟩
    obtain ⟨h3, h4⟩ := List.mem_filter.1 h1
    exact ⟨⟨it, asc_fnd hA h3, h4⟩, hl _ (hw it h3)⟩
theorem cand_none {L : List It} {t : Int} {R : List Sd} (h : hasT L t = false) : candL L t R = [] := by
  unfold candL
  rw [List.filter_eq_nil_iff.2 (fun it hi => ?_)]
  · rfl
  · have h2 := List.any_eq_false.1 h it hi
    unfold hitB
    simp at h2
    simp [h2]
theorem Try.info2 : (Try.prog.info? 2).map (fun i => (i.zero, i.size, i.bytes)) = some (some (.int .i64 0), 1, 8) := by kernel_rfl
set_option maxRecDepth 100000 in
set_option maxHeartbeats 2000000 in
theorem Cand_any (w : World) (B x M : Nat) (L : List It) (h : IX w B x M L) (t : Int) (ht : w64 t) (A : Option Addr) (n c : Nat) (R : List Sd) (hs : Sds w A n R) (hn : n ≤ 1000) (hL : L.length ≤ 100000) :
    Calls Try.prog 14 #[.pointer (some ⟨x, 0, none⟩), .agg #[.int .i64 t, .slice A n c]] w fun e w' => ∃ A' n' c', e = .returned (.slice A' n' c') ∧ w'.ownsRow w.heap.size 2 1 (.slice A' n' c') n' (ic .i64 (candL L t R)) ∧ Below w.heap.size w w' := by
  obtain ⟨i0, hi, hz0, hz1, hz2⟩ := info_parts Try.info2
  obtain ⟨W0, hW0⟩ : ∃ W0, W0 = w.alloc (.cells #[.int .i64 t, .slice A n c] 40) := ⟨_, rfl⟩
  have hb0 : Below w.heap.size w W0 := by rw [hW0]; exact (Below.refl _ w).alloc (Nat.le_refl _) _
  have hkb : Blk W0 w.heap.size 40 #[.int .i64 t, .slice A n c] := by rw [hW0]; exact Blk.new_ rfl rfl
  have hs0 : W0.heap.size = w.heap.size + 1 := by rw [hW0]; simp
  have HSD := Lib.hid hs
  have HIX := Lib.hid h
  obtain ⟨bt, bi, g, h1, -, -, -, -, -, ⟨st, h7⟩, h8⟩ := h.all
  have HX1 := Lib.hid (h1.below hb0)
  have HM7 := Lib.hid (h7.below hb0)
  have HB0 := Lib.hid hb0
  have HKB := Lib.hid hkb
  have H8 := Lib.hid (show ∀ T, hasT L T = true → MB w 2 .i64 (g T) M (cntT L T) (spec L T) from fun T hT => (h8 T hT).1)
  clear h h1 h7 h8 hs hb0 hkb
  go_enter Try.func14, Try.ntmps14
  go_wp2_with fail
  rw [← hW0]
  refine region_tail 7 (by kernel_rfl) (by kernel_rfl) (fun D hD hsD => ?_)
  simp only [List.take_succ_cons, List.take_zero, List.drop_succ_cons, List.drop_zero]
  have hDs : D.heap.size = w.heap.size + 1 := by omega
  have HKD := Lib.hid (HKB.out.below hD)
  have HBD := Lib.hid (HB0.out.trans (hD.mono (by omega)))
  have c0 : D.cell? ⟨x, 0, none⟩ = some (.map (some bt)) := (HX1.out.below hD).cell 0
  have k0 : D.cell? ⟨w.heap.size, 0, none⟩ = some (.int .i64 t) := HKD.out.cell 0
  have hl := (HM7.out.below hD).look (t := 60) (e := 64) Try.underlying3 Try.underlying60 (zeroM D) ht
  clear hD HKB HX1 HM7 HB0 hW0 hs0
  by_cases hT : hasT L t = true
  · simp only [hT, if_true, Option.getD_some] at hl
    have HMG := Lib.hid ((H8.out t hT).below HBD.out)
    have hgl : g t < w.heap.size := (H8.out t hT).lt
    have hcl : cntT L t ≤ 100000 := Nat.le_trans (List.length_filter_le _ _) hL
    have HT := Lib.hid hT
    clear hT H8
    repeat still_step
    refine wpStill_nil ?_
    go_wp2_with (at_range; go_loud (refine wpList_mrange _ rfl _ 64 rfl Try.underlying2 Try.underlying64 rfl HMG.out ?_; intro W1 mr1 gr1 hs1))
    have HMR := Lib.hid mr1
    have HB1 := Lib.hid (show Below w.heap.size w W1 from HBD.out.grown gr1 (by omega) (fun j hj => by cases hj))
    have HK1 := Lib.hid (show Blk W1 w.heap.size 40 #[.int .i64 t, .slice A n c] from (gr1.block _ HKD.out.lt (by simp)).trans HKD.out)
    clear mr1 gr1 c0 k0 hl HMG HKD HBD
    go_frame
    rw [hDs] at *
    go_loopw [5] (fun s5 wr => ∃ (zs : List Int) (l : Int → Bool) (cnt : Nat), wr.ownsRow (w.heap.size + 2) 2 1 s5 zs.length (ic .i64 zs) ∧ MR wr 2 .i64 (g t) (w.heap.size + 1) M (spec L t) l cnt ∧ Got L t R zs l ∧ zs.length + cnt ≤ 100000 ∧ Blk wr w.heap.size 40 #[.int .i64 t, .slice A n c] ∧ Below w.heap.size w wr) (fun _ wr => wr.rangeLeft (g t) (w.heap.size + 1))
    case atStart => exact ⟨[], _, _, World.ownsRow_nil _ _ _ _, HMR.out, Got.start, by simpa using hcl, HK1.out, HB1.out⟩
    case round =>
      obtain ⟨zs, l, cnt, hO, hM, hG, hcnt, hK, hB⟩ := hrel
      obtain ⟨A3, a3, rfl, -⟩ := At.of_own hO
      have HO := Lib.hid hO
      have HM := Lib.hid hM
      have HG := Lib.hid hG
      have HK := Lib.hid hK
      have HB := Lib.hid hB
      clear hO hM hG hK hB
      go_wp2_with (at_next; go_loud (refine wpList_mnext _ rfl _ rfl Try.underlying2 rfl HM.out ?_ ?_))
      · intro hc0 hl0
        have HF := Lib.hid (HG.out.done HIX.out.asc (fun y hy => (HIX.out.ok y hy).1) (fun a ha => hl0 a ha))
        have HSO := Lib.hid (Sort_any wr _ A3 zs.length a3 zs HO.out (by omega))
        clear hl0
        go_wp2_with fail
        refine HSO.out.mono ?_
        rintro e2 w2 ⟨rfl, ho2, hg2⟩
        have HO2 := Lib.hid ho2
        have HB2 := Lib.hid (HB.out.grown hg2 HB.out.size (fun j hj => by have := (HO.out.lt j hj).1; omega))
        clear ho2 hg2
        go_wp2
        go_ret
        refine ⟨_, _, _, rfl, own_mono ?_ (show w.heap.size ≤ w.heap.size + 2 by omega), HB2.out⟩
        rw [← HF.out]
        exact HO2.out
      · intro y v w1 cnt1 hy hly hfy hr1 hc1 hg1 hs1 hen
        obtain ⟨it, hf, hit, rfl⟩ : ∃ it, fnd L y = some it ∧ it.t = t ∧ v = .agg #[.int .i64 t, .slice it.A it.n it.c] := by
          unfold spec at hfy
          cases h9 : fnd L y with
          | none => rw [h9] at hfy; cases hfy
          | some it =>
            rw [h9] at hfy
            simp only at hfy
            by_cases h10 : it.t = t
            · rw [if_pos h10] at hfy
              injection hfy with hfy
              exact ⟨it, rfl, h10, by rw [← hfy, It.val, h10]⟩
            · rw [if_neg h10] at hfy; cases hfy
        obtain ⟨W2, hW2⟩ : ∃ W2, W2 = w1.alloc (.cells #[.int .i64 t, .slice it.A it.n it.c] 40) := ⟨_, rfl⟩
        have hb2 : Below w1.heap.size w1 W2 := by rw [hW2]; exact (Below.refl _ w1).alloc (Nat.le_refl _) _
        have HB1 := Lib.hid (HB.out.grown hg1 HB.out.size (fun j hj => by injection hj with hj; omega))
        have HB2 := Lib.hid (HB1.out.trans (hb2.mono HB1.out.size))
        have hgl2 : g t < w1.heap.size := by have := HB1.out.size; omega
        have hwl : w.heap.size < wr.heap.size := HK.out.lt
        have hrl : w.heap.size + 1 < w1.heap.size := hr1.lt.1
        have HO2 := Lib.hid (own_below (HO.out.kept hg1 (.inr (fun e => by have := (HO.out.lt _ e).1; omega))) hb2)
        have HM2 := Lib.hid (show MR W2 2 .i64 (g t) (w.heap.size + 1) M (spec L t) (fun y' => l y' && !decide (y' = y)) cnt1 from hr1.kept (row := none) ⟨hb2.os, hb2.tape, hb2.output, hb2.size, fun i hi _ => hb2.block i hi⟩ (by simp) (by simp))
        have HK2 := Lib.hid (show Blk W2 w.heap.size 40 #[.int .i64 t, .slice A n c] from Blk.below hb2 ((hg1.block _ hwl (fun e => by injection e with e; omega)).trans HK.out))
        obtain ⟨hmem, hid9⟩ := fnd_mem hf
        obtain ⟨hsd, -, hn9⟩ := HIX.out.sds it hmem
        have HME := Lib.hid (Meet_any t t A n c R it.A it.n it.c it.R W2 (HSD.out.below HB2.out) (hsd.below HB2.out) hn hn9)
        have k0 : W2.cell? ⟨w.heap.size, 0, none⟩ = some (.int .i64 t) := HK2.out.cell 0
        have k1 : W2.cell? ⟨w.heap.size, 1, none⟩ = some (.slice A n c) := HK2.out.cell 1
        have HG2 := Lib.hid (show Got L t R (if meetB t t R it.R = true then zs ++ [y] else zs) (fun y' => l y' && !decide (y' = y)) from by
          have e9 : hitB t R it = meetB t t R it.R := by unfold hitB; rw [hit]; simp
          by_cases hb9 : meetB t t R it.R = true
          · rw [if_pos hb9]; exact HG.out.hit hf (e9.trans hb9) hly
          · rw [if_neg hb9]; exact HG.out.miss hf (e9.trans (by simpa using hb9)))
        have HLE := Lib.hid (show wr.rangeLeft (g t) (w.heap.size + 1) = cnt from HM.out.left_eq)
        have hen0 := hen
        generalize meetB t t R it.R = mb at *
        clear hb2 hr1 hg1 hfy hly hf hit hmem hid9 hsd HG HM HO HK hen0 hy
        rw [hW2] at k0 k1 HME
        go_wp2_with fail
        refine HME.out.mono ?_
        rintro e3 w3 ⟨rfl, hb3⟩
        rw [← hW2] at hb3
        have HB3 := Lib.hid (HB2.out.trans (hb3.mono HB2.out.size))
        have HO3 := Lib.hid (own_below HO2.out hb3)
        have HM3 := Lib.hid (HM2.out.kept (row := none) ⟨hb3.os, hb3.tape, hb3.output, hb3.size, fun i hi _ => hb3.block i hi⟩ (by simp) (by simp))
        have HK3 := Lib.hid (Blk.below hb3 HK2.out)
        clear hb3 HME k0 k1 hen hW2 HO2 HM2 HK2 HB2 HB1
        cases mb
        · go_wp2
          go_roundw
          case rel => exact ⟨zs, _, cnt1, HO3.out, HM3.out, HG2.out, by omega, HK3.out, HB3.out⟩
          case measure => rw [HM3.out.left_eq, HLE.out]; exact hc1
        · have hw3 : w.heap.size + 1 < w3.heap.size := HM3.out.lt.1
          have HN3 : Hid (Src Try.prog 1 36 (.slice (some ⟨w3.heap.size, 0, none⟩) 1 1) 1 [.int .i64 y] (w3.alloc (.cells #[.int .i64 y] 2))) := Lib.hid (src_blk (c := 1) Try.underlying36 rfl (by intro u hu; rw [List.mem_singleton.1 hu]; rfl) (show Blk _ w3.heap.size 2 [Value.int .i64 y].toArray from Blk.new_ rfl rfl))
          have HO4 := Lib.hid (HO3.out.alloc (.cells #[.int .i64 y] 2))
          have HB4 := Lib.hid (HB3.out.alloc HB3.out.size (.cells #[.int .i64 y] 2))
          have HM4 := Lib.hid (HM3.out.kept (World.grownBy_alloc w3 (.cells #[.int .i64 y] 2) none) (by simp) (by simp))
          have HK4 := Lib.hid (HK3.out.alloc (.cells #[.int .i64 y] 2))
          go_wp2_with (at_builtin; go_loud (refine wpList_append_src _ rfl _ _ 36 36 rfl (w.heap.size + 2) 2 i0 (.int .i64 0) 1 8 Try.underlying36 hi hz0 hz1 hz2 rfl (.slice A3 zs.length a3) zs.length _ rfl HO4.out _ 1 [.int .i64 y] rfl HN3.out ?c1 ?c2 ?c3 ?_))
          case c1 => unfold maxLen; omega
          case c2 => omega
          case c3 => first | omega | (simp; omega)
          intro v' w5 own' hg5 _
          have hne : ∀ j, (Value.slice A3 zs.length a3).ownBlock = some j → w.heap.size + 2 ≤ j := fun j hj => (HO4.out.lt j hj).1
          have HO5 := Lib.hid (show w5.ownsRow (w.heap.size + 2) 2 1 v' (zs ++ [y]).length (ic .i64 (zs ++ [y])) by rw [List.length_append]; simpa [ic] using own')
          have HB5 := Lib.hid (HB4.out.grown hg5 (by simp; omega) (fun j hj => by have := hne j hj; omega))
          have HM5 := Lib.hid (HM4.out.kept hg5 (fun e => by have := hne _ e.symm; omega) (fun e => by have := hne _ e.symm; omega))
          have HK5 := Lib.hid (show Blk w5 w.heap.size 40 #[.int .i64 t, .slice A n c] from (hg5.block _ HK4.out.lt (fun e => by have := hne _ e.symm; omega)).trans HK4.out)
          clear own' hg5 hne
          go_wp2
          go_roundw
          case rel => exact ⟨zs ++ [y], _, cnt1, HO5.out, HM5.out, HG2.out, by rw [List.length_append]; simp; omega, HK5.out, HB5.out⟩
          case measure => rw [HM5.out.left_eq, HLE.out]; exact hc1
  · have hT' : hasT L t = false := by simpa using hT
    simp only [hT', Bool.false_eq_true, if_false, Option.getD_none] at hl
    have HC := Lib.hid (cand_none (R := R) hT')
    have hrg := run_range_nilMap (P := Try.prog) D 64 2 40 Try.underlying64
    have hnx : ∀ ty, (Instr.next (.pointer (some ⟨D.heap.size, 0, none⟩)) false ty).run Try.prog (D.alloc (.mapIter none 0 #[] 0)) = _ := fun ty => run_next_nilMap _ ty 0 0 #[]
    have HB5 := Lib.hid (HBD.out.alloc (by omega) (.mapIter none 0 #[] 0))
    have HSO := Lib.hid (Sort_any (D.alloc (.mapIter none 0 #[] 0)) w.heap.size none 0 0 [] (World.ownsRow_nil _ _ _ _) (by omega))
    clear hT hT' H8 hsD hDs
    repeat still_step
    refine wpStill_nil ?_
    go_wp2
    refine wp_loop_rounds 1 ?_
    rw [rounds_succ]
    go_wp2_with fail
    refine HSO.out.mono ?_
    rintro e2 w2 ⟨rfl, ho2, hg2⟩
    have HO2 := Lib.hid ho2
    have HB2 := Lib.hid (HB5.out.grown hg2 HB5.out.size (fun j hj => by cases hj))
    clear ho2 hg2
    go_wp2
    go_ret
    refine ⟨_, _, _, rfl, ?_, HB2.out⟩
    rw [HC.out]
    have := HO2.out
    rw [show srt [] = [] by simp [srt]] at this
    exact this
end Go.Proofs.Ytgenpldldgplhaa
