/- The union of intervals: Of. -/
import Derived.Test.YtnoddkbpdfimmaaIvr
import Derived.Test.YtnoddkbpdfimmaaIvs
import Derived.Test.YtnoddkbpdfimmaaOne
namespace Go.Proofs.Ytnoddkbpdfimmaa
open Go.ChangeShapes Go.WideShapes Go.ChangeAt Go.RowKit Go.ChangeMaps

set_option maxRecDepth 100000 in
set_option maxHeartbeats 4000000 in
theorem Of_any (A : Option Addr) (n c : Nat) (R : List Iv) (w : World) (h : Ivs w A n R) (hn : n ≤ 100000) (hok : ∀ x ∈ R, x.ok) : Calls Try.prog 15 #[.slice A n c] w fun e w' => ∃ v, e = .returned v ∧ ∃ T, T.Perm R ∧ T.Pairwise (fun x y => x.lo ≤ y.lo) ∧ OR 39 w' w.heap.size v (ofM T) ∧ Below w.heap.size w w' := by
  obtain ⟨i0, hi, hz0, hz1, hz2⟩ := info_parts Try.info39
  have CL := Lib.hid (Clone_any A n c R w h hn)
  have HL := Lib.hid h.len
  have HK := Lib.hid hok
  have CE := Lib.hid (fun (x : Iv) W => empty_any x W)
  have CA := Lib.hid (fun (x y : Iv) W (hx : x.ok) => apart_any x y W hx)
  clear h hok
  go_enter Try.func15, Try.ntmps15
  go_wp2_with fail
  refine CL.out.mono ?_
  rintro e w1 ⟨v, rfl, ho, hb⟩
  have HB1 := Lib.hid hb
  have CS := Lib.hid (Sort_any v w.heap.size R w1 ho (by rw [HL.out]; exact hn) hb.size)
  clear ho hb CL
  go_wp2_with fail
  refine CS.out.mono ?_
  rintro e w2 ⟨rfl, T, hp, hs, ho, hb⟩
  have HB2 := Lib.hid (HB1.out.trans hb)
  have HP := Lib.hid hp
  have HS := Lib.hid hs
  have HTL := Lib.hid (show T.length = n by rw [hp.length_eq]; exact HL.out)
  have HTK := Lib.hid (fun x hx => HK.out x ((HP.out.mem_iff (a := x)).1 hx))
  obtain ⟨A3, c3, e3, hi3, -, -⟩ := ho.ivs
  clear CS
  subst e3
  rw [HTL.out] at hi3 ⊢
  have HA := Lib.hid hi3.at
  clear hp hs ho hb hi3
  go_wp2
  go_loopw [4, 14] (fun s4 s14 wr => ∃ (k : Nat) (acc : List Iv), acc = ofM (T.take k) ∧ s14 = .int .i64 (k : Int) ∧ k ≤ n ∧ True ∧ OR 39 wr w2.heap.size s4 acc ∧ Below w2.heap.size w2 wr ∧ (∀ y ∈ acc, y.ok) ∧ acc.length ≤ k) (fun _ s14 _ => n - (intOf s14).toNat)
  case atStart => exact ⟨0, [], by simp [ofM], rfl, Nat.zero_le _, trivial, World.ownsRow_nil _ _ _ _, Below.refl _ _, by simp, Nat.zero_le _⟩
  case round =>
    obtain ⟨k, acc, hacc, rfl, hkn, -, hO, hB, hok, hal⟩ := hrel
    have HO := Lib.hid hO
    have HB := Lib.hid hB
    have HOK := Lib.hid hok
    have HAC := Lib.hid hacc
    have hs4 := hO.ivs
    clear hO hB hok hacc
    obtain ⟨A4, c4, rfl, -, hcc, -⟩ := hs4
    obtain ⟨m, hm⟩ : ∃ m, acc.length = m := ⟨_, rfl⟩
    rw [hm] at hal HO ⊢
    have HM := Lib.hid hm
    clear hm hcc
    by_cases hlt : k < n
    · have hki : (k : Int) < n := by omega
      have hk0 : (0 : Int) ≤ (k : Int) := by omega
      obtain ⟨b, off, rfl, hbl, hc⟩ := HA.out (by omega)
      have hi' : k < T.length := by rw [HTL.out]; exact hlt
      obtain ⟨c0, c1⟩ := hc wr HB.out k hi'
      have HT := Lib.hid (of_take T k hi')
      have HX := Lib.hid (HTK.out _ (List.getElem_mem hi'))
      clear hc hbl
      rw [← HAC.out] at HT
      generalize T[k] = x at *
      have HOK2 := Lib.hid (ofStep_ok HOK.out HX.out)
      have HLN := Lib.hid (ofStep_len acc x)
      obtain ⟨x0, x1⟩ := x
      simp only at c0 c1
      go_wp2_with fail
      refine (CE.out ⟨x0, x1⟩ _).mono ?_
      rintro e w3 ⟨rfl, hb⟩
      have HC6 : Hid (Blk w3 wr.heap.size 39 #[.int .i64 x0, .int .i64 x1]) := Lib.hid (Blk.below hb (Blk.new _ _ _))
      have hb3 : Below wr.heap.size wr w3 := ((Below.refl _ wr).alloc (Nat.le_refl _) _).trans (hb.mono (by simp))
      have HA3 := Lib.hid (HO.out.below hb3)
      have HB3 := Lib.hid (HB.out.trans (hb3.mono HB.out.size))
      clear hb hb3 c0 c1
      cases hE : Iv.emp ⟨x0, x1⟩
      · have h0 : (0 : Int) ≤ (m : Int) := by omega
        rcases m with _ | p
        · have HE1 := Lib.hid (show ofM (T.take (k + 1)) = acc ++ [⟨x0, x1⟩] by rw [HT.out]; unfold ofStep; rw [hE, if_neg (by simp), if_pos HM.out])
          have HE2 := Lib.hid (show ofStep acc ⟨x0, x1⟩ = acc ++ [⟨x0, x1⟩] by rw [← HT.out]; exact HE1.out)
          have HA4 := Lib.hid (show OR 39 w3.drew w2.heap.size (.slice A4 0 c4) acc from HA3.out.below (below_drew (Below.refl _ _)))
          have HB4 := Lib.hid (show Below w2.heap.size w2 w3.drew from ⟨HB3.out.os, HB3.out.tape, HB3.out.output, HB3.out.size, HB3.out.block⟩)
          have HC4 := Lib.hid (show Blk w3.drew wr.heap.size 39 #[.int .i64 x0, .int .i64 x1] from HC6.out)
          go_upto_region 10 with fail
          go_region
          have HO8 := Lib.hid (show w3.drew.ownsRow w2.heap.size 39 2 (.slice A4 0 c4) 0 (acc.flatMap Iv.cells) by have := HA4.out; unfold OR at this; rwa [HM.out] at this)
          obtain ⟨W3, hW3⟩ : ∃ W3, W3 = w3.drew.alloc (.cells #[.int .i64 x0, .int .i64 x1] 39) := ⟨_, rfl⟩
          have HO9 := Lib.hid (show W3.ownsRow w2.heap.size 39 2 (.slice A4 0 c4) 0 (acc.flatMap Iv.cells) by rw [hW3]; exact HO8.out.alloc _)
          have HB9 := Lib.hid (show Below w2.heap.size w2 W3 by rw [hW3]; exact HB4.out.alloc HB4.out.size _)
          have HN9 : Hid (Src Try.prog 2 28 (.slice (some ⟨w3.drew.heap.size, 0, none⟩) 1 1) 1 (Iv.cells ⟨x0, x1⟩) W3) := Lib.hid (src_blk (c := 1) Try.underlying28 rfl (iv_one _) (show Blk W3 w3.drew.heap.size 39 (Iv.cells ⟨x0, x1⟩).toArray by rw [hW3]; exact Blk.new_ rfl rfl))
          have HS9 := Lib.hid HB9.out.size
          have c6a := HC4.out.cell 0
          have c6b := HC4.out.cell 1
          simp at c6a c6b
          subst hW3
          go_wp2_with (at_builtin; go_loud (refine wpList_append_src _ rfl _ _ 28 28 rfl w2.heap.size 39 i0 _ 2 16 Try.underlying28 hi hz0 hz1 hz2 rfl _ 0 _ rfl HO9.out _ 1 (Iv.cells ⟨x0, x1⟩) rfl HN9.out ?c1 ?c2 HS9.out ?_))
          case c1 => unfold maxLen; omega
          case c2 => omega
          intro v' w5 own' hg _
          have HBn := Lib.hid (HB9.out.grown hg HS9.out (fun j hj => (HO9.out.lt j hj).1))
          have HOn := Lib.hid (show OR 39 w5 w2.heap.size v' (acc ++ [⟨x0, x1⟩]) by unfold OR; rw [List.length_append, HM.out, List.flatMap_append]; simpa using own')
          clear own' hg HO8 HO9 HB9 HN9 HS9
          go_wp2
          go_roundw
          case rel => exact ⟨k + 1, acc ++ [⟨x0, x1⟩], (HT.out.trans HE2.out).symm, by go_num, hlt, trivial, HOn.out, HBn.out, by rw [← HE2.out]; exact HOK2.out, by rw [List.length_append, HM.out]; first | (simp; done) | (simp; omega)⟩
          case measure => simp only [intOf]; omega
        · obtain ⟨g, cap, eg, hg, hgl, hcl, hst⟩ := HA3.out.last HM.out
          injection eg with eg1 _ eg3
          subst eg1
          subst eg3
          have HLo := Lib.hid (HOK.out _ (getD_mem (R := acc) (p := p) (by rw [HM.out]; exact Nat.lt_succ_self p)))
          have HE2 := Lib.hid (show ofStep acc ⟨x0, x1⟩ = if (acc.getD p ⟨0, 0⟩).apt ⟨x0, x1⟩ then acc ++ [⟨x0, x1⟩] else acc.set p ⟨(acc.getD p ⟨0, 0⟩).lo, max (acc.getD p ⟨0, 0⟩).hi x1⟩ by unfold ofStep; rw [hE, if_neg (by simp), if_neg (by rw [HM.out]; simp), HM.out]; rfl)
          generalize acc.getD p ⟨0, 0⟩ = l at *
          obtain ⟨l0, l1⟩ := l
          have HCL := Lib.hid hcl
          have HST := Lib.hid hst
          have HGL := Lib.hid hgl
          clear hcl hst hgl
          obtain ⟨ap, hap⟩ : ∃ ap, Iv.apt ⟨l0, l1⟩ ⟨x0, x1⟩ = ap := ⟨_, rfl⟩
          have HAP := Lib.hid hap
          rw [hap] at HE2
          clear hap
          obtain ⟨cl0, cl1, clf⟩ := HCL.out w3 (Below.refl _ _)
          have c6a := HC6.out.cell 0
          have c6b := HC6.out.cell 1
          simp at c6a c6b cl0 cl1
          go_upto_region 10 with fail
          have q0 : ∀ d os, (Go.Sort.grow (redrawn w3 d) os).cell? ⟨g, p * 2, none⟩ = some (.int .i64 l0) := fun d os => cell_regrown cl0 d os
          have q1 : ∀ d os, (Go.Sort.grow (redrawn w3 d) os).cell? ⟨g, p * 2 + 1, none⟩ = some (.int .i64 l1) := fun d os => cell_regrown cl1 d os
          have q2 : ∀ d os, (Go.Sort.grow (redrawn w3 d) os).cell? ⟨wr.heap.size, 0, none⟩ = some (.int .i64 x0) := fun d os => cell_regrown c6a d os
          have q3 : ∀ d os, (Go.Sort.grow (redrawn w3 d) os).cell? ⟨wr.heap.size, 1, none⟩ = some (.int .i64 x1) := fun d os => cell_regrown c6b d os
          refine wp_region_one_below 9 (fun v w' => v = .bool ap ∧ Below w3.heap.size w3 w') (by kernel_rfl) (by kernel_rfl) (by kernel_rfl) (by kernel_rfl) (fun _ _ h => h.2) ?_
          refine ⟨_, _, rfl, ?_⟩
          simp only [List.take_succ_cons, List.take_zero]
          repeat (first | go_big_quiet_step (fail) | quiet_step (fail))
          refine wpQuiet_nil ⟨?_, ?_⟩
          · refine ⟨by first | rfl | simp [Region.wanted, yielded], ?_⟩
            go_simp
            refine ⟨_, _, ⟨rfl, rfl⟩, ?_⟩
            refine (CA.out ⟨l0, l1⟩ ⟨x0, x1⟩ _ HLo.out).mono ?_
            rintro e w6 ⟨rfl, hb⟩
            rw [HAP.out]
            exact ⟨_, rfl, rfl, (⟨hb.os, hb.tape, hb.output, hb.size, hb.block⟩ : Below w3.heap.size w3 _)⟩
          · rintro v6 w6 ⟨rfl, hb6⟩
            repeat (first | go_big_quiet_step (fail) | quiet_step (fail))
            refine wpQuiet_nil ?_
            have HB6 := Lib.hid hb6
            clear hb6 cl0 cl1 clf c6a c6b q0 q1 q2 q3
            have HA7 := Lib.hid (HA3.out.below HB6.out)
            have HB7 := Lib.hid (HB3.out.trans (HB6.out.mono HB3.out.size))
            have HC7 := Lib.hid (Blk.below HB6.out HC6.out)
            cases ap
            · obtain ⟨cl0, cl1, clf⟩ := HCL.out w6 HB6.out
              have c6a := HC7.out.cell 0
              have c6b := HC7.out.cell 1
              simp at c6a c6b cl0 cl1
              go_upto_region 11 with fail
              go_region
              obtain ⟨h1, h2⟩ := HST.out w6 (max l1 x1) HB6.out
              have HE3 := Lib.hid (HE2.out.trans (if_neg (by simp)))
              have HO9 := Lib.hid h1
              have HB9 := Lib.hid (h2 _ _ HB7.out (Nat.le_refl _))
              clear h1 h2
              go_wp2
              go_roundw
              case rel => exact ⟨k + 1, acc.set p ⟨l0, max l1 x1⟩, (HT.out.trans HE3.out).symm, by go_num, hlt, trivial, HO9.out, ⟨HB9.out.os, HB9.out.tape, HB9.out.output, HB9.out.size, HB9.out.block⟩, by rw [← HE3.out]; exact HOK2.out, by rw [List.length_set, HM.out]; omega⟩
              case measure => simp only [intOf]; omega
            · have HE3 := Lib.hid (HE2.out.trans (if_pos rfl))
              have HO8 := Lib.hid (show w6.ownsRow w2.heap.size 39 2 (.slice (some ⟨g, 0, none⟩) (p + 1) c4) (p + 1) (acc.flatMap Iv.cells) by have := HA7.out; unfold OR at this; rwa [HM.out] at this)
              obtain ⟨W3, hW3⟩ : ∃ W3, W3 = w6.alloc (.cells #[.int .i64 x0, .int .i64 x1] 39) := ⟨_, rfl⟩
              have HO9 := Lib.hid (show W3.ownsRow w2.heap.size 39 2 (.slice (some ⟨g, 0, none⟩) (p + 1) c4) (p + 1) (acc.flatMap Iv.cells) by rw [hW3]; exact HO8.out.alloc _)
              have HB9 := Lib.hid (show Below w2.heap.size w2 W3 by rw [hW3]; exact HB7.out.alloc HB7.out.size _)
              have HN9 : Hid (Src Try.prog 2 28 (.slice (some ⟨w6.heap.size, 0, none⟩) 1 1) 1 (Iv.cells ⟨x0, x1⟩) W3) := Lib.hid (src_blk (c := 1) Try.underlying28 rfl (iv_one _) (show Blk W3 w6.heap.size 39 (Iv.cells ⟨x0, x1⟩).toArray by rw [hW3]; exact Blk.new_ rfl rfl))
              have HS9 := Lib.hid HB9.out.size
              have c6a := HC7.out.cell 0
              have c6b := HC7.out.cell 1
              simp at c6a c6b
              subst hW3
              go_wp2_with (at_builtin; go_loud (refine wpList_append_src _ rfl _ _ 28 28 rfl w2.heap.size 39 i0 _ 2 16 Try.underlying28 hi hz0 hz1 hz2 rfl _ (p + 1) _ rfl HO9.out _ 1 (Iv.cells ⟨x0, x1⟩) rfl HN9.out ?c1 ?c2 HS9.out ?_))
              case c1 => unfold maxLen; omega
              case c2 => omega
              intro v' w5 own' hg _
              have HBn := Lib.hid (HB9.out.grown hg HS9.out (fun j hj => (HO9.out.lt j hj).1))
              have HOn := Lib.hid (show OR 39 w5 w2.heap.size v' (acc ++ [⟨x0, x1⟩]) by unfold OR; rw [List.length_append, HM.out, List.flatMap_append]; simpa using own')
              clear own' hg HO8 HO9 HB9 HN9 HS9
              go_wp2
              go_roundw
              case rel => exact ⟨k + 1, acc ++ [⟨x0, x1⟩], (HT.out.trans HE3.out).symm, by go_num, hlt, trivial, HOn.out, HBn.out, by rw [← HE3.out]; exact HOK2.out, by rw [List.length_append, HM.out]; first | (simp; done) | (simp; omega)⟩
              case measure => simp only [intOf]; omega
      · have HE2 := Lib.hid (show ofStep acc ⟨x0, x1⟩ = acc by unfold ofStep; rw [hE, if_pos rfl])
        have HE1 := Lib.hid (show ofM (T.take (k + 1)) = acc by rw [HT.out, HE2.out])
        have HA4 := HA3
        go_wp2
        go_roundw
        case rel => exact ⟨k + 1, acc, HE1.out.symm, by go_num, hlt, trivial, HA3.out, HB3.out, HOK.out, Nat.le_succ_of_le (by rw [HM.out]; exact hal)⟩
        case measure => simp only [intOf]; omega
    · obtain rfl : k = n := by omega
      have HF := Lib.hid (show acc = ofM T by rw [HAC.out, List.take_of_length_le (by rw [HTL.out]; exact Nat.le_refl _)])
      have hlt2 : ¬ ((k : Int) < (k : Int)) := by omega
      go_wp2
      go_ret
      have h := HO.out
      rw [HF.out] at h
      have h2 := h.mono HB2.out.size
      rw [← HF.out] at h2
      refine ⟨_, rfl, T, HP.out, HS.out, ?_, HB2.out.trans (HB.out.mono HB2.out.size)⟩
      rw [← HF.out]
      exact h2
end Go.Proofs.Ytnoddkbpdfimmaa
