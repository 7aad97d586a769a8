/- Normal integers, copies and opposites. -/
import Derived.Test.YtndkcimdbidgaaaDoorBof
import Derived.Test.YtndkcimdbidgaaaDoorBtp
import Derived.Test.YtndkcimdbidgaaaDoorMix
import Derived.Test.YtndkcimdbidgaaaDoorBsb
import Derived.Deep.Cut
import Derived.Deep.AppendSrc
namespace Go.Proofs.YtndkcimdbidgaaaDoor
open Go.ChangeShapes Go.WideShapes Go.ChangeAt Go.RowKit Go.ChangeMaps

theorem src_dg {w : World} {A : Option Addr} {n c : Nat} {D : List Nat} (h : DG w A n D) : Src Tryd.prog 1 22 (.slice A n c) n (dcl D) w := by
  by_cases h0 : n = 0
  · subst h0
    have hD : D = [] := List.eq_nil_of_length_eq_zero h.1
    subst hD
    cases A with
    | none => exact Src.ofNil _ Tryd.underlying22 c
    | some a => exact Src.ofSlice _ Tryd.underlying22 a 0 c [] rfl (fun j u hu => by simp at hu) (fun u hu => by cases hu)
  · obtain ⟨b, off, rfl, hl, hc⟩ := h.2.2 (by omega)
    refine Src.ofSlice _ Tryd.underlying22 _ n c (dcl D) (by rw [dcl_len, h.1]; omega) (fun j u hu => ?_) (dcl_one D)
    have hj : j < D.length := by
      have := (List.getElem?_eq_some_iff.1 hu).1
      rwa [dcl_len] at this
    have e : D[j]? = some D[j] := List.getElem?_eq_getElem hj
    have e2 := dcl_get e
    rw [hu] at e2
    injection e2 with e2
    subst e2
    rw [add_plain]
    exact hc j _ e
theorem own_row {w : World} {base n : Nat} {v : Value} {D : List Nat} (h : w.ownsRow base 47 1 v n (dcl D)) (hd : dok 4294967296 D) : ∃ A c, v = .slice A n c ∧ Own w base A n D ∧ Sl A n c := by
  have hl : D.length = n := by have := h.1; rw [dcl_len] at this; omega
  rcases h.2 with ⟨rfl, rfl⟩ | ⟨g, cap, cur, rfl, hg, hh, hn, hcap, hcs, ht⟩
  · exact ⟨none, 0, rfl, ⟨hl, hd, fun h => absurd h (Nat.lt_irrefl 0)⟩, Sl.nil⟩
  · refine ⟨_, _, rfl, ⟨hl, hd, fun _ => ⟨g, 0, cur, rfl, hg, hh, fun j d hj => ?_⟩⟩, Sl.own hn hcap⟩
    have e2 := dcl_get hj
    rw [← ht, List.getElem?_take] at e2
    split at e2
    · rw [Nat.zero_add]; simpa using e2
    · cases e2
set_option maxRecDepth 100000 in
set_option maxHeartbeats 4000000 in
theorem Normal_any (a : Value) (z : Int) (N : Nat) (w : World) (ha : BG w a z N) (hN : N ≤ 100000) : Calls Tryd.prog 19 #[a] w fun e w' => ∃ v, e = .returned v ∧ NB w' w.heap.size v z N ∧ Below w.heap.size w w' := by
  obtain ⟨na, A, n, c, D, rfl, hd, hs, hn, hz⟩ := ha
  obtain ⟨i0, hi, hz0, hz1, hz2⟩ := info_parts (show (Tryd.prog.info? 47).map (fun i => (i.zero, i.size, i.bytes)) = some (some (.int .u32 0), 1, 4) by kernel_rfl)
  obtain ⟨W0, hW0⟩ : ∃ W, W = (w.alloc (.cells #[.bool na, .slice A n c] 24)).alloc (.cells #[.bool false, .slice none 0 0] 24) := ⟨_, rfl⟩
  have HB := Lib.hid (show Below w.heap.size w W0 by rw [hW0]; exact ((Below.refl _ w).alloc (Nat.le_refl _) _).alloc (by simp) _)
  have K2 := Lib.hid (show Blk W0 w.heap.size 24 #[.bool na, .slice A n c] by rw [hW0]; exact (Blk.new _ _ _).alloc _)
  have K4 := Lib.hid (show Blk W0 (w.heap.size + 1) 24 #[.bool false, .slice none 0 0] by rw [hW0]; exact Blk.new_ (by simp) rfl)
  have HDG := Lib.hid hd
  have HL1 := hd.1
  have HZ := Lib.hid hz
  have HSL := Lib.hid hs
  have CT1 := Lib.hid (fun W (hW : Below W0.heap.size W0 W) => trim_any A n c D W ((hd.below HB.out).below hW) hs)
  clear hd hs hz
  have K2_0 : W0.cell? ⟨w.heap.size, 0, none⟩ = some (.bool na) := K2.out.cell 0
  have K2_1 : W0.cell? ⟨w.heap.size, 1, none⟩ = some (.slice A n c) := K2.out.cell 1
  go_enter Tryd.func19, Tryd.ntmps19
  go_upto_region 1 with fail
  rw [← hW0]
  clear hW0
  have hy0 : Below W0.heap.size W0 W0.drew := below_drew (Below.refl _ _)
  refine wp_region_mix 7 (fun w' => Below W0.heap.size W0 w') (by kernel_rfl) (by decide) ?_
  generalize W0.drew = y0 at hy0 ⊢
  refine wpM_take (i := 0) (oi := ⟨some 3, _, _, _, _, _⟩) (v := ?_) rfl (by decide +kernel) (by decide +kernel) (by decide +kernel) (fun _ _ _ h => h) (Or.inl ⟨by rfl, ?_⟩) hy0 ?_
  case refine_2 =>
    intro w' hSw
    have K2_0' := keepcell hSw K2_0
    have K2_1' := keepcell hSw K2_1
    go_simp
    try (with_reducible rfl)
  try simp only [Act.put, List.setIfInBounds_toArray, List.set_cons_zero, List.set_cons_succ]
  refine wpM_take (i := 1) (oi := ⟨some 4, _, _, _, _, _⟩) (v := ?_) rfl (by decide +kernel) (by decide +kernel) (by decide +kernel) (fun _ _ _ h => h) (Or.inl ⟨by rfl, ?_⟩) hy0 ?_
  case refine_2 =>
    intro w' hSw
    have K2_0' := keepcell hSw K2_0
    have K2_1' := keepcell hSw K2_1
    go_simp
    try (with_reducible rfl)
  try simp only [Act.put, List.setIfInBounds_toArray, List.set_cons_zero, List.set_cons_succ]
  refine wpM_take (i := 2) (oi := ⟨some 5, _, _, _, _, _⟩) (v := ?_) rfl (by decide +kernel) (by decide +kernel) (by decide +kernel) (fun _ _ _ h => h) (Or.inl ⟨by rfl, ?_⟩) hy0 ?_
  case refine_2 =>
    intro w' hSw
    have K2_0' := keepcell hSw K2_0
    have K2_1' := keepcell hSw K2_1
    go_simp
    try (with_reducible rfl)
  try simp only [Act.put, List.setIfInBounds_toArray, List.set_cons_zero, List.set_cons_succ]
  refine wpM_take (i := 3) (oi := ⟨some 6, _, _, _, _, _⟩) (v := ?_) rfl (by decide +kernel) (by decide +kernel) (by decide +kernel) (fun _ _ _ h => h) (Or.inl ⟨by rfl, ?_⟩) hy0 ?_
  case refine_2 =>
    intro w' hSw
    have K2_0' := keepcell hSw K2_0
    have K2_1' := keepcell hSw K2_1
    go_simp
    try (with_reducible rfl)
  try simp only [Act.put, List.setIfInBounds_toArray, List.set_cons_zero, List.set_cons_succ]
  refine wpM_step (i := 4) (o := ⟨some 7, _, _, _, _, _⟩) rfl (by decide +kernel) (by decide) (fun K hK => ?_)
  go_simp
  refine (CT1.out y0 hy0).mono ?_
  rintro e y_ ⟨k1, rfl, ht1, hy⟩
  replace hy := hy.symm
  subst hy
  have HT1 := Lib.hid ht1
  clear ht1
  refine hK.out _ _ hy0 ?_
  clear hK K
  try simp only [Act.put, List.setIfInBounds_toArray, List.set_cons_zero, List.set_cons_succ]
  have HD1 := Lib.hid (HDG.out.take (show k1 ≤ n by have := HT1.out.1; omega))
  have hk1 : k1 ≤ N := by have := HT1.out.1; omega
  refine wpM_step (i := 5) (o := ⟨some 8, _, _, _, _, _⟩) rfl (by decide +kernel) (by decide) (fun K hK => ?_)
  refine ite_pos (by rfl) ?_
  refine wp_append_src y0 _ _ 22 22 rfl y0.heap.size 47 i0 _ 1 4 Tryd.underlying22 hi hz0 hz1 hz2 rfl (.slice none 0 0) 0 [] rfl (World.ownsRow_nil _ _ _ _) _ k1 (dcl (D.take k1)) rfl (src_dg ((HD1.out.below HB.out).below hy0)) (by unfold maxLen; omega) (by omega) (Nat.le_refl _) ?_
  intro v1 y1 ho hg hm
  rw [List.nil_append, Nat.zero_add] at ho
  have hc : Below y0.heap.size y0 y1 := (Below.refl _ _).grown hg (Nat.le_refl _) (fun k hk => by simp [Value.ownBlock] at hk)
  have hy1 : Below W0.heap.size W0 y1 := hy0.trans (hc.mono hy0.size)
  obtain ⟨A1, c1, rfl, HO1, HS1⟩ := own_row ho HD1.out.2.1
  replace HO1 := Lib.hid (HO1.mono (show w.heap.size ≤ y0.heap.size by have h1 := HB.out.size; have h2 := hy0.size; omega))
  replace HS1 := Lib.hid HS1
  clear ho hg hm hc
  refine hK.out _ _ hy1 ?_
  clear hK K
  try simp only [Act.put, List.setIfInBounds_toArray, List.set_cons_zero, List.set_cons_succ]
  refine wpM_step (i := 6) (o := ⟨some 9, _, _, _, _, _⟩) rfl (by decide +kernel) (by decide) (fun K hK => ?_)
  go_simp
  refine (signed_any na A1 k1 c1 (D.take k1) w.heap.size y1 HO1.out HS1.out).mono ?_
  rintro e y2 ⟨v, rfl, hnb, hc⟩
  have hy2 : Below W0.heap.size W0 y2 := hy1.trans (hc.mono hy1.size)
  have HV := Lib.hid (hnb.mono (Nat.le_refl _) hk1)
  clear hc
  refine hK.out _ _ hy2 ?_
  clear hK K
  try simp only [Act.put, List.setIfInBounds_toArray, List.set_cons_zero, List.set_cons_succ]
  refine wpM_done (by decide +kernel) ?_
  simp only [List.drop_succ_cons, List.drop_zero]
  have HZ' := Lib.hid (show sgn na (dv 4294967296 (D.take k1)) = z by rw [HT1.out.dv]; exact HZ.out.symm)
  rw [HZ'.out] at HV
  have HB9 := Lib.hid (HB.out.trans (hy2.mono HB.out.size))
  have K9 := Lib.hid (K4.out.below hy2)
  obtain ⟨Ar, nr, cr, Dr, hevr, hor, hsr, hnr, hvr, hNr⟩ := HV.out
  obtain ⟨sbr, hsbr⟩ : ∃ b, b = decide (z < 0) := ⟨_, rfl⟩
  rw [← hsbr] at hevr
  subst hevr
  have HSBr := Lib.hid hsbr
  clear hsbr
  go_wp2_with ((refine wpList_store_row (o := ⟨none, _, _, _, _, _⟩) rfl 24 _ _ rfl (w.heap.size + 1) #[.bool sbr, .slice Ar nr cr] rfl rfl 24 _ K9.out (by kernel_rfl) rfl (by simp [Value.oneCell']) ?_))
  refine bodyPost_ret (results_c1 rfl _ _ _ (w.heap.size + 1) _ rfl (load24 (K9.out.setRow (ds := #[.bool sbr, .slice Ar nr cr])) rfl)) rfl ?_
  exact ⟨_, rfl, NB.row ⟨Ar, nr, cr, Dr, by rw [HSBr.out], hor, hsr, hnr, hvr, hNr⟩ K9.out _, HB9.out.grown (grown_row y2 (w.heap.size + 1) _) HB9.out.size (fun j hj => by first | (injection hj with hj; omega) | omega | (cases hj; exact Nat.le_refl _))⟩
set_option maxRecDepth 100000 in
set_option maxHeartbeats 4000000 in
theorem Neg_any (a : Value) (z : Int) (N : Nat) (w : World) (ha : BG w a z N) (hN : N ≤ 100000) : Calls Tryd.prog 23 #[a] w fun e w' => ∃ v, e = .returned v ∧ NB w' w.heap.size v (-z) N ∧ Below w.heap.size w w' := by
  obtain ⟨na, A, n, c, D, rfl, hd, hs, hn, hz⟩ := ha
  obtain ⟨i0, hi, hz0, hz1, hz2⟩ := info_parts (show (Tryd.prog.info? 47).map (fun i => (i.zero, i.size, i.bytes)) = some (some (.int .u32 0), 1, 4) by kernel_rfl)
  obtain ⟨W0, hW0⟩ : ∃ W, W = (w.alloc (.cells #[.bool (!na), .slice A n c] 24)).alloc (.cells #[.bool false, .slice none 0 0] 24) := ⟨_, rfl⟩
  have HB := Lib.hid (show Below w.heap.size w W0 by rw [hW0]; exact ((Below.refl _ w).alloc (Nat.le_refl _) _).alloc (by simp) _)
  have K2 := Lib.hid (show Blk W0 w.heap.size 24 #[.bool (!na), .slice A n c] by rw [hW0]; exact (Blk.new _ _ _).alloc _)
  have K4 := Lib.hid (show Blk W0 (w.heap.size + 1) 24 #[.bool false, .slice none 0 0] by rw [hW0]; exact Blk.new_ (by simp) rfl)
  have HDG := Lib.hid hd
  have HL1 := hd.1
  have HZ := Lib.hid hz
  have HSL := Lib.hid hs
  have CC := Lib.hid (Normal_any (.agg #[.bool (!na), .slice A n c]) (-z) N W0 ⟨_, _, _, _, D, rfl, hd.below HB.out, hs, hn, by rw [sgn_not, ← hz]⟩ hN)
  clear hd hs hz
  go_enter Tryd.func23, Tryd.ntmps23
  go_wp2_with fail
  rw [← hW0]
  refine CC.out.mono ?_
  rintro e w2 ⟨v, rfl, hv, hb⟩
  have HV := Lib.hid (hv.mono HB.out.size (Nat.le_refl _))
  have HB9 := Lib.hid (HB.out.trans (hb.mono HB.out.size))
  have K9 := Lib.hid (K4.out.below hb)
  clear hb hv hW0
  obtain ⟨Ar, nr, cr, Dr, hevr, hor, hsr, hnr, hvr, hNr⟩ := HV.out
  obtain ⟨sbr, hsbr⟩ : ∃ b, b = decide ((-z) < 0) := ⟨_, rfl⟩
  rw [← hsbr] at hevr
  subst hevr
  have HSBr := Lib.hid hsbr
  clear hsbr
  go_wp2_with ((refine wpList_store_row (o := ⟨none, _, _, _, _, _⟩) rfl 24 _ _ rfl (w.heap.size + 1) #[.bool sbr, .slice Ar nr cr] rfl rfl 24 _ K9.out (by kernel_rfl) rfl (by simp [Value.oneCell']) ?_))
  refine bodyPost_ret (results_c1 rfl _ _ _ (w.heap.size + 1) _ rfl (load24 (K9.out.setRow (ds := #[.bool sbr, .slice Ar nr cr])) rfl)) rfl ?_
  exact ⟨_, rfl, NB.row ⟨Ar, nr, cr, Dr, by rw [HSBr.out], hor, hsr, hnr, hvr, hNr⟩ K9.out _, HB9.out.grown (grown_row w2 (w.heap.size + 1) _) HB9.out.size (fun j hj => by first | (injection hj with hj; omega) | omega | (cases hj; exact Nat.le_refl _))⟩
end Go.Proofs.YtndkcimdbidgaaaDoor
