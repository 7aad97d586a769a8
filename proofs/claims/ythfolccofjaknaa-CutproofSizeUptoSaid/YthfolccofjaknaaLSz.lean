/- Law CutproofSize, where the arguments are of bulk at most 1048576: for every such input the call returns true, and its arguments read afterwards as before. -/
import Derived.Test.YthfolccofjaknaaCop
import Derived.Test.YthfolccofjaknaaCs3
import Derived.Test.YthfolccofjaknaaCrz
import Derived.Test.YthfolccofjaknaaBrz
import Derived.Test.YthfolccofjaknaaCup
namespace Go.Proofs.Ythfolccofjaknaa
open Go.ChangeShapes Go.WideShapes Go.ChangeAt Go.RowKit Go.ChangeMaps

open Go.Deep Go.WideElems in
set_option maxRecDepth 100000 in
/-- The digits of uses are no more than their bulk. -/
theorem uses_bulk {H : Type} {enc : TypeId × Value → H} {W : World} {A : Option Addr} {n c N : Nat} {U : List Us} {d : DataW H} {p : List MemPlace} (hU : Uses W A n U N) (h : DataW.Trod enc Try.prog W 0 (fun _ => true) true 34 (.slice A n c) d p) : ∀ u ∈ U, u.b.n ≤ Rows.uptoBulk d := by
  obtain ⟨fuel, hf⟩ := h
  have hf' : DataW.trod enc Try.prog W 0 (fun _ => true) true fuel 34 [.slice A n c] = some (d, p) := hf
  have hlU := hU.len
  intro u hu
  obtain ⟨i, hi, rfl⟩ := List.mem_iff_getElem.1 hu
  rcases DataW.trod_slice Try.underlying34 hf' with ⟨hcs, _⟩ | ⟨a, len, cap, elems, rest, m, hm, hcs, hy5, _, hl, _, hel, hgi, _, _⟩
  · injection hcs with hcs
    injection hcs with _ e _
    omega
  · injection hcs with hcs
    injection hcs with e1 e2 e3
    have hil : i < elems.length := by omega
    have g := hgi i (by omega)
    rw [List.getElem?_eq_getElem hil] at g
    obtain ⟨cs', hc, ht'⟩ := Option.bind_eq_some_iff.1 g
    obtain ⟨_, hcl, hat⟩ := World.cells?_some hc
    rw [Try.cells62] at hcl hat
    obtain ⟨bk, off, eA, _, hcell⟩ := at3 (fun _ => rfl) hU.1 (by omega)
    rw [eA] at e1
    injection e1 with e1
    subst e1
    obtain ⟨c0, c1, c2⟩ := hcell W (Below.refl _ _) i hi _ _ _ rfl
    have hcs' : cs' = U[i].cells := by
      have k : ∀ j, j < 3 → cs'[j]? = W.cell? ⟨bk, off + i * 3 + j, none⟩ := fun j hj => by
        rw [← hat j hj]
        simp only [add_plain]
      match cs', hcl, k with
      | [u0, u1, u2], _, k =>
        have k0 := k 0 (by decide)
        have k1 := k 1 (by decide)
        have k2 := k 2 (by decide)
        simp only [Nat.add_zero, c0, c1, c2, List.getElem?_cons_zero, List.getElem?_cons_succ, Option.some.injEq] at k0 k1 k2
        subst k0 k1 k2
        rfl
    rw [hcs'] at ht'
    obtain ⟨ys, n1, hn1, hy, hlen, hyl, hg⟩ := DataW.trod_struct Try.underlying62 ht'
    have hys : ys.length = 2 := by rw [hyl]; rfl
    have t1 : DataW.trod enc Try.prog W 0 (fun _ => true) true n1 37 [.bool U[i].b.neg, .slice U[i].b.A U[i].b.n U[i].b.c] = some (ys[1]'(by omega)) := by
      rw [← List.getElem?_eq_getElem (show 1 < ys.length by omega), ← hg 1 _ rfl]
      congr 1
    obtain ⟨zs, n2, hn2, hz, hzlen, hzl, hg2⟩ := DataW.trod_struct Try.underlying37 t1
    have hzs : zs.length = 2 := by rw [hzl]; rfl
    have t2 : DataW.trod enc Try.prog W 0 (fun _ => true) true n2 35 [.slice U[i].b.A U[i].b.n U[i].b.c] = some (zs[1]'(by omega)) := by
      rw [← List.getElem?_eq_getElem (show 1 < zs.length by omega), ← hg2 1 _ rfl]
      congr 1
    have b0 := slice_bulk Try.underlying35 t2
    have b1 : Rows.uptoBulk (zs[1]'(by omega)).1 ≤ Rows.uptoBulk (ys[1]'(by omega)).1 := by
      rw [hz]
      simp only [Rows.uptoBulk]
      exact Nat.le_succ_of_le (bulk_part (List.mem_map.2 ⟨_, List.getElem_mem _, rfl⟩))
    have b2 : Rows.uptoBulk (ys[1]'(by omega)).1 ≤ Rows.uptoBulk elems[i].1 := by
      rw [hy]
      simp only [Rows.uptoBulk]
      exact Nat.le_succ_of_le (bulk_part (List.mem_map.2 ⟨_, List.getElem_mem _, rfl⟩))
    have b3 : Rows.uptoBulk elems[i].1 ≤ Rows.uptoBulkAll (elems.map (·.1)) := bulk_part (List.mem_map.2 ⟨_, List.getElem_mem _, rfl⟩)
    have b4 : d = .slice (elems.map (·.1)) (rest.map (·.1)) := congrArg Prod.fst hy5
    rw [b4]
    simp only [Rows.uptoBulk]
    omega
theorem cmp_self (z : Int) : cmpZ z z = 0 := by unfold cmpZ; rw [if_neg (by omega), if_neg (by omega)]
set_option maxRecDepth 100000 in
set_option maxHeartbeats 4000000 in
theorem cutproofSize_walk (p : Pf) (A : Option Addr) (n c : Nat) (U : List Us) (w : World) (kP : PfR w NM p) (kU : Uses w A n U NM) (hbk : pfN p ≤ 1048576) (hdg : ∀ u ∈ U, u.b.n ≤ 1048576) :
    Calls Try.prog 7 #[p.val, .slice A n c] w fun e w' => e = .returned (.bool true) ∧ Below w.heap.size w w' := by
  obtain ⟨x0, x1, x2, x3, x4, hx⟩ : ∃ x0 x1 x2 x3 x4, p.cells = [x0, x1, x2, x3, x4] := by cases p; exact ⟨_, _, _, _, _, rfl⟩
  have hv : p.val = .agg #[x0, x1, x2, x3, x4] := by unfold Pf.val; rw [hx]
  have HV := Lib.hid hv
  have HP := Lib.hid kP
  have HBK := Lib.hid hbk
  have HUS := Lib.hid (show Uses w A n U 1048576 from ⟨kU.1, kU.2.1, fun u hu => by
    obtain ⟨neg, A', n', c', D, e, h1, h2, h3, h4⟩ := kU.2.2 u hu
    have hn := hdg u hu
    unfold Bg.val at e
    injection e with e
    injection e with e
    simp only [List.cons.injEq, Value.bool.injEq, Value.slice.injEq, and_true] at e
    obtain ⟨rfl, rfl, rfl, rfl⟩ := e
    exact ⟨_, _, _, _, D, rfl, h1, h2, hn, h4⟩⟩)
  have HUL := Lib.hid kU.len
  have hn63 : n ≤ 9223372036854775807 := kU.2.1
  rw [hv]
  clear kP hbk hx hv kU hdg
  obtain ⟨kx, hkx⟩ : ∃ kx, kx = w.heap.size := ⟨_, rfl⟩
  obtain ⟨W1, hW1⟩ : ∃ W1, W1 = w.alloc (.cells #[x0, x1, x2, x3, x4] 52) := ⟨_, rfl⟩
  have HB1 := Lib.hid (show Below w.heap.size w W1 by rw [hW1]; exact (Below.refl _ _).alloc (Nat.le_refl _) _)
  have KX := Lib.hid (show Blk W1 kx 52 #[x0, x1, x2, x3, x4] by rw [hW1]; exact Blk.new_ hkx rfl)
  go_enter Try.func7, Try.ntmps7
  go_wp2_with fail
  rw [← hkx, ← hW1]
  clear hkx hW1
  refine (awake_any W1).mono ?_
  rintro e2 w2 ⟨rfl, hb2⟩
  have HB2 := Lib.hid (HB1.out.trans (hb2.mono HB1.out.size))
  have KX2 := Lib.hid (KX.out.below hb2)
  clear hb2 HB1 KX
  have c0 : w2.cell? ⟨kx, 0, none⟩ = some x0 := KX2.out.cell 0
  have c1 : w2.cell? ⟨kx, 1, none⟩ = some x1 := KX2.out.cell 1
  have c2 : w2.cell? ⟨kx, 2, none⟩ = some x2 := KX2.out.cell 2
  have c3 : w2.cell? ⟨kx, 3, none⟩ = some x3 := KX2.out.cell 3
  have c4 : w2.cell? ⟨kx, 4, none⟩ = some x4 := KX2.out.cell 4
  have CS := Lib.hid (SmallProof_any w2 p NM (HP.out.keep HB2.out) HBK.out)
  rw [HV.out] at CS
  go_wp2_with fail
  clear c0 c1 c2 c3 c4
  refine CS.out.mono ?_
  rintro e6 w6 ⟨st, rfl, hst, hb6⟩
  have HB6 := Lib.hid (HB2.out.trans (hb6.mono HB2.out.size))
  have KX6 := Lib.hid (KX2.out.below hb6)
  have HST := Lib.hid hst
  clear hb6 CS HB2 KX2 hst
  cases st with
  | false =>
    go_wp2_with fail
    refine (awake_any _).mono ?_
    rintro e9 w9 ⟨rfl, hb9⟩
    have HB9 := Lib.hid (HB6.out.trans (hb9.mono HB6.out.size))
    clear hb9
    go_wp2
    go_ret
    exact ⟨rfl, HB9.out⟩
  | true =>
    have HSM := Lib.hid (HST.out rfl)
    by_cases hn12 : n ≤ 12
    case neg =>
      have hni : (n : Int) > 12 := by omega
      go_wp2_with fail
      refine (awake_any _).mono ?_
      rintro e9 w9 ⟨rfl, hb9⟩
      have HB9 := Lib.hid (HB6.out.trans (hb9.mono HB6.out.size))
      clear hb9
      go_wp2
      go_ret
      exact ⟨rfl, HB9.out⟩
    have hni : ¬ ((n : Int) > 12) := by omega
    have CU := Lib.hid (Sum_any3 w6 A n c U 1048576 (HUS.out.below HB6.out) (by decide) (by decide) (by omega))
    go_wp2_with fail
    refine CU.out.mono ?_
    rintro e7 w7 ⟨q, rfl, hqm, hqo, hb7, g, vA, vc, L, d, hq, hd1, hdn⟩
    have HB7 := Lib.hid (HB6.out.trans (hb7.mono HB6.out.size))
    have KX7 := Lib.hid (KX6.out.below hb7)
    subst hq
    have hUM : U.map Us.m = L.map Us.m := by
      rw [Pf.m_eq] at hqm
      injection hqm with e1 _ _ _
      simp only [List.map_cons, List.map_nil, List.cons.injEq, and_true] at e1
      exact (congrArg Prod.fst e1).symm
    have HLL := Lib.hid (show L.length = n by
      have := congrArg List.length hUM
      simp only [List.length_map] at this
      rw [← this]
      exact HUL.out)
    have HLZ := Lib.hid (show ∀ k (h1 : k < U.length) (h2 : k < L.length), U[k].i = L[k].i ∧ U[k].b.z = L[k].b.z from fun k h1 h2 => by
      have : (U.map Us.m)[k]'(by rw [List.length_map]; exact h1) = (L.map Us.m)[k]'(by rw [List.length_map]; exact h2) := by simp only [hUM]
      rw [List.getElem_map, List.getElem_map] at this
      exact ⟨congrArg Prod.fst this, congrArg Prod.snd this⟩)
    have HSA : Hid (At w7 (some ⟨g, 0, none⟩) 1 3 ([(⟨vA, L.length, vc, L, d⟩ : Sp)].flatMap Sp.cells) ∧ Sp.ok w7 1048576 ⟨vA, L.length, vc, L, d⟩) := Lib.hid (by
      cases hqo with
      | mk h1 h2 => exact ⟨h1, h2 _ List.mem_cons_self⟩)
    have HDN := Lib.hid (show NB w7 0 d.val 1 2 from hdn.mono (Nat.zero_le _) (Nat.le_refl _))
    clear hb7 CU hqm hqo hdn hd1 hUM
    unfold Pf.val Pf.cells Bg.zero
    dsimp only
    obtain ⟨W8, hW8⟩ : ∃ W8, W8 = w7.alloc (.cells #[.slice (some ⟨g, 0, none⟩) 1 1, .slice none 0 0, .bool false, .slice none 0 0, .slice none 0 0] 52) := ⟨_, rfl⟩
    obtain ⟨k8, hk8⟩ : ∃ k8, k8 = w7.heap.size := ⟨_, rfl⟩
    have hb8 : Below w7.heap.size w7 W8 := by rw [hW8]; exact (Below.refl _ _).alloc (Nat.le_refl _) _
    have HB8 := Lib.hid (HB7.out.trans (hb8.mono HB7.out.size))
    have KX8 := Lib.hid (KX7.out.below hb8)
    have K8 := Lib.hid (show Blk W8 k8 52 #[.slice (some ⟨g, 0, none⟩) 1 1, .slice none 0 0, .bool false, .slice none 0 0, .slice none 0 0] by rw [hW8]; exact Blk.new_ hk8 rfl)
    have HSA8 := Lib.hid (show At W8 (some ⟨g, 0, none⟩) 1 3 ([(⟨vA, L.length, vc, L, d⟩ : Sp)].flatMap Sp.cells) ∧ Sp.ok W8 1048576 ⟨vA, L.length, vc, L, d⟩ from ⟨At.below HSA.out.1 hb8, HSA.out.2.below hb8⟩)
    have HDV := Lib.hid (HDN.out.below hb8)
    clear hb8
    go_upto_region 4 with fail
    rw [← hk8]
    try simp only [List.toArray]
    rw [← hW8]
    clear hk8 hW8
    have C1 := Lib.hid (show ∀ W, Below W8.heap.size W8 W → Calls Try.prog 30 #[.agg #[x0, x1, x2, x3, x4]] W fun e w' => e = .returned (.int .i64 (sizeP p.m : Int)) ∧ Below W.heap.size W w' from fun W hW => by
      have h := Size_any p W 4 ((HP.out.small HSM.out.1).keep (HB8.out.trans (hW.mono HB8.out.size))) (by have := HSM.out.2; omega)
      rw [HV.out] at h
      exact h)
    have C2 := Lib.hid (show ∀ W, Below W8.heap.size W8 W → Calls Try.prog 31 #[.agg #[x0, x1, x2, x3, x4]] W fun e w' => e = .returned (.int .i64 (sizeP p.m : Int)) ∧ Below W.heap.size W w' from fun W hW => by
      have h := RSize_any p W 4 ((HP.out.small HSM.out.1).keep (HB8.out.trans (hW.mono HB8.out.size))) (by have := HSM.out.2; omega)
      rw [HV.out] at h
      exact h)
    generalize sizeP p.m = sz at C1 C2
    have c0 : W8.cell? ⟨kx, 0, none⟩ = some x0 := KX8.out.cell 0
    have c1 : W8.cell? ⟨kx, 1, none⟩ = some x1 := KX8.out.cell 1
    have c2 : W8.cell? ⟨kx, 2, none⟩ = some x2 := KX8.out.cell 2
    have c3 : W8.cell? ⟨kx, 3, none⟩ = some x3 := KX8.out.cell 3
    have c4 : W8.cell? ⟨kx, 4, none⟩ = some x4 := KX8.out.cell 4
    have p0 : W8.cell? ⟨k8, 0, none⟩ = some (.slice (some ⟨g, 0, none⟩) 1 1) := K8.out.cell 0
    have p1 : W8.cell? ⟨k8, 1, none⟩ = some (.slice none 0 0) := K8.out.cell 1
    have p2 : W8.cell? ⟨k8, 2, none⟩ = some (.bool false) := K8.out.cell 2
    have p3 : W8.cell? ⟨k8, 3, none⟩ = some (.slice none 0 0) := K8.out.cell 3
    have p4 : W8.cell? ⟨k8, 4, none⟩ = some (.slice none 0 0) := K8.out.cell 4
    have HSC := Lib.hid (show ∀ W, Below W8.heap.size W8 W → W.cell? ⟨g, 0, none⟩ = some (.slice vA L.length vc) ∧ W.cell? ⟨g, 1, none⟩ = some (.bool d.neg) ∧ W.cell? ⟨g, 2, none⟩ = some (.slice d.A d.n d.c) from fun W hW => by
      obtain ⟨b, off, e, -, hc⟩ := at3 (fun _ => rfl) HSA8.out.1 (by decide)
      injection e with e
      injection e with e1 e2 _
      subst e1 e2
      have := hc W hW 0 (by simp) _ _ _ rfl
      simpa using this)
    obtain ⟨s0, s1, s2⟩ := HSC.out W8 (Below.refl _ _)
    rw [HLL.out] at s0
    have hszq : ((sz : Int) == (sz : Int)) = true := by simp
    have hnnq : ((n : Int) == (n : Int)) = true := by simp
    unfold Bg.val at HDV
    have hb0 : Below W8.heap.size W8 W8.drew := below_drew (Below.refl _ _)
    refine wp_region_mixE (fun w' => Below W8.heap.size W8 w') (by kernel_rfl) ?_
    generalize W8.drew = z0 at hb0 ⊢
    refine wpE_take (i := 0) (oi := ⟨some 23, _, _, _, _, _⟩) (v := ?_) rfl (by decide +kernel) (by decide +kernel) (by decide +kernel) (fun _ _ _ h => h) (Or.inl ⟨by rfl, ?_⟩) hb0 ?_
    case refine_2 =>
        intro w' hSw
        have c0' := keepcell hSw c0
        have c1' := keepcell hSw c1
        have c2' := keepcell hSw c2
        have c3' := keepcell hSw c3
        have c4' := keepcell hSw c4
        have p0' := keepcell hSw p0
        have p1' := keepcell hSw p1
        have p2' := keepcell hSw p2
        have p3' := keepcell hSw p3
        have p4' := keepcell hSw p4
        have s0' := keepcell hSw s0
        have s1' := keepcell hSw s1
        have s2' := keepcell hSw s2
        go_simp
        try (with_reducible rfl)
    try simp only [Act.put, List.setIfInBounds_toArray, List.set_cons_zero, List.set_cons_succ]
    refine wpE_take (i := 2) (oi := ⟨some 25, _, _, _, _, _⟩) (v := ?_) rfl (by decide +kernel) (by decide +kernel) (by decide +kernel) (fun _ _ _ h => h) (Or.inl ⟨by rfl, ?_⟩) hb0 ?_
    case refine_2 =>
        intro w' hSw
        have c0' := keepcell hSw c0
        have c1' := keepcell hSw c1
        have c2' := keepcell hSw c2
        have c3' := keepcell hSw c3
        have c4' := keepcell hSw c4
        have p0' := keepcell hSw p0
        have p1' := keepcell hSw p1
        have p2' := keepcell hSw p2
        have p3' := keepcell hSw p3
        have p4' := keepcell hSw p4
        have s0' := keepcell hSw s0
        have s1' := keepcell hSw s1
        have s2' := keepcell hSw s2
        go_simp
        try (with_reducible rfl)
    try simp only [Act.put, List.setIfInBounds_toArray, List.set_cons_zero, List.set_cons_succ]
    have D1 := Lib.hid (C1.out z0 hb0)
    refine wpE_step (i := 1) (o := ⟨some 24, _, _, _, _, _⟩) rfl (by decide +kernel) (fun KK hKK => ?_)
    go_simp
    refine D1.out.mono ?_
    rintro e z1 ⟨rfl, hbn⟩
    have hb1 : Below W8.heap.size W8 z1 := hb0.trans (hbn.mono hb0.size)
    clear hbn
    refine hKK.out _ _ hb1 ?_
    clear hKK KK
    try simp only [Act.put, List.setIfInBounds_toArray, List.set_cons_zero, List.set_cons_succ]
    have D2 := Lib.hid (C2.out z1 hb1)
    refine wpE_step (i := 3) (o := ⟨some 26, _, _, _, _, _⟩) rfl (by decide +kernel) (fun KK hKK => ?_)
    go_simp
    refine D2.out.mono ?_
    rintro e z2 ⟨rfl, hbn⟩
    have hb2 : Below W8.heap.size W8 z2 := hb1.trans (hbn.mono hb1.size)
    clear hbn
    refine hKK.out _ _ hb2 ?_
    clear hKK KK
    try simp only [Act.put, List.setIfInBounds_toArray, List.set_cons_zero, List.set_cons_succ]
    refine wpE_take (i := 4) (oi := ⟨some 27, _, _, _, _, _⟩) (v := .bool false) rfl (by decide +kernel) (by decide +kernel) (by decide +kernel) (fun _ _ _ h => h) (Or.inl ⟨by rfl, ?_⟩) hb2 ?_
    case refine_1 =>
        intro w' hSw
        have c0' := keepcell hSw c0
        have c1' := keepcell hSw c1
        have c2' := keepcell hSw c2
        have c3' := keepcell hSw c3
        have c4' := keepcell hSw c4
        have p0' := keepcell hSw p0
        have p1' := keepcell hSw p1
        have p2' := keepcell hSw p2
        have p3' := keepcell hSw p3
        have p4' := keepcell hSw p4
        have s0' := keepcell hSw s0
        have s1' := keepcell hSw s1
        have s2' := keepcell hSw s2
        go_simp
        try (with_reducible rfl)
    try simp only [Act.put, List.setIfInBounds_toArray, List.set_cons_zero, List.set_cons_succ]
    refine wpE_take (i := 5) (oi := ⟨some 28, _, _, _, _, _⟩) (v := .bool false) rfl (by decide +kernel) (by decide +kernel) (by decide +kernel) (fun _ _ _ h => h) (Or.inl ⟨by rfl, ?_⟩) hb2 ?_
    case refine_1 =>
        intro w' hSw
        have c0' := keepcell hSw c0
        have c1' := keepcell hSw c1
        have c2' := keepcell hSw c2
        have c3' := keepcell hSw c3
        have c4' := keepcell hSw c4
        have p0' := keepcell hSw p0
        have p1' := keepcell hSw p1
        have p2' := keepcell hSw p2
        have p3' := keepcell hSw p3
        have p4' := keepcell hSw p4
        have s0' := keepcell hSw s0
        have s1' := keepcell hSw s1
        have s2' := keepcell hSw s2
        go_simp
        try (with_reducible rfl)
    try simp only [Act.put, List.setIfInBounds_toArray, List.set_cons_zero, List.set_cons_succ]
    refine wpE_take (i := 6) (oi := ⟨some 29, _, _, _, _, _⟩) (v := ?_) rfl (by decide +kernel) (by decide +kernel) (by decide +kernel) (fun _ _ _ h => h) (Or.inl ⟨by rfl, ?_⟩) hb2 ?_
    case refine_2 =>
        intro w' hSw
        have c0' := keepcell hSw c0
        have c1' := keepcell hSw c1
        have c2' := keepcell hSw c2
        have c3' := keepcell hSw c3
        have c4' := keepcell hSw c4
        have p0' := keepcell hSw p0
        have p1' := keepcell hSw p1
        have p2' := keepcell hSw p2
        have p3' := keepcell hSw p3
        have p4' := keepcell hSw p4
        have s0' := keepcell hSw s0
        have s1' := keepcell hSw s1
        have s2' := keepcell hSw s2
        go_simp
        try (with_reducible rfl)
    try simp only [Act.put, List.setIfInBounds_toArray, List.set_cons_zero, List.set_cons_succ]
    refine wpE_take (i := 7) (oi := ⟨some 30, _, _, _, _, _⟩) (v := ?_) rfl (by decide +kernel) (by decide +kernel) (by decide +kernel) (fun _ _ _ h => h) (Or.inl ⟨by rfl, ?_⟩) hb2 ?_
    case refine_2 =>
        intro w' hSw
        have c0' := keepcell hSw c0
        have c1' := keepcell hSw c1
        have c2' := keepcell hSw c2
        have c3' := keepcell hSw c3
        have c4' := keepcell hSw c4
        have p0' := keepcell hSw p0
        have p1' := keepcell hSw p1
        have p2' := keepcell hSw p2
        have p3' := keepcell hSw p3
        have p4' := keepcell hSw p4
        have s0' := keepcell hSw s0
        have s1' := keepcell hSw s1
        have s2' := keepcell hSw s2
        go_simp
        try (with_reducible rfl)
    try simp only [Act.put, List.setIfInBounds_toArray, List.set_cons_zero, List.set_cons_succ]
    refine wpE_take (i := 8) (oi := ⟨some 31, _, _, _, _, _⟩) (v := ?_) rfl (by decide +kernel) (by decide +kernel) (by decide +kernel) (fun _ _ _ h => h) (Or.inl ⟨by rfl, ?_⟩) hb2 ?_
    case refine_2 =>
        intro w' hSw
        have c0' := keepcell hSw c0
        have c1' := keepcell hSw c1
        have c2' := keepcell hSw c2
        have c3' := keepcell hSw c3
        have c4' := keepcell hSw c4
        have p0' := keepcell hSw p0
        have p1' := keepcell hSw p1
        have p2' := keepcell hSw p2
        have p3' := keepcell hSw p3
        have p4' := keepcell hSw p4
        have s0' := keepcell hSw s0
        have s1' := keepcell hSw s1
        have s2' := keepcell hSw s2
        go_simp
        try (with_reducible rfl)
    try simp only [Act.put, List.setIfInBounds_toArray, List.set_cons_zero, List.set_cons_succ]
    refine wpE_take (i := 9) (oi := ⟨some 32, _, _, _, _, _⟩) (v := .bool false) rfl (by decide +kernel) (by decide +kernel) (by decide +kernel) (fun _ _ _ h => h) (Or.inl ⟨by rfl, ?_⟩) hb2 ?_
    case refine_1 =>
        intro w' hSw
        have c0' := keepcell hSw c0
        have c1' := keepcell hSw c1
        have c2' := keepcell hSw c2
        have c3' := keepcell hSw c3
        have c4' := keepcell hSw c4
        have p0' := keepcell hSw p0
        have p1' := keepcell hSw p1
        have p2' := keepcell hSw p2
        have p3' := keepcell hSw p3
        have p4' := keepcell hSw p4
        have s0' := keepcell hSw s0
        have s1' := keepcell hSw s1
        have s2' := keepcell hSw s2
        go_simp
        try (with_reducible rfl)
    try simp only [Act.put, List.setIfInBounds_toArray, List.set_cons_zero, List.set_cons_succ]
    refine wpE_take (i := 10) (oi := ⟨some 33, _, _, _, _, _⟩) (v := .bool false) rfl (by decide +kernel) (by decide +kernel) (by decide +kernel) (fun _ _ _ h => h) (Or.inl ⟨by rfl, ?_⟩) hb2 ?_
    case refine_1 =>
        intro w' hSw
        have c0' := keepcell hSw c0
        have c1' := keepcell hSw c1
        have c2' := keepcell hSw c2
        have c3' := keepcell hSw c3
        have c4' := keepcell hSw c4
        have p0' := keepcell hSw p0
        have p1' := keepcell hSw p1
        have p2' := keepcell hSw p2
        have p3' := keepcell hSw p3
        have p4' := keepcell hSw p4
        have s0' := keepcell hSw s0
        have s1' := keepcell hSw s1
        have s2' := keepcell hSw s2
        go_simp
        try (with_reducible rfl)
    try simp only [Act.put, List.setIfInBounds_toArray, List.set_cons_zero, List.set_cons_succ]
    refine wpE_take (i := 11) (oi := ⟨some 34, _, _, _, _, _⟩) (v := .bool false) rfl (by decide +kernel) (by decide +kernel) (by decide +kernel) (fun _ _ _ h => h) (Or.inl ⟨by rfl, ?_⟩) hb2 ?_
    case refine_1 =>
        intro w' hSw
        have c0' := keepcell hSw c0
        have c1' := keepcell hSw c1
        have c2' := keepcell hSw c2
        have c3' := keepcell hSw c3
        have c4' := keepcell hSw c4
        have p0' := keepcell hSw p0
        have p1' := keepcell hSw p1
        have p2' := keepcell hSw p2
        have p3' := keepcell hSw p3
        have p4' := keepcell hSw p4
        have s0' := keepcell hSw s0
        have s1' := keepcell hSw s1
        have s2' := keepcell hSw s2
        go_simp
        try (with_reducible rfl)
    try simp only [Act.put, List.setIfInBounds_toArray, List.set_cons_zero, List.set_cons_succ]
    refine wpE_take (i := 12) (oi := ⟨some 35, _, _, _, _, _⟩) (v := ?_) rfl (by decide +kernel) (by decide +kernel) (by decide +kernel) (fun _ _ _ h => h) (Or.inl ⟨by rfl, ?_⟩) hb2 ?_
    case refine_2 =>
        intro w' hSw
        have c0' := keepcell hSw c0
        have c1' := keepcell hSw c1
        have c2' := keepcell hSw c2
        have c3' := keepcell hSw c3
        have c4' := keepcell hSw c4
        have p0' := keepcell hSw p0
        have p1' := keepcell hSw p1
        have p2' := keepcell hSw p2
        have p3' := keepcell hSw p3
        have p4' := keepcell hSw p4
        have s0' := keepcell hSw s0
        have s1' := keepcell hSw s1
        have s2' := keepcell hSw s2
        go_simp
        try (with_reducible rfl)
    try simp only [Act.put, List.setIfInBounds_toArray, List.set_cons_zero, List.set_cons_succ]
    refine wpE_take (i := 13) (oi := ⟨some 36, _, _, _, _, _⟩) (v := ?_) rfl (by decide +kernel) (by decide +kernel) (by decide +kernel) (fun _ _ _ h => h) (Or.inl ⟨by rfl, ?_⟩) hb2 ?_
    case refine_2 =>
        intro w' hSw
        have c0' := keepcell hSw c0
        have c1' := keepcell hSw c1
        have c2' := keepcell hSw c2
        have c3' := keepcell hSw c3
        have c4' := keepcell hSw c4
        have p0' := keepcell hSw p0
        have p1' := keepcell hSw p1
        have p2' := keepcell hSw p2
        have p3' := keepcell hSw p3
        have p4' := keepcell hSw p4
        have s0' := keepcell hSw s0
        have s1' := keepcell hSw s1
        have s2' := keepcell hSw s2
        go_simp
        try (with_reducible rfl)
    try simp only [Act.put, List.setIfInBounds_toArray, List.set_cons_zero, List.set_cons_succ]
    refine wpE_take (i := 14) (oi := ⟨some 37, _, _, _, _, _⟩) (v := ?_) rfl (by decide +kernel) (by decide +kernel) (by decide +kernel) (fun _ _ _ h => h) (Or.inl ⟨by rfl, ?_⟩) hb2 ?_
    case refine_2 =>
        intro w' hSw
        have c0' := keepcell hSw c0
        have c1' := keepcell hSw c1
        have c2' := keepcell hSw c2
        have c3' := keepcell hSw c3
        have c4' := keepcell hSw c4
        have p0' := keepcell hSw p0
        have p1' := keepcell hSw p1
        have p2' := keepcell hSw p2
        have p3' := keepcell hSw p3
        have p4' := keepcell hSw p4
        have s0' := keepcell hSw s0
        have s1' := keepcell hSw s1
        have s2' := keepcell hSw s2
        go_simp
        try (with_reducible rfl)
    try simp only [Act.put, List.setIfInBounds_toArray, List.set_cons_zero, List.set_cons_succ]
    refine wpE_take (i := 15) (oi := ⟨some 38, _, _, _, _, _⟩) (v := .bool false) rfl (by decide +kernel) (by decide +kernel) (by decide +kernel) (fun _ _ _ h => h) (Or.inl ⟨by rfl, ?_⟩) hb2 ?_
    case refine_1 =>
        intro w' hSw
        have c0' := keepcell hSw c0
        have c1' := keepcell hSw c1
        have c2' := keepcell hSw c2
        have c3' := keepcell hSw c3
        have c4' := keepcell hSw c4
        have p0' := keepcell hSw p0
        have p1' := keepcell hSw p1
        have p2' := keepcell hSw p2
        have p3' := keepcell hSw p3
        have p4' := keepcell hSw p4
        have s0' := keepcell hSw s0
        have s1' := keepcell hSw s1
        have s2' := keepcell hSw s2
        go_simp
        try (with_reducible rfl)
    try simp only [Act.put, List.setIfInBounds_toArray, List.set_cons_zero, List.set_cons_succ]
    refine wpE_take (i := 16) (oi := ⟨some 39, _, _, _, _, _⟩) (v := .bool false) rfl (by decide +kernel) (by decide +kernel) (by decide +kernel) (fun _ _ _ h => h) (Or.inl ⟨by rfl, ?_⟩) hb2 ?_
    case refine_1 =>
        intro w' hSw
        have c0' := keepcell hSw c0
        have c1' := keepcell hSw c1
        have c2' := keepcell hSw c2
        have c3' := keepcell hSw c3
        have c4' := keepcell hSw c4
        have p0' := keepcell hSw p0
        have p1' := keepcell hSw p1
        have p2' := keepcell hSw p2
        have p3' := keepcell hSw p3
        have p4' := keepcell hSw p4
        have s0' := keepcell hSw s0
        have s1' := keepcell hSw s1
        have s2' := keepcell hSw s2
        go_simp
        try (with_reducible rfl)
    try simp only [Act.put, List.setIfInBounds_toArray, List.set_cons_zero, List.set_cons_succ]
    refine wpE_take (i := 17) (oi := ⟨some 40, _, _, _, _, _⟩) (v := .bool false) rfl (by decide +kernel) (by decide +kernel) (by decide +kernel) (fun _ _ _ h => h) (Or.inl ⟨by rfl, ?_⟩) hb2 ?_
    case refine_1 =>
        intro w' hSw
        have c0' := keepcell hSw c0
        have c1' := keepcell hSw c1
        have c2' := keepcell hSw c2
        have c3' := keepcell hSw c3
        have c4' := keepcell hSw c4
        have p0' := keepcell hSw p0
        have p1' := keepcell hSw p1
        have p2' := keepcell hSw p2
        have p3' := keepcell hSw p3
        have p4' := keepcell hSw p4
        have s0' := keepcell hSw s0
        have s1' := keepcell hSw s1
        have s2' := keepcell hSw s2
        go_simp
        try (with_reducible rfl)
    try simp only [Act.put, List.setIfInBounds_toArray, List.set_cons_zero, List.set_cons_succ]
    refine wpE_take (i := 18) (oi := ⟨some 41, _, _, _, _, _⟩) (v := ?_) rfl (by decide +kernel) (by decide +kernel) (by decide +kernel) (fun _ _ _ h => h) (Or.inl ⟨by rfl, ?_⟩) hb2 ?_
    case refine_2 =>
        intro w' hSw
        have c0' := keepcell hSw c0
        have c1' := keepcell hSw c1
        have c2' := keepcell hSw c2
        have c3' := keepcell hSw c3
        have c4' := keepcell hSw c4
        have p0' := keepcell hSw p0
        have p1' := keepcell hSw p1
        have p2' := keepcell hSw p2
        have p3' := keepcell hSw p3
        have p4' := keepcell hSw p4
        have s0' := keepcell hSw s0
        have s1' := keepcell hSw s1
        have s2' := keepcell hSw s2
        go_simp
        try (with_reducible rfl)
    try simp only [Act.put, List.setIfInBounds_toArray, List.set_cons_zero, List.set_cons_succ]
    refine wpE_take (i := 19) (oi := ⟨some 42, _, _, _, _, _⟩) (v := ?_) rfl (by decide +kernel) (by decide +kernel) (by decide +kernel) (fun _ _ _ h => h) (Or.inl ⟨by rfl, ?_⟩) hb2 ?_
    case refine_2 =>
        intro w' hSw
        have c0' := keepcell hSw c0
        have c1' := keepcell hSw c1
        have c2' := keepcell hSw c2
        have c3' := keepcell hSw c3
        have c4' := keepcell hSw c4
        have p0' := keepcell hSw p0
        have p1' := keepcell hSw p1
        have p2' := keepcell hSw p2
        have p3' := keepcell hSw p3
        have p4' := keepcell hSw p4
        have s0' := keepcell hSw s0
        have s1' := keepcell hSw s1
        have s2' := keepcell hSw s2
        go_simp
        try (with_reducible rfl)
    try simp only [Act.put, List.setIfInBounds_toArray, List.set_cons_zero, List.set_cons_succ]
    refine wpE_take (i := 20) (oi := ⟨some 43, _, _, _, _, _⟩) (v := ?_) rfl (by decide +kernel) (by decide +kernel) (by decide +kernel) (fun _ _ _ h => h) (Or.inl ⟨by rfl, ?_⟩) hb2 ?_
    case refine_2 =>
        intro w' hSw
        have c0' := keepcell hSw c0
        have c1' := keepcell hSw c1
        have c2' := keepcell hSw c2
        have c3' := keepcell hSw c3
        have c4' := keepcell hSw c4
        have p0' := keepcell hSw p0
        have p1' := keepcell hSw p1
        have p2' := keepcell hSw p2
        have p3' := keepcell hSw p3
        have p4' := keepcell hSw p4
        have s0' := keepcell hSw s0
        have s1' := keepcell hSw s1
        have s2' := keepcell hSw s2
        go_simp
        try (with_reducible rfl)
    try simp only [Act.put, List.setIfInBounds_toArray, List.set_cons_zero, List.set_cons_succ]
    refine wpE_take (i := 21) (oi := ⟨some 44, _, _, _, _, _⟩) (v := .bool false) rfl (by decide +kernel) (by decide +kernel) (by decide +kernel) (fun _ _ _ h => h) (Or.inl ⟨by rfl, ?_⟩) hb2 ?_
    case refine_1 =>
        intro w' hSw
        have c0' := keepcell hSw c0
        have c1' := keepcell hSw c1
        have c2' := keepcell hSw c2
        have c3' := keepcell hSw c3
        have c4' := keepcell hSw c4
        have p0' := keepcell hSw p0
        have p1' := keepcell hSw p1
        have p2' := keepcell hSw p2
        have p3' := keepcell hSw p3
        have p4' := keepcell hSw p4
        have s0' := keepcell hSw s0
        have s1' := keepcell hSw s1
        have s2' := keepcell hSw s2
        go_simp
        try (with_reducible rfl)
    try simp only [Act.put, List.setIfInBounds_toArray, List.set_cons_zero, List.set_cons_succ]
    refine wpE_take (i := 22) (oi := ⟨some 45, _, _, _, _, _⟩) (v := .bool false) rfl (by decide +kernel) (by decide +kernel) (by decide +kernel) (fun _ _ _ h => h) (Or.inl ⟨by rfl, ?_⟩) hb2 ?_
    case refine_1 =>
        intro w' hSw
        have c0' := keepcell hSw c0
        have c1' := keepcell hSw c1
        have c2' := keepcell hSw c2
        have c3' := keepcell hSw c3
        have c4' := keepcell hSw c4
        have p0' := keepcell hSw p0
        have p1' := keepcell hSw p1
        have p2' := keepcell hSw p2
        have p3' := keepcell hSw p3
        have p4' := keepcell hSw p4
        have s0' := keepcell hSw s0
        have s1' := keepcell hSw s1
        have s2' := keepcell hSw s2
        go_simp
        try (with_reducible rfl)
    try simp only [Act.put, List.setIfInBounds_toArray, List.set_cons_zero, List.set_cons_succ]
    refine wpE_take (i := 23) (oi := ⟨some 46, _, _, _, _, _⟩) (v := .bool false) rfl (by decide +kernel) (by decide +kernel) (by decide +kernel) (fun _ _ _ h => h) (Or.inl ⟨by rfl, ?_⟩) hb2 ?_
    case refine_1 =>
        intro w' hSw
        have c0' := keepcell hSw c0
        have c1' := keepcell hSw c1
        have c2' := keepcell hSw c2
        have c3' := keepcell hSw c3
        have c4' := keepcell hSw c4
        have p0' := keepcell hSw p0
        have p1' := keepcell hSw p1
        have p2' := keepcell hSw p2
        have p3' := keepcell hSw p3
        have p4' := keepcell hSw p4
        have s0' := keepcell hSw s0
        have s1' := keepcell hSw s1
        have s2' := keepcell hSw s2
        go_simp
        try (with_reducible rfl)
    try simp only [Act.put, List.setIfInBounds_toArray, List.set_cons_zero, List.set_cons_succ]
    refine wpE_take (i := 24) (oi := ⟨some 47, _, _, _, _, _⟩) (v := ?_) rfl (by decide +kernel) (by decide +kernel) (by decide +kernel) (fun _ _ _ h => h) (Or.inl ⟨by rfl, ?_⟩) hb2 ?_
    case refine_2 =>
        intro w' hSw
        have c0' := keepcell hSw c0
        have c1' := keepcell hSw c1
        have c2' := keepcell hSw c2
        have c3' := keepcell hSw c3
        have c4' := keepcell hSw c4
        have p0' := keepcell hSw p0
        have p1' := keepcell hSw p1
        have p2' := keepcell hSw p2
        have p3' := keepcell hSw p3
        have p4' := keepcell hSw p4
        have s0' := keepcell hSw s0
        have s1' := keepcell hSw s1
        have s2' := keepcell hSw s2
        go_simp
        try (with_reducible rfl)
    try simp only [Act.put, List.setIfInBounds_toArray, List.set_cons_zero, List.set_cons_succ]
    refine wpE_take (i := 25) (oi := ⟨some 48, _, _, _, _, _⟩) (v := ?_) rfl (by decide +kernel) (by decide +kernel) (by decide +kernel) (fun _ _ _ h => h) (Or.inl ⟨by rfl, ?_⟩) hb2 ?_
    case refine_2 =>
        intro w' hSw
        have c0' := keepcell hSw c0
        have c1' := keepcell hSw c1
        have c2' := keepcell hSw c2
        have c3' := keepcell hSw c3
        have c4' := keepcell hSw c4
        have p0' := keepcell hSw p0
        have p1' := keepcell hSw p1
        have p2' := keepcell hSw p2
        have p3' := keepcell hSw p3
        have p4' := keepcell hSw p4
        have s0' := keepcell hSw s0
        have s1' := keepcell hSw s1
        have s2' := keepcell hSw s2
        go_simp
        try (with_reducible rfl)
    try simp only [Act.put, List.setIfInBounds_toArray, List.set_cons_zero, List.set_cons_succ]
    refine wpE_take (i := 26) (oi := ⟨some 49, _, _, _, _, _⟩) (v := ?_) rfl (by decide +kernel) (by decide +kernel) (by decide +kernel) (fun _ _ _ h => h) (Or.inl ⟨by rfl, ?_⟩) hb2 ?_
    case refine_2 =>
        intro w' hSw
        have c0' := keepcell hSw c0
        have c1' := keepcell hSw c1
        have c2' := keepcell hSw c2
        have c3' := keepcell hSw c3
        have c4' := keepcell hSw c4
        have p0' := keepcell hSw p0
        have p1' := keepcell hSw p1
        have p2' := keepcell hSw p2
        have p3' := keepcell hSw p3
        have p4' := keepcell hSw p4
        have s0' := keepcell hSw s0
        have s1' := keepcell hSw s1
        have s2' := keepcell hSw s2
        go_simp
        try (with_reducible rfl)
    try simp only [Act.put, List.setIfInBounds_toArray, List.set_cons_zero, List.set_cons_succ]
    refine wpE_take (i := 27) (oi := ⟨some 50, _, _, _, _, _⟩) (v := ?_) rfl (by decide +kernel) (by decide +kernel) (by decide +kernel) (fun _ _ _ h => h) (Or.inl ⟨by rfl, ?_⟩) hb2 ?_
    case refine_2 =>
        intro w' hSw
        have c0' := keepcell hSw c0
        have c1' := keepcell hSw c1
        have c2' := keepcell hSw c2
        have c3' := keepcell hSw c3
        have c4' := keepcell hSw c4
        have p0' := keepcell hSw p0
        have p1' := keepcell hSw p1
        have p2' := keepcell hSw p2
        have p3' := keepcell hSw p3
        have p4' := keepcell hSw p4
        have s0' := keepcell hSw s0
        have s1' := keepcell hSw s1
        have s2' := keepcell hSw s2
        go_simp
        try (with_reducible rfl)
    try simp only [Act.put, List.setIfInBounds_toArray, List.set_cons_zero, List.set_cons_succ]
    refine wpE_take (i := 28) (oi := ⟨some 51, _, _, _, _, _⟩) (v := .bool false) rfl (by decide +kernel) (by decide +kernel) (by decide +kernel) (fun _ _ _ h => h) (Or.inl ⟨by rfl, ?_⟩) hb2 ?_
    case refine_1 =>
        intro w' hSw
        have c0' := keepcell hSw c0
        have c1' := keepcell hSw c1
        have c2' := keepcell hSw c2
        have c3' := keepcell hSw c3
        have c4' := keepcell hSw c4
        have p0' := keepcell hSw p0
        have p1' := keepcell hSw p1
        have p2' := keepcell hSw p2
        have p3' := keepcell hSw p3
        have p4' := keepcell hSw p4
        have s0' := keepcell hSw s0
        have s1' := keepcell hSw s1
        have s2' := keepcell hSw s2
        go_simp
        try (with_reducible rfl)
    try simp only [Act.put, List.setIfInBounds_toArray, List.set_cons_zero, List.set_cons_succ]
    refine wpE_take (i := 29) (oi := ⟨some 52, _, _, _, _, _⟩) (v := .bool false) rfl (by decide +kernel) (by decide +kernel) (by decide +kernel) (fun _ _ _ h => h) (Or.inl ⟨by rfl, ?_⟩) hb2 ?_
    case refine_1 =>
        intro w' hSw
        have c0' := keepcell hSw c0
        have c1' := keepcell hSw c1
        have c2' := keepcell hSw c2
        have c3' := keepcell hSw c3
        have c4' := keepcell hSw c4
        have p0' := keepcell hSw p0
        have p1' := keepcell hSw p1
        have p2' := keepcell hSw p2
        have p3' := keepcell hSw p3
        have p4' := keepcell hSw p4
        have s0' := keepcell hSw s0
        have s1' := keepcell hSw s1
        have s2' := keepcell hSw s2
        go_simp
        try (with_reducible rfl)
    try simp only [Act.put, List.setIfInBounds_toArray, List.set_cons_zero, List.set_cons_succ]
    refine wpE_take (i := 30) (oi := ⟨some 53, _, _, _, _, _⟩) (v := .bool false) rfl (by decide +kernel) (by decide +kernel) (by decide +kernel) (fun _ _ _ h => h) (Or.inl ⟨by rfl, ?_⟩) hb2 ?_
    case refine_1 =>
        intro w' hSw
        have c0' := keepcell hSw c0
        have c1' := keepcell hSw c1
        have c2' := keepcell hSw c2
        have c3' := keepcell hSw c3
        have c4' := keepcell hSw c4
        have p0' := keepcell hSw p0
        have p1' := keepcell hSw p1
        have p2' := keepcell hSw p2
        have p3' := keepcell hSw p3
        have p4' := keepcell hSw p4
        have s0' := keepcell hSw s0
        have s1' := keepcell hSw s1
        have s2' := keepcell hSw s2
        go_simp
        try (with_reducible rfl)
    try simp only [Act.put, List.setIfInBounds_toArray, List.set_cons_zero, List.set_cons_succ]
    refine wpE_take (i := 31) (oi := ⟨some 54, _, _, _, _, _⟩) (v := ?_) rfl (by decide +kernel) (by decide +kernel) (by decide +kernel) (fun _ _ _ h => h) (Or.inl ⟨by rfl, ?_⟩) hb2 ?_
    case refine_2 =>
        intro w' hSw
        have c0' := keepcell hSw c0
        have c1' := keepcell hSw c1
        have c2' := keepcell hSw c2
        have c3' := keepcell hSw c3
        have c4' := keepcell hSw c4
        have p0' := keepcell hSw p0
        have p1' := keepcell hSw p1
        have p2' := keepcell hSw p2
        have p3' := keepcell hSw p3
        have p4' := keepcell hSw p4
        have s0' := keepcell hSw s0
        have s1' := keepcell hSw s1
        have s2' := keepcell hSw s2
        go_simp
        try (with_reducible rfl)
    try simp only [Act.put, List.setIfInBounds_toArray, List.set_cons_zero, List.set_cons_succ]
    refine wpE_take (i := 32) (oi := ⟨some 55, _, _, _, _, _⟩) (v := ?_) rfl (by decide +kernel) (by decide +kernel) (by decide +kernel) (fun _ _ _ h => h) (Or.inl ⟨by rfl, ?_⟩) hb2 ?_
    case refine_2 =>
        intro w' hSw
        have c0' := keepcell hSw c0
        have c1' := keepcell hSw c1
        have c2' := keepcell hSw c2
        have c3' := keepcell hSw c3
        have c4' := keepcell hSw c4
        have p0' := keepcell hSw p0
        have p1' := keepcell hSw p1
        have p2' := keepcell hSw p2
        have p3' := keepcell hSw p3
        have p4' := keepcell hSw p4
        have s0' := keepcell hSw s0
        have s1' := keepcell hSw s1
        have s2' := keepcell hSw s2
        go_simp
        try (with_reducible rfl)
    try simp only [Act.put, List.setIfInBounds_toArray, List.set_cons_zero, List.set_cons_succ]
    refine wpE_take (i := 33) (oi := ⟨some 56, _, _, _, _, _⟩) (v := ?_) rfl (by decide +kernel) (by decide +kernel) (by decide +kernel) (fun _ _ _ h => h) (Or.inl ⟨by rfl, ?_⟩) hb2 ?_
    case refine_2 =>
        intro w' hSw
        have c0' := keepcell hSw c0
        have c1' := keepcell hSw c1
        have c2' := keepcell hSw c2
        have c3' := keepcell hSw c3
        have c4' := keepcell hSw c4
        have p0' := keepcell hSw p0
        have p1' := keepcell hSw p1
        have p2' := keepcell hSw p2
        have p3' := keepcell hSw p3
        have p4' := keepcell hSw p4
        have s0' := keepcell hSw s0
        have s1' := keepcell hSw s1
        have s2' := keepcell hSw s2
        go_simp
        try (with_reducible rfl)
    try simp only [Act.put, List.setIfInBounds_toArray, List.set_cons_zero, List.set_cons_succ]
    refine wpE_take (i := 34) (oi := ⟨some 57, _, _, _, _, _⟩) (v := ?_) rfl (by decide +kernel) (by decide +kernel) (by decide +kernel) (fun _ _ _ h => h) (Or.inl ⟨by rfl, ?_⟩) hb2 ?_
    case refine_2 =>
        intro w' hSw
        have c0' := keepcell hSw c0
        have c1' := keepcell hSw c1
        have c2' := keepcell hSw c2
        have c3' := keepcell hSw c3
        have c4' := keepcell hSw c4
        have p0' := keepcell hSw p0
        have p1' := keepcell hSw p1
        have p2' := keepcell hSw p2
        have p3' := keepcell hSw p3
        have p4' := keepcell hSw p4
        have s0' := keepcell hSw s0
        have s1' := keepcell hSw s1
        have s2' := keepcell hSw s2
        go_simp
        try (with_reducible rfl)
    try simp only [Act.put, List.setIfInBounds_toArray, List.set_cons_zero, List.set_cons_succ]
    refine wpE_take (i := 35) (oi := ⟨some 58, _, _, _, _, _⟩) (v := ?_) rfl (by decide +kernel) (by decide +kernel) (by decide +kernel) (fun _ _ _ h => h) (Or.inl ⟨by rfl, ?_⟩) hb2 ?_
    case refine_2 =>
        intro w' hSw
        have c0' := keepcell hSw c0
        have c1' := keepcell hSw c1
        have c2' := keepcell hSw c2
        have c3' := keepcell hSw c3
        have c4' := keepcell hSw c4
        have p0' := keepcell hSw p0
        have p1' := keepcell hSw p1
        have p2' := keepcell hSw p2
        have p3' := keepcell hSw p3
        have p4' := keepcell hSw p4
        have s0' := keepcell hSw s0
        have s1' := keepcell hSw s1
        have s2' := keepcell hSw s2
        go_simp
        try (with_reducible rfl)
    try simp only [Act.put, List.setIfInBounds_toArray, List.set_cons_zero, List.set_cons_succ]
    have D3 := Lib.hid (lbig_any 1 z2 (by decide) (by decide))
    refine wpE_step (i := 36) (o := ⟨some 59, _, _, _, _, _⟩) rfl (by decide +kernel) (fun KK hKK => ?_)
    go_simp
    refine D3.out.mono ?_
    rintro e z3 ⟨⟨sb, Ab, nb, cb, zb⟩, rfl, rfl, hnb, hbn⟩
    have hb3 : Below W8.heap.size W8 z3 := hb2.trans (hbn.mono hb2.size)
    have HNB := Lib.hid hnb
    have HDVz := Lib.hid ((HDV.out.below hb2).below hbn)
    clear hnb
    clear hbn
    refine hKK.out _ _ hb3 ?_
    clear hKK KK
    try simp only [Act.put, List.setIfInBounds_toArray, List.set_cons_zero, List.set_cons_succ]
    unfold Bg.val
    dsimp only
    have D4 := Lib.hid (Same_nb HDVz.out (HNB.out.mono (Nat.zero_le _) (Nat.le_refl _)) (by decide))
    unfold Bg.val at D4
    dsimp only at D4
    refine wpE_step (i := 37) (o := ⟨some 60, _, _, _, _, _⟩) rfl (by decide +kernel) (fun KK hKK => ?_)
    go_simp
    refine D4.out.mono ?_
    rintro e z4 ⟨rfl, hbn⟩
    have hb4 : Below W8.heap.size W8 z4 := hb3.trans (hbn.mono hb3.size)
    clear hbn
    refine hKK.out _ _ hb4 ?_
    clear hKK KK
    try simp only [Act.put, List.setIfInBounds_toArray, List.set_cons_zero, List.set_cons_succ]
    refine wpE_take (i := 38) (oi := ⟨some 61, _, _, _, _, _⟩) (v := .bool false) rfl (by decide +kernel) (by decide +kernel) (by decide +kernel) (fun _ _ _ h => h) (Or.inl ⟨by rfl, ?_⟩) hb4 ?_
    case refine_1 =>
        intro w' hSw
        have c0' := keepcell hSw c0
        have c1' := keepcell hSw c1
        have c2' := keepcell hSw c2
        have c3' := keepcell hSw c3
        have c4' := keepcell hSw c4
        have p0' := keepcell hSw p0
        have p1' := keepcell hSw p1
        have p2' := keepcell hSw p2
        have p3' := keepcell hSw p3
        have p4' := keepcell hSw p4
        have s0' := keepcell hSw s0
        have s1' := keepcell hSw s1
        have s2' := keepcell hSw s2
        go_simp
        try (with_reducible rfl)
    try simp only [Act.put, List.setIfInBounds_toArray, List.set_cons_zero, List.set_cons_succ]
    refine wpE_take (i := 39) (oi := ⟨some 62, _, _, _, _, _⟩) (v := .bool false) rfl (by decide +kernel) (by decide +kernel) (by decide +kernel) (fun _ _ _ h => h) (Or.inl ⟨by rfl, ?_⟩) hb4 ?_
    case refine_1 =>
        intro w' hSw
        have c0' := keepcell hSw c0
        have c1' := keepcell hSw c1
        have c2' := keepcell hSw c2
        have c3' := keepcell hSw c3
        have c4' := keepcell hSw c4
        have p0' := keepcell hSw p0
        have p1' := keepcell hSw p1
        have p2' := keepcell hSw p2
        have p3' := keepcell hSw p3
        have p4' := keepcell hSw p4
        have s0' := keepcell hSw s0
        have s1' := keepcell hSw s1
        have s2' := keepcell hSw s2
        go_simp
        try (with_reducible rfl)
    try simp only [Act.put, List.setIfInBounds_toArray, List.set_cons_zero, List.set_cons_succ]
    refine wpE_take (i := 40) (oi := ⟨some 63, _, _, _, _, _⟩) (v := .bool false) rfl (by decide +kernel) (by decide +kernel) (by decide +kernel) (fun _ _ _ h => h) (Or.inl ⟨by rfl, ?_⟩) hb4 ?_
    case refine_1 =>
        intro w' hSw
        have c0' := keepcell hSw c0
        have c1' := keepcell hSw c1
        have c2' := keepcell hSw c2
        have c3' := keepcell hSw c3
        have c4' := keepcell hSw c4
        have p0' := keepcell hSw p0
        have p1' := keepcell hSw p1
        have p2' := keepcell hSw p2
        have p3' := keepcell hSw p3
        have p4' := keepcell hSw p4
        have s0' := keepcell hSw s0
        have s1' := keepcell hSw s1
        have s2' := keepcell hSw s2
        go_simp
        try (with_reducible rfl)
    try simp only [Act.put, List.setIfInBounds_toArray, List.set_cons_zero, List.set_cons_succ]
    refine wpE_take (i := 41) (oi := ⟨some 64, _, _, _, _, _⟩) (v := ?_) rfl (by decide +kernel) (by decide +kernel) (by decide +kernel) (fun _ _ _ h => h) (Or.inl ⟨by rfl, ?_⟩) hb4 ?_
    case refine_2 =>
        intro w' hSw
        have c0' := keepcell hSw c0
        have c1' := keepcell hSw c1
        have c2' := keepcell hSw c2
        have c3' := keepcell hSw c3
        have c4' := keepcell hSw c4
        have p0' := keepcell hSw p0
        have p1' := keepcell hSw p1
        have p2' := keepcell hSw p2
        have p3' := keepcell hSw p3
        have p4' := keepcell hSw p4
        have s0' := keepcell hSw s0
        have s1' := keepcell hSw s1
        have s2' := keepcell hSw s2
        go_simp
        try (with_reducible rfl)
    try simp only [Act.put, List.setIfInBounds_toArray, List.set_cons_zero, List.set_cons_succ]
    refine wpE_take (i := 42) (oi := ⟨some 65, _, _, _, _, _⟩) (v := ?_) rfl (by decide +kernel) (by decide +kernel) (by decide +kernel) (fun _ _ _ h => h) (Or.inl ⟨by rfl, ?_⟩) hb4 ?_
    case refine_2 =>
        intro w' hSw
        have c0' := keepcell hSw c0
        have c1' := keepcell hSw c1
        have c2' := keepcell hSw c2
        have c3' := keepcell hSw c3
        have c4' := keepcell hSw c4
        have p0' := keepcell hSw p0
        have p1' := keepcell hSw p1
        have p2' := keepcell hSw p2
        have p3' := keepcell hSw p3
        have p4' := keepcell hSw p4
        have s0' := keepcell hSw s0
        have s1' := keepcell hSw s1
        have s2' := keepcell hSw s2
        go_simp
        try (with_reducible rfl)
    try simp only [Act.put, List.setIfInBounds_toArray, List.set_cons_zero, List.set_cons_succ]
    refine wpE_take (i := 43) (oi := ⟨some 66, _, _, _, _, _⟩) (v := ?_) rfl (by decide +kernel) (by decide +kernel) (by decide +kernel) (fun _ _ _ h => h) (Or.inl ⟨by rfl, ?_⟩) hb4 ?_
    case refine_2 =>
        intro w' hSw
        have c0' := keepcell hSw c0
        have c1' := keepcell hSw c1
        have c2' := keepcell hSw c2
        have c3' := keepcell hSw c3
        have c4' := keepcell hSw c4
        have p0' := keepcell hSw p0
        have p1' := keepcell hSw p1
        have p2' := keepcell hSw p2
        have p3' := keepcell hSw p3
        have p4' := keepcell hSw p4
        have s0' := keepcell hSw s0
        have s1' := keepcell hSw s1
        have s2' := keepcell hSw s2
        go_simp
        try (with_reducible rfl)
    try simp only [Act.put, List.setIfInBounds_toArray, List.set_cons_zero, List.set_cons_succ]
    refine wpE_take (i := 44) (oi := ⟨some 67, _, _, _, _, _⟩) (v := ?_) rfl (by decide +kernel) (by decide +kernel) (by decide +kernel) (fun _ _ _ h => h) (Or.inl ⟨by rfl, ?_⟩) hb4 ?_
    case refine_2 =>
        intro w' hSw
        have c0' := keepcell hSw c0
        have c1' := keepcell hSw c1
        have c2' := keepcell hSw c2
        have c3' := keepcell hSw c3
        have c4' := keepcell hSw c4
        have p0' := keepcell hSw p0
        have p1' := keepcell hSw p1
        have p2' := keepcell hSw p2
        have p3' := keepcell hSw p3
        have p4' := keepcell hSw p4
        have s0' := keepcell hSw s0
        have s1' := keepcell hSw s1
        have s2' := keepcell hSw s2
        go_simp
        try (with_reducible rfl)
    try simp only [Act.put, List.setIfInBounds_toArray, List.set_cons_zero, List.set_cons_succ]
    refine wpE_take (i := 45) (oi := ⟨some 68, _, _, _, _, _⟩) (v := ?_) rfl (by decide +kernel) (by decide +kernel) (by decide +kernel) (fun _ _ _ h => h) (Or.inl ⟨by rfl, ?_⟩) hb4 ?_
    case refine_2 =>
        intro w' hSw
        have c0' := keepcell hSw c0
        have c1' := keepcell hSw c1
        have c2' := keepcell hSw c2
        have c3' := keepcell hSw c3
        have c4' := keepcell hSw c4
        have p0' := keepcell hSw p0
        have p1' := keepcell hSw p1
        have p2' := keepcell hSw p2
        have p3' := keepcell hSw p3
        have p4' := keepcell hSw p4
        have s0' := keepcell hSw s0
        have s1' := keepcell hSw s1
        have s2' := keepcell hSw s2
        go_simp
        try (with_reducible rfl)
    try simp only [Act.put, List.setIfInBounds_toArray, List.set_cons_zero, List.set_cons_succ]
    refine wpE_take (i := 46) (oi := ⟨some 69, _, _, _, _, _⟩) (v := ?_) rfl (by decide +kernel) (by decide +kernel) (by decide +kernel) (fun _ _ _ h => h) (Or.inl ⟨by rfl, ?_⟩) hb4 ?_
    case refine_2 =>
        intro w' hSw
        have c0' := keepcell hSw c0
        have c1' := keepcell hSw c1
        have c2' := keepcell hSw c2
        have c3' := keepcell hSw c3
        have c4' := keepcell hSw c4
        have p0' := keepcell hSw p0
        have p1' := keepcell hSw p1
        have p2' := keepcell hSw p2
        have p3' := keepcell hSw p3
        have p4' := keepcell hSw p4
        have s0' := keepcell hSw s0
        have s1' := keepcell hSw s1
        have s2' := keepcell hSw s2
        go_simp
        try (with_reducible rfl)
    try simp only [Act.put, List.setIfInBounds_toArray, List.set_cons_zero, List.set_cons_succ]
    refine wpE_take (i := 47) (oi := ⟨some 70, _, _, _, _, _⟩) (v := ?_) rfl (by decide +kernel) (by decide +kernel) (by decide +kernel) (fun _ _ _ h => h) (Or.inl ⟨by rfl, ?_⟩) hb4 ?_
    case refine_2 =>
        intro w' hSw
        have c0' := keepcell hSw c0
        have c1' := keepcell hSw c1
        have c2' := keepcell hSw c2
        have c3' := keepcell hSw c3
        have c4' := keepcell hSw c4
        have p0' := keepcell hSw p0
        have p1' := keepcell hSw p1
        have p2' := keepcell hSw p2
        have p3' := keepcell hSw p3
        have p4' := keepcell hSw p4
        have s0' := keepcell hSw s0
        have s1' := keepcell hSw s1
        have s2' := keepcell hSw s2
        go_simp
        try (with_reducible rfl)
    try simp only [Act.put, List.setIfInBounds_toArray, List.set_cons_zero, List.set_cons_succ]
    refine wpE_take (i := 48) (oi := ⟨some 71, _, _, _, _, _⟩) (v := ?_) rfl (by decide +kernel) (by decide +kernel) (by decide +kernel) (fun _ _ _ h => h) (Or.inl ⟨by rfl, ?_⟩) hb4 ?_
    case refine_2 =>
        intro w' hSw
        have c0' := keepcell hSw c0
        have c1' := keepcell hSw c1
        have c2' := keepcell hSw c2
        have c3' := keepcell hSw c3
        have c4' := keepcell hSw c4
        have p0' := keepcell hSw p0
        have p1' := keepcell hSw p1
        have p2' := keepcell hSw p2
        have p3' := keepcell hSw p3
        have p4' := keepcell hSw p4
        have s0' := keepcell hSw s0
        have s1' := keepcell hSw s1
        have s2' := keepcell hSw s2
        go_simp
        try (with_reducible rfl)
    try simp only [Act.put, List.setIfInBounds_toArray, List.set_cons_zero, List.set_cons_succ]
    refine wpE_take (i := 49) (oi := ⟨some 72, _, _, _, _, _⟩) (v := .bool false) rfl (by decide +kernel) (by decide +kernel) (by decide +kernel) (fun _ _ _ h => h) (Or.inl ⟨by rfl, ?_⟩) hb4 ?_
    case refine_1 =>
        intro w' hSw
        have c0' := keepcell hSw c0
        have c1' := keepcell hSw c1
        have c2' := keepcell hSw c2
        have c3' := keepcell hSw c3
        have c4' := keepcell hSw c4
        have p0' := keepcell hSw p0
        have p1' := keepcell hSw p1
        have p2' := keepcell hSw p2
        have p3' := keepcell hSw p3
        have p4' := keepcell hSw p4
        have s0' := keepcell hSw s0
        have s1' := keepcell hSw s1
        have s2' := keepcell hSw s2
        go_simp
        try (with_reducible rfl)
    try simp only [Act.put, List.setIfInBounds_toArray, List.set_cons_zero, List.set_cons_succ]
    refine wpE_take (i := 50) (oi := ⟨some 73, _, _, _, _, _⟩) (v := .bool false) rfl (by decide +kernel) (by decide +kernel) (by decide +kernel) (fun _ _ _ h => h) (Or.inl ⟨by rfl, ?_⟩) hb4 ?_
    case refine_1 =>
        intro w' hSw
        have c0' := keepcell hSw c0
        have c1' := keepcell hSw c1
        have c2' := keepcell hSw c2
        have c3' := keepcell hSw c3
        have c4' := keepcell hSw c4
        have p0' := keepcell hSw p0
        have p1' := keepcell hSw p1
        have p2' := keepcell hSw p2
        have p3' := keepcell hSw p3
        have p4' := keepcell hSw p4
        have s0' := keepcell hSw s0
        have s1' := keepcell hSw s1
        have s2' := keepcell hSw s2
        go_simp
        try (with_reducible rfl)
    try simp only [Act.put, List.setIfInBounds_toArray, List.set_cons_zero, List.set_cons_succ]
    refine wpE_done (by decide +kernel) ?_
    clear c0 c1 c2 c3 c4 p0 p1 p2 p3 p4 s0 s1 s2
    have HBz := Lib.hid (HB8.out.trans (hb4.mono HB8.out.size))
    have Kz := Lib.hid (K8.out.below hb4)
    have HSz := Lib.hid (show ∀ W, Below z4.heap.size z4 W → W.cell? ⟨g, 0, none⟩ = some (.slice vA n vc) from fun W hW => by
      have := (HSC.out W (hb4.trans (hW.mono hb4.size))).1
      rw [HLL.out] at this
      exact this)
    have HLU := Lib.hid (show Uses z4 vA n L 1048576 by have := HSA8.out.2.1.below hb4; rw [HLL.out] at this; exact this)
    have HUz := Lib.hid (HUS.out.below HBz.out)
    have pz : z4.cell? ⟨k8, 0, none⟩ = some (.slice (some ⟨g, 0, none⟩) 1 1) := Kz.out.cell 0
    have sz0 := HSz.out z4 (Below.refl _ _)
    clear hb0 hb1 hb2 hb3 hb4 C1 C2 D1 D2 D3 D4
    go_wp2
    clear pz sz0
    go_loopw [80] (fun s80 wr => ∃ k : Nat, s80 = .int .i64 (k : Int) ∧ k ≤ n ∧ Below z4.heap.size z4 wr) (fun s80 _ => n - (intOf s80).toNat)
    case atStart => exact ⟨0, rfl, Nat.zero_le _, Below.refl _ _⟩
    case round =>
      obtain ⟨k, rfl, hkn, hB⟩ := hrel
      generalize wr = V0 at *
      have HBV := Lib.hid hB
      clear hB
      by_cases hlt : k < n
      · have hki : (k : Int) < (n : Int) := by omega
        have hk0 : (0 : Int) ≤ (k : Int) := by omega
        have hkL : k < L.length := by rw [HLL.out]; exact hlt
        have hkU : k < U.length := by rw [HUL.out]; exact hlt
        obtain ⟨bA, off, rfl, -, hc⟩ := at3 (fun _ => rfl) HLU.out.1 (show 0 < n by omega)
        obtain ⟨bU, offU, rfl, -, hcu⟩ := at3 (fun _ => rfl) HUz.out.1 (show 0 < n by omega)
        obtain ⟨a0, a1, a2⟩ := hc V0 HBV.out k hkL _ _ _ rfl
        have HCU := Lib.hid (fun W hW => hcu W hW k hkU _ _ _ rfl)
        have HEZ := Lib.hid (HLZ.out k hkU hkL)
        have HO1 := Lib.hid (HLU.out.2.2 _ (List.getElem_mem hkL))
        have HO2 := Lib.hid (HUz.out.2.2 _ (List.getElem_mem hkU))
        clear hc hcu
        generalize L[k] = y at *
        generalize U[k] = x at *
        obtain ⟨V1, hV1⟩ : ∃ V1, V1 = V0.alloc (.cells #[.int .i64 y.i, .bool y.b.neg, .slice y.b.A y.b.n y.b.c] 62) := ⟨_, rfl⟩
        obtain ⟨ky, hky⟩ : ∃ ky, ky = V0.heap.size := ⟨_, rfl⟩
        have hbv : Below V0.heap.size V0 V1 := by rw [hV1]; exact (Below.refl _ _).alloc (Nat.le_refl _) _
        have HBV1 := Lib.hid (HBV.out.trans (hbv.mono HBV.out.size))
        have KY := Lib.hid (show Blk V1 ky 62 #[.int .i64 y.i, .bool y.b.neg, .slice y.b.A y.b.n y.b.c] by rw [hV1]; exact Blk.new_ hky rfl)
        clear hbv
        go_upto_region 9 with fail
        rw [← hky, ← hV1]
        clear hky hV1 a0 a1 a2
        have u0 : V1.cell? ⟨ky, 0, none⟩ = some (.int .i64 y.i) := KY.out.cell 0
        have u1 : V1.cell? ⟨ky, 1, none⟩ = some (.bool y.b.neg) := KY.out.cell 1
        have u2 : V1.cell? ⟨ky, 2, none⟩ = some (.slice y.b.A y.b.n y.b.c) := KY.out.cell 2
        obtain ⟨v0, v1, v2⟩ := HCU.out V1 HBV1.out
        rw [HEZ.out.1] at v0
        have hii : (y.i == y.i) = true := by simp
        have CC := Lib.hid (show ∀ W, Below V1.heap.size V1 W → Calls Try.prog 34 #[.agg #[.bool y.b.neg, .slice y.b.A y.b.n y.b.c], .agg #[.bool x.b.neg, .slice x.b.A x.b.n x.b.c]] W fun e w' => e = .returned (.int .i64 0) ∧ Below W.heap.size W w' from fun W hW => by
          have hz := HBV1.out.trans (hW.mono HBV1.out.size)
          have h := RCompare_any y.b.val x.b.val y.b.z x.b.z 1048576 W (HO1.out.below hz) (HO2.out.below hz) (by decide)
          rw [HEZ.out.2, cmp_self] at h
          exact h)
        have hvb0 : Below V1.heap.size V1 V1.drew := below_drew (Below.refl _ _)
        refine wp_region_mixE (fun w' => Below V1.heap.size V1 w') (by kernel_rfl) ?_
        generalize V1.drew = vz0 at hvb0 ⊢
        refine wpE_take (i := 0) (oi := ⟨some 85, _, _, _, _, _⟩) (v := ?_) rfl (by decide +kernel) (by decide +kernel) (by decide +kernel) (fun _ _ _ h => h) (Or.inl ⟨by rfl, ?_⟩) hvb0 ?_
        case refine_2 =>
            intro w' hSw
            have u0' := keepcell hSw u0
            have u1' := keepcell hSw u1
            have u2' := keepcell hSw u2
            have v0' := keepcell hSw v0
            have v1' := keepcell hSw v1
            have v2' := keepcell hSw v2
            go_simp
            try (with_reducible rfl)
        try simp only [Act.put, List.setIfInBounds_toArray, List.set_cons_zero, List.set_cons_succ]
        refine wpE_take (i := 1) (oi := ⟨some 86, _, _, _, _, _⟩) (v := ?_) rfl (by decide +kernel) (by decide +kernel) (by decide +kernel) (fun _ _ _ h => h) (Or.inl ⟨by rfl, ?_⟩) hvb0 ?_
        case refine_2 =>
            intro w' hSw
            have u0' := keepcell hSw u0
            have u1' := keepcell hSw u1
            have u2' := keepcell hSw u2
            have v0' := keepcell hSw v0
            have v1' := keepcell hSw v1
            have v2' := keepcell hSw v2
            go_simp
            try (with_reducible rfl)
        try simp only [Act.put, List.setIfInBounds_toArray, List.set_cons_zero, List.set_cons_succ]
        refine wpE_take (i := 2) (oi := ⟨some 87, _, _, _, _, _⟩) (v := ?_) rfl (by decide +kernel) (by decide +kernel) (by decide +kernel) (fun _ _ _ h => h) (Or.inl ⟨by rfl, ?_⟩) hvb0 ?_
        case refine_2 =>
            intro w' hSw
            have u0' := keepcell hSw u0
            have u1' := keepcell hSw u1
            have u2' := keepcell hSw u2
            have v0' := keepcell hSw v0
            have v1' := keepcell hSw v1
            have v2' := keepcell hSw v2
            go_simp
            try (with_reducible rfl)
        try simp only [Act.put, List.setIfInBounds_toArray, List.set_cons_zero, List.set_cons_succ]
        refine wpE_take (i := 3) (oi := ⟨some 88, _, _, _, _, _⟩) (v := ?_) rfl (by decide +kernel) (by decide +kernel) (by decide +kernel) (fun _ _ _ h => h) (Or.inl ⟨by rfl, ?_⟩) hvb0 ?_
        case refine_2 =>
            intro w' hSw
            have u0' := keepcell hSw u0
            have u1' := keepcell hSw u1
            have u2' := keepcell hSw u2
            have v0' := keepcell hSw v0
            have v1' := keepcell hSw v1
            have v2' := keepcell hSw v2
            go_simp
            try (with_reducible rfl)
        try simp only [Act.put, List.setIfInBounds_toArray, List.set_cons_zero, List.set_cons_succ]
        refine wpE_take (i := 4) (oi := ⟨some 89, _, _, _, _, _⟩) (v := ?_) rfl (by decide +kernel) (by decide +kernel) (by decide +kernel) (fun _ _ _ h => h) (Or.inl ⟨by rfl, ?_⟩) hvb0 ?_
        case refine_2 =>
            intro w' hSw
            have u0' := keepcell hSw u0
            have u1' := keepcell hSw u1
            have u2' := keepcell hSw u2
            have v0' := keepcell hSw v0
            have v1' := keepcell hSw v1
            have v2' := keepcell hSw v2
            go_simp
            try (with_reducible rfl)
        try simp only [Act.put, List.setIfInBounds_toArray, List.set_cons_zero, List.set_cons_succ]
        refine wpE_take (i := 5) (oi := ⟨some 90, _, _, _, _, _⟩) (v := ?_) rfl (by decide +kernel) (by decide +kernel) (by decide +kernel) (fun _ _ _ h => h) (Or.inl ⟨by rfl, ?_⟩) hvb0 ?_
        case refine_2 =>
            intro w' hSw
            have u0' := keepcell hSw u0
            have u1' := keepcell hSw u1
            have u2' := keepcell hSw u2
            have v0' := keepcell hSw v0
            have v1' := keepcell hSw v1
            have v2' := keepcell hSw v2
            go_simp
            try (with_reducible rfl)
        try simp only [Act.put, List.setIfInBounds_toArray, List.set_cons_zero, List.set_cons_succ]
        refine wpE_take (i := 6) (oi := ⟨some 91, _, _, _, _, _⟩) (v := ?_) rfl (by decide +kernel) (by decide +kernel) (by decide +kernel) (fun _ _ _ h => h) (Or.inl ⟨by rfl, ?_⟩) hvb0 ?_
        case refine_2 =>
            intro w' hSw
            have u0' := keepcell hSw u0
            have u1' := keepcell hSw u1
            have u2' := keepcell hSw u2
            have v0' := keepcell hSw v0
            have v1' := keepcell hSw v1
            have v2' := keepcell hSw v2
            go_simp
            try (with_reducible rfl)
        try simp only [Act.put, List.setIfInBounds_toArray, List.set_cons_zero, List.set_cons_succ]
        refine wpE_take (i := 7) (oi := ⟨some 92, _, _, _, _, _⟩) (v := .bool false) rfl (by decide +kernel) (by decide +kernel) (by decide +kernel) (fun _ _ _ h => h) (Or.inl ⟨by rfl, ?_⟩) hvb0 ?_
        case refine_1 =>
            intro w' hSw
            have u0' := keepcell hSw u0
            have u1' := keepcell hSw u1
            have u2' := keepcell hSw u2
            have v0' := keepcell hSw v0
            have v1' := keepcell hSw v1
            have v2' := keepcell hSw v2
            go_simp
            try (with_reducible rfl)
        try simp only [Act.put, List.setIfInBounds_toArray, List.set_cons_zero, List.set_cons_succ]
        refine wpE_take (i := 8) (oi := ⟨some 93, _, _, _, _, _⟩) (v := .bool false) rfl (by decide +kernel) (by decide +kernel) (by decide +kernel) (fun _ _ _ h => h) (Or.inl ⟨by rfl, ?_⟩) hvb0 ?_
        case refine_1 =>
            intro w' hSw
            have u0' := keepcell hSw u0
            have u1' := keepcell hSw u1
            have u2' := keepcell hSw u2
            have v0' := keepcell hSw v0
            have v1' := keepcell hSw v1
            have v2' := keepcell hSw v2
            go_simp
            try (with_reducible rfl)
        try simp only [Act.put, List.setIfInBounds_toArray, List.set_cons_zero, List.set_cons_succ]
        refine wpE_take (i := 9) (oi := ⟨some 94, _, _, _, _, _⟩) (v := ?_) rfl (by decide +kernel) (by decide +kernel) (by decide +kernel) (fun _ _ _ h => h) (Or.inl ⟨by rfl, ?_⟩) hvb0 ?_
        case refine_2 =>
            intro w' hSw
            have u0' := keepcell hSw u0
            have u1' := keepcell hSw u1
            have u2' := keepcell hSw u2
            have v0' := keepcell hSw v0
            have v1' := keepcell hSw v1
            have v2' := keepcell hSw v2
            go_simp
            try (with_reducible rfl)
        try simp only [Act.put, List.setIfInBounds_toArray, List.set_cons_zero, List.set_cons_succ]
        refine wpE_take (i := 10) (oi := ⟨some 95, _, _, _, _, _⟩) (v := ?_) rfl (by decide +kernel) (by decide +kernel) (by decide +kernel) (fun _ _ _ h => h) (Or.inl ⟨by rfl, ?_⟩) hvb0 ?_
        case refine_2 =>
            intro w' hSw
            have u0' := keepcell hSw u0
            have u1' := keepcell hSw u1
            have u2' := keepcell hSw u2
            have v0' := keepcell hSw v0
            have v1' := keepcell hSw v1
            have v2' := keepcell hSw v2
            go_simp
            try (with_reducible rfl)
        try simp only [Act.put, List.setIfInBounds_toArray, List.set_cons_zero, List.set_cons_succ]
        refine wpE_take (i := 11) (oi := ⟨some 96, _, _, _, _, _⟩) (v := ?_) rfl (by decide +kernel) (by decide +kernel) (by decide +kernel) (fun _ _ _ h => h) (Or.inl ⟨by rfl, ?_⟩) hvb0 ?_
        case refine_2 =>
            intro w' hSw
            have u0' := keepcell hSw u0
            have u1' := keepcell hSw u1
            have u2' := keepcell hSw u2
            have v0' := keepcell hSw v0
            have v1' := keepcell hSw v1
            have v2' := keepcell hSw v2
            go_simp
            try (with_reducible rfl)
        try simp only [Act.put, List.setIfInBounds_toArray, List.set_cons_zero, List.set_cons_succ]
        refine wpE_take (i := 12) (oi := ⟨some 97, _, _, _, _, _⟩) (v := ?_) rfl (by decide +kernel) (by decide +kernel) (by decide +kernel) (fun _ _ _ h => h) (Or.inl ⟨by rfl, ?_⟩) hvb0 ?_
        case refine_2 =>
            intro w' hSw
            have u0' := keepcell hSw u0
            have u1' := keepcell hSw u1
            have u2' := keepcell hSw u2
            have v0' := keepcell hSw v0
            have v1' := keepcell hSw v1
            have v2' := keepcell hSw v2
            go_simp
            try (with_reducible rfl)
        try simp only [Act.put, List.setIfInBounds_toArray, List.set_cons_zero, List.set_cons_succ]
        refine wpE_take (i := 13) (oi := ⟨some 98, _, _, _, _, _⟩) (v := ?_) rfl (by decide +kernel) (by decide +kernel) (by decide +kernel) (fun _ _ _ h => h) (Or.inl ⟨by rfl, ?_⟩) hvb0 ?_
        case refine_2 =>
            intro w' hSw
            have u0' := keepcell hSw u0
            have u1' := keepcell hSw u1
            have u2' := keepcell hSw u2
            have v0' := keepcell hSw v0
            have v1' := keepcell hSw v1
            have v2' := keepcell hSw v2
            go_simp
            try (with_reducible rfl)
        try simp only [Act.put, List.setIfInBounds_toArray, List.set_cons_zero, List.set_cons_succ]
        refine wpE_take (i := 14) (oi := ⟨some 99, _, _, _, _, _⟩) (v := ?_) rfl (by decide +kernel) (by decide +kernel) (by decide +kernel) (fun _ _ _ h => h) (Or.inl ⟨by rfl, ?_⟩) hvb0 ?_
        case refine_2 =>
            intro w' hSw
            have u0' := keepcell hSw u0
            have u1' := keepcell hSw u1
            have u2' := keepcell hSw u2
            have v0' := keepcell hSw v0
            have v1' := keepcell hSw v1
            have v2' := keepcell hSw v2
            go_simp
            try (with_reducible rfl)
        try simp only [Act.put, List.setIfInBounds_toArray, List.set_cons_zero, List.set_cons_succ]
        refine wpE_take (i := 15) (oi := ⟨some 100, _, _, _, _, _⟩) (v := ?_) rfl (by decide +kernel) (by decide +kernel) (by decide +kernel) (fun _ _ _ h => h) (Or.inl ⟨by rfl, ?_⟩) hvb0 ?_
        case refine_2 =>
            intro w' hSw
            have u0' := keepcell hSw u0
            have u1' := keepcell hSw u1
            have u2' := keepcell hSw u2
            have v0' := keepcell hSw v0
            have v1' := keepcell hSw v1
            have v2' := keepcell hSw v2
            go_simp
            try (with_reducible rfl)
        try simp only [Act.put, List.setIfInBounds_toArray, List.set_cons_zero, List.set_cons_succ]
        have D1 := Lib.hid (CC.out vz0 hvb0)
        refine wpE_step (i := 16) (o := ⟨some 101, _, _, _, _, _⟩) rfl (by decide +kernel) (fun KK hKK => ?_)
        go_simp
        refine D1.out.mono ?_
        rintro e vz1 ⟨rfl, hbn⟩
        have hvb1 : Below V1.heap.size V1 vz1 := hvb0.trans (hbn.mono hvb0.size)
        clear hbn
        refine hKK.out _ _ hvb1 ?_
        clear hKK KK
        try simp only [Act.put, List.setIfInBounds_toArray, List.set_cons_zero, List.set_cons_succ]
        refine wpE_take (i := 17) (oi := ⟨some 102, _, _, _, _, _⟩) (v := .bool false) rfl (by decide +kernel) (by decide +kernel) (by decide +kernel) (fun _ _ _ h => h) (Or.inl ⟨by rfl, ?_⟩) hvb1 ?_
        case refine_1 =>
            intro w' hSw
            have u0' := keepcell hSw u0
            have u1' := keepcell hSw u1
            have u2' := keepcell hSw u2
            have v0' := keepcell hSw v0
            have v1' := keepcell hSw v1
            have v2' := keepcell hSw v2
            go_simp
            try (with_reducible rfl)
        try simp only [Act.put, List.setIfInBounds_toArray, List.set_cons_zero, List.set_cons_succ]
        refine wpE_take (i := 18) (oi := ⟨some 103, _, _, _, _, _⟩) (v := .bool false) rfl (by decide +kernel) (by decide +kernel) (by decide +kernel) (fun _ _ _ h => h) (Or.inl ⟨by rfl, ?_⟩) hvb1 ?_
        case refine_1 =>
            intro w' hSw
            have u0' := keepcell hSw u0
            have u1' := keepcell hSw u1
            have u2' := keepcell hSw u2
            have v0' := keepcell hSw v0
            have v1' := keepcell hSw v1
            have v2' := keepcell hSw v2
            go_simp
            try (with_reducible rfl)
        try simp only [Act.put, List.setIfInBounds_toArray, List.set_cons_zero, List.set_cons_succ]
        refine wpE_done (by decide +kernel) ?_
        clear u0 u1 u2 v0 v1 v2
        have HBV2 := Lib.hid (HBV1.out.trans (hvb1.mono HBV1.out.size))
        clear hvb0 hvb1
        go_wp2
        go_roundw
        case rel => exact ⟨k + 1, by go_num, hlt, HBV2.out⟩
        case measure => simp [intOf]; omega
      · obtain rfl : k = n := by omega
        have hlt2 : ¬ ((k : Int) < (k : Int)) := by omega
        have HBF := Lib.hid (HBz.out.trans (HBV.out.mono HBz.out.size))
        go_wp2
        go_ret
        exact ⟨rfl, HBF.out⟩

set_option maxRecDepth 100000 in
theorem cutproofSize_lifted (os : Os) (started : os.Started) (H : Type) (enc : TypeId × Value → H) (F : Stop.Interp) :
    ReturnsInHanded {} Try.checked os 7 .any ((Rows.OpenSpec.upto Rows.cutproofSizeSpec).pre6 enc Try.prog Try.f7 Rows.cutproofSizeUptoRow.domain false) (((Rows.OpenSpec.upto Rows.cutproofSizeSpec).at F).post enc Try.prog Try.f7 false true false false) := by
  refine law_upto (C := Try.checked) (B := 4) F Try.own started (by kernel_rfl) Try.func7
    (OpenSpec.witness (enc := enc) (C := Try.checked) (s := Rows.OpenSpec.upto Rows.cutproofSizeSpec) (k := Rows.uptoSmall) rfl false ⟨#[], #[.agg #[.slice none 0 0, .slice none 0 0, .bool false, .slice none 0 0, .slice none 0 0], .slice none 0 0], []⟩ 8 (by kernel_rfl) (by kernel_rfl) (by kernel_rfl)
      (x := ([.agg [.nil, .nil, .agg [.lit (.bool false), .nil], .nil], .nil], [], [])) (by kernel_rfl) rfl (by kernel_rfl))
    Try.laidOut (by kernel_rfl) rfl rfl rfl Try.underlying4 (fun ds h => match ds, h with | [_, _], _ => rfl) ?_
  intro W base args ds ps hval hA hlt hsz hk
  rw [Try.params7] at hA hval hsz
  obtain ⟨v0, vs0, d0, ds0, p0, q0, hargs, rfl, rfl, h0, r0⟩ := trodAll_cons hA
  obtain ⟨v1, vs1, d1, ds1, p1, q1, rfl, rfl, rfl, h1, r1⟩ := trodAll_cons r0
  obtain ⟨rfl, rfl, rfl⟩ := trodAll_nil r1
  obtain rfl : args = #[v0, v1] := by cases args; simp_all
  obtain ⟨x0, rfl, k0⟩ := open_pf (hval 0 52 v0 rfl rfl) h0 (fun x hx => hlt x (by simp [hx])) hsz (j := 0) rfl rfl
  obtain ⟨A1, n1, c1, U1, rfl, k1⟩ := open_uses (hval 1 34 v1 rfl rfl) h1 (fun x hx => hlt x (by simp [hx])) hsz (j := 1) rfl rfl
  have u0 := Nat.le_trans (open_pf_bulk k0 h0) (bulk_bound hk (by simp))
  have u1 := fun u hu => Nat.le_trans (uses_bulk k1 h1 u hu) (bulk_bound hk (by simp))
  exact cutproofSize_walk x0 A1 n1 c1 U1 W k0 k1 u0 u1

theorem cutproofSize_over : Rows.cutproofSizeUptoRow.holds Try.pinned (Rows.OpenSpec.upto Rows.cutproofSizeSpec) :=
  OpenClaim.holds_of_cond 7 Try.f7 rfl rfl rfl rfl rfl rfl rfl ⟨rfl, rfl, rfl, rfl, rfl⟩ rfl rfl rfl rfl rfl (by kernel_rfl) Try.func7 (by kernel_rfl)
    (of_decide_eq_true (by kernel_rfl)) (by unfold Func.isWrapper; first | (rw [if_pos (by decide +kernel)]; kernel_rfl) | (rw [if_neg (by decide +kernel)]; exact ⟨rfl, rfl⟩))
    (fun os started H enc _ F => cutproofSize_lifted os started H enc F)

theorem cutproofSize_proved : Rows.CutproofSizeUptoSaid := cutproofSize_over
end Go.Proofs.Ythfolccofjaknaa
