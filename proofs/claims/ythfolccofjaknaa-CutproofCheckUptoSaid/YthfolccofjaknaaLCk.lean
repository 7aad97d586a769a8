/- Law CutproofCheck, where the arguments are of bulk at most 1048576: for every such input the call returns true, and its arguments read afterwards as before. -/
import Derived.Test.YthfolccofjaknaaCop
import Derived.Test.YthfolccofjaknaaCrk
import Derived.Test.YthfolccofjaknaaCup
namespace Go.Proofs.Ythfolccofjaknaa
open Go.ChangeShapes Go.WideShapes Go.ChangeAt Go.RowKit Go.ChangeMaps

set_option maxRecDepth 100000 in
set_option maxHeartbeats 4000000 in
theorem cutproofCheck_walk (A : Option Addr) (n c : Nat) (Q : List Iq) (p : Pf) (w : World) (k0 : Ineqs w A n Q NM) (_ : n ≤ c) (_ : c * 56 ≤ 140737488351232) (kP : PfR w NM p) (hbk : pfN p ≤ 1048576) :
    Calls Try.prog 5 #[.slice A n c, p.val] w fun e w' => e = .returned (.bool true) ∧ Below w.heap.size w w' := by
  obtain ⟨x0, x1, x2, x3, x4, hx⟩ : ∃ x0 x1 x2 x3 x4, p.cells = [x0, x1, x2, x3, x4] := by cases p; exact ⟨_, _, _, _, _, rfl⟩
  have hv : p.val = .agg #[x0, x1, x2, x3, x4] := by unfold Pf.val; rw [hx]
  have HV := Lib.hid hv
  have HP := Lib.hid kP
  have HBK := Lib.hid hbk
  rw [hv]
  clear kP hbk hx hv
  have HK := Lib.hid k0
  clear k0
  obtain ⟨kx, hkx⟩ : ∃ kx, kx = w.heap.size := ⟨_, rfl⟩
  obtain ⟨W1, hW1⟩ : ∃ W1, W1 = w.alloc (.cells #[x0, x1, x2, x3, x4] 52) := ⟨_, rfl⟩
  have HB1 := Lib.hid (show Below w.heap.size w W1 by rw [hW1]; exact (Below.refl _ _).alloc (Nat.le_refl _) _)
  have KX := Lib.hid (show Blk W1 kx 52 #[x0, x1, x2, x3, x4] by rw [hW1]; exact Blk.new_ hkx rfl)
  go_enter Try.func5, Try.ntmps5
  go_wp2_with fail
  rw [← hkx, ← hW1]
  clear hkx hW1
  refine (awake_any W1).mono ?_
  rintro e2 w2 ⟨rfl, hb2⟩
  have HB2 := Lib.hid (HB1.out.trans (hb2.mono HB1.out.size))
  have KX2 := Lib.hid (KX.out.below hb2)
  clear hb2 HB1 KX
  have CS := Lib.hid (Small_any w2 A n c Q NM (HK.out.below HB2.out))
  obtain ⟨sm, hsm⟩ : ∃ x, smQ Q = x := ⟨_, rfl⟩
  rw [hsm] at CS
  have HSM := Lib.hid hsm
  clear hsm
  go_wp2_with fail
  refine CS.out.mono ?_
  rintro e5 w5 ⟨rfl, hb5⟩
  have HB5 := Lib.hid (HB2.out.trans (hb5.mono HB2.out.size))
  have KX5 := Lib.hid (KX2.out.below hb5)
  clear hb5 CS HB2 KX2
  cases sm with
  | false =>
    go_wp2_with fail
    refine (awake_any _).mono ?_
    rintro e9 w9 ⟨rfl, hb9⟩
    have HB9 := Lib.hid (HB5.out.trans (hb9.mono HB5.out.size))
    clear hb9
    go_wp2
    go_ret
    exact ⟨rfl, HB9.out⟩
  | true =>
    have HLS := Lib.hid (HK.out.small HSM.out)
    have hn12 : n ≤ 12 := HLS.out.2.1
    clear HSM HK
    have c0 : w5.cell? ⟨kx, 0, none⟩ = some x0 := KX5.out.cell 0
    have c1 : w5.cell? ⟨kx, 1, none⟩ = some x1 := KX5.out.cell 1
    have c2 : w5.cell? ⟨kx, 2, none⟩ = some x2 := KX5.out.cell 2
    have c3 : w5.cell? ⟨kx, 3, none⟩ = some x3 := KX5.out.cell 3
    have c4 : w5.cell? ⟨kx, 4, none⟩ = some x4 := KX5.out.cell 4
    have CS := Lib.hid (SmallProof_any w5 p NM (HP.out.keep HB5.out) HBK.out)
    rw [HV.out] at CS
    go_wp2_with fail
    clear c0 c1 c2 c3 c4
    refine CS.out.mono ?_
    rintro e6 w6 ⟨st, rfl, hst, hb6⟩
    have HB6 := Lib.hid (HB5.out.trans (hb6.mono HB5.out.size))
    have KX6 := Lib.hid (KX5.out.below hb6)
    have HST := Lib.hid hst
    clear hb6 CS HB5 KX5 hst
    cases st with
    | false =>
      go_wp2_with fail
      refine (awake_any _).mono ?_
      rintro e9 w9 ⟨rfl, hb9⟩
      have HB9 := Lib.hid (HB6.out.trans (hb9.mono HB6.out.size))
      clear hb9
      go_wp2
      go_ret
      exact ⟨rfl, HB9.out⟩
    | true =>
      have HSM := Lib.hid (HST.out rfl)
      obtain ⟨r, hr⟩ : ∃ r, (sysM (Q.map Iq.m) && chk p.m (Q.map Iq.m)) = r := ⟨_, rfl⟩
      have C1 := Lib.hid (show ∀ W, Below w6.heap.size w6 W → Calls Try.prog 23 #[.slice A n c, .agg #[x0, x1, x2, x3, x4]] W fun e w' => e = .returned (.bool r) ∧ Below W.heap.size W w' from fun W hW => by
        have hz := HB6.out.trans (hW.mono HB6.out.size)
        have h := Check_any W A n c Q 4 4 p (HLS.out.1.below hz) ((HP.out.small HSM.out.1).keep hz) (fun q hq => by have := HLS.out.2.2 q hq; omega) (Nat.le_refl _) (by have := HSM.out.2; omega) (by have := HSM.out.2; omega)
        rw [HV.out, hr] at h
        exact h)
      have C2 := Lib.hid (show ∀ W, Below w6.heap.size w6 W → Calls Try.prog 24 #[.slice A n c, .agg #[x0, x1, x2, x3, x4]] W fun e w' => e = .returned (.bool r) ∧ Below W.heap.size W w' from fun W hW => by
        have hz := HB6.out.trans (hW.mono HB6.out.size)
        have h := RCheck_any W A n c Q 4 4 p (HLS.out.1.below hz) ((HP.out.small HSM.out.1).keep hz) (fun q hq => by have := HLS.out.2.2 q hq; omega) (Nat.le_refl _) (by have := HSM.out.2; omega) (by have := HSM.out.2; omega)
        rw [HV.out, hr] at h
        exact h)
      clear hr
      have hrr : (r == r) = true := by cases r <;> rfl
      go_upto_region 3 with fail
      have c0 : w6.cell? ⟨kx, 0, none⟩ = some x0 := KX6.out.cell 0
      have c1 : w6.cell? ⟨kx, 1, none⟩ = some x1 := KX6.out.cell 1
      have c2 : w6.cell? ⟨kx, 2, none⟩ = some x2 := KX6.out.cell 2
      have c3 : w6.cell? ⟨kx, 3, none⟩ = some x3 := KX6.out.cell 3
      have c4 : w6.cell? ⟨kx, 4, none⟩ = some x4 := KX6.out.cell 4
      have hb0 : Below w6.heap.size w6 w6.drew := below_drew (Below.refl _ _)
      refine wp_region_mixE (fun w' => Below w6.heap.size w6 w') (by kernel_rfl) ?_
      generalize w6.drew = z0 at hb0 ⊢
      refine wpE_take (i := 0) (oi := ⟨some 18, _, _, _, _, _⟩) (v := ?_) rfl (by decide +kernel) (by decide +kernel) (by decide +kernel) (fun _ _ _ h => h) (Or.inl ⟨by rfl, ?_⟩) hb0 ?_
      case refine_2 =>
          intro w' hSw
          have c0' := keepcell hSw c0
          have c1' := keepcell hSw c1
          have c2' := keepcell hSw c2
          have c3' := keepcell hSw c3
          have c4' := keepcell hSw c4
          go_simp
          try (with_reducible rfl)
      try simp only [Act.put, List.setIfInBounds_toArray, List.set_cons_zero, List.set_cons_succ]
      refine wpE_take (i := 1) (oi := ⟨some 19, _, _, _, _, _⟩) (v := ?_) rfl (by decide +kernel) (by decide +kernel) (by decide +kernel) (fun _ _ _ h => h) (Or.inl ⟨by rfl, ?_⟩) hb0 ?_
      case refine_2 =>
          intro w' hSw
          have c0' := keepcell hSw c0
          have c1' := keepcell hSw c1
          have c2' := keepcell hSw c2
          have c3' := keepcell hSw c3
          have c4' := keepcell hSw c4
          go_simp
          try (with_reducible rfl)
      try simp only [Act.put, List.setIfInBounds_toArray, List.set_cons_zero, List.set_cons_succ]
      refine wpE_take (i := 3) (oi := ⟨some 21, _, _, _, _, _⟩) (v := ?_) rfl (by decide +kernel) (by decide +kernel) (by decide +kernel) (fun _ _ _ h => h) (Or.inl ⟨by rfl, ?_⟩) hb0 ?_
      case refine_2 =>
          intro w' hSw
          have c0' := keepcell hSw c0
          have c1' := keepcell hSw c1
          have c2' := keepcell hSw c2
          have c3' := keepcell hSw c3
          have c4' := keepcell hSw c4
          go_simp
          try (with_reducible rfl)
      try simp only [Act.put, List.setIfInBounds_toArray, List.set_cons_zero, List.set_cons_succ]
      refine wpE_take (i := 4) (oi := ⟨some 22, _, _, _, _, _⟩) (v := ?_) rfl (by decide +kernel) (by decide +kernel) (by decide +kernel) (fun _ _ _ h => h) (Or.inl ⟨by rfl, ?_⟩) hb0 ?_
      case refine_2 =>
          intro w' hSw
          have c0' := keepcell hSw c0
          have c1' := keepcell hSw c1
          have c2' := keepcell hSw c2
          have c3' := keepcell hSw c3
          have c4' := keepcell hSw c4
          go_simp
          try (with_reducible rfl)
      try simp only [Act.put, List.setIfInBounds_toArray, List.set_cons_zero, List.set_cons_succ]
      have D1 := Lib.hid (C1.out z0 hb0)
      refine wpE_step (i := 2) (o := ⟨some 20, _, _, _, _, _⟩) rfl (by decide +kernel) (fun KK hKK => ?_)
      go_simp
      refine D1.out.mono ?_
      rintro e z1 ⟨rfl, hbn⟩
      have hb1 : Below w6.heap.size w6 z1 := hb0.trans (hbn.mono hb0.size)
      clear hbn
      refine hKK.out _ _ hb1 ?_
      clear hKK KK
      try simp only [Act.put, List.setIfInBounds_toArray, List.set_cons_zero, List.set_cons_succ]
      have D2 := Lib.hid (C2.out z1 hb1)
      refine wpE_step (i := 5) (o := ⟨some 23, _, _, _, _, _⟩) rfl (by decide +kernel) (fun KK hKK => ?_)
      go_simp
      refine D2.out.mono ?_
      rintro e z2 ⟨rfl, hbn⟩
      have hb2 : Below w6.heap.size w6 z2 := hb1.trans (hbn.mono hb1.size)
      clear hbn
      refine hKK.out _ _ hb2 ?_
      clear hKK KK
      try simp only [Act.put, List.setIfInBounds_toArray, List.set_cons_zero, List.set_cons_succ]
      refine wpE_take (i := 6) (oi := ⟨some 24, _, _, _, _, _⟩) (v := .bool true) rfl (by decide +kernel) (by decide +kernel) (by decide +kernel) (fun _ _ _ h => h) (Or.inl ⟨by rfl, ?_⟩) hb2 ?_
      case refine_1 =>
          intro w' hSw
          have c0' := keepcell hSw c0
          have c1' := keepcell hSw c1
          have c2' := keepcell hSw c2
          have c3' := keepcell hSw c3
          have c4' := keepcell hSw c4
          go_simp
          try (with_reducible rfl)
      try simp only [Act.put, List.setIfInBounds_toArray, List.set_cons_zero, List.set_cons_succ]
      refine wpE_take (i := 7) (oi := ⟨some 4, _, _, _, _, _⟩) (v := .bool true) rfl (by decide +kernel) (by decide +kernel) (by decide +kernel) (fun _ _ _ h => h) (Or.inl ⟨by rfl, ?_⟩) hb2 ?_
      case refine_1 =>
          intro w' hSw
          have c0' := keepcell hSw c0
          have c1' := keepcell hSw c1
          have c2' := keepcell hSw c2
          have c3' := keepcell hSw c3
          have c4' := keepcell hSw c4
          go_simp
          try (with_reducible rfl)
      try simp only [Act.put, List.setIfInBounds_toArray, List.set_cons_zero, List.set_cons_succ]
      refine wpE_done (by decide +kernel) ?_
      clear c0 c1 c2 c3 c4
      have HB7 := Lib.hid (HB6.out.trans (hb2.mono HB6.out.size))
      go_wp2
      go_ret
      exact ⟨rfl, HB7.out⟩

set_option maxRecDepth 100000 in
theorem cutproofCheck_lifted (os : Os) (started : os.Started) (H : Type) (enc : TypeId × Value → H) (F : Stop.Interp) :
    ReturnsInHanded {} Try.checked os 5 .any ((Rows.OpenSpec.upto Rows.cutproofCheckSpec).pre6 enc Try.prog Try.f5 Rows.cutproofCheckUptoRow.domain false) (((Rows.OpenSpec.upto Rows.cutproofCheckSpec).at F).post enc Try.prog Try.f5 false true false false) := by
  refine law_upto (C := Try.checked) (B := 4) F Try.own started (by kernel_rfl) Try.func5
    (OpenSpec.witness (enc := enc) (C := Try.checked) (s := Rows.OpenSpec.upto Rows.cutproofCheckSpec) (k := Rows.uptoSmall) rfl false ⟨#[], #[.slice none 0 0, .agg #[.slice none 0 0, .slice none 0 0, .bool false, .slice none 0 0, .slice none 0 0]], []⟩ 8 (by kernel_rfl) (by kernel_rfl) (by kernel_rfl)
      (x := ([.nil, .agg [.nil, .nil, .agg [.lit (.bool false), .nil], .nil]], [], [])) (by kernel_rfl) rfl (by kernel_rfl))
    Try.laidOut (by kernel_rfl) rfl rfl rfl Try.underlying4 (fun ds h => match ds, h with | [_, _], _ => rfl) ?_
  intro W base args ds ps hval hA hlt hsz hk
  rw [Try.params5] at hA hval hsz
  obtain ⟨v0, vs0, d0, ds0, p0, q0, hargs, rfl, rfl, h0, r0⟩ := trodAll_cons hA
  obtain ⟨v1, vs1, d1, ds1, p1, q1, rfl, rfl, rfl, h1, r1⟩ := trodAll_cons r0
  obtain ⟨rfl, rfl, rfl⟩ := trodAll_nil r1
  obtain rfl : args = #[v0, v1] := by cases args; simp_all
  obtain ⟨A0, n0, c0, Q0, rfl, k0, l0, g0⟩ := open_iqs (hval 0 30 v0 rfl rfl) h0 (fun x hx => hlt x (by simp [hx])) hsz (j := 0) rfl rfl
  obtain ⟨x1, rfl, k1⟩ := open_pf (hval 1 52 v1 rfl rfl) h1 (fun x hx => hlt x (by simp [hx])) hsz (j := 1) rfl rfl
  have u1 := Nat.le_trans (open_pf_bulk k1 h1) (bulk_bound hk (by simp))
  exact cutproofCheck_walk A0 n0 c0 Q0 x1 W k0 l0 g0 k1 u1

theorem cutproofCheck_over : Rows.cutproofCheckUptoRow.holds Try.pinned (Rows.OpenSpec.upto Rows.cutproofCheckSpec) :=
  OpenClaim.holds_of_cond 5 Try.f5 rfl rfl rfl rfl rfl rfl rfl ⟨rfl, rfl, rfl, rfl, rfl⟩ rfl rfl rfl rfl rfl (by kernel_rfl) Try.func5 (by kernel_rfl)
    (of_decide_eq_true (by kernel_rfl)) (by unfold Func.isWrapper; first | (rw [if_pos (by decide +kernel)]; kernel_rfl) | (rw [if_neg (by decide +kernel)]; exact ⟨rfl, rfl⟩))
    (fun os started H enc _ F => cutproofCheck_lifted os started H enc F)

theorem cutproofCheck_proved : Rows.CutproofCheckUptoSaid := cutproofCheck_over
end Go.Proofs.Ythfolccofjaknaa
