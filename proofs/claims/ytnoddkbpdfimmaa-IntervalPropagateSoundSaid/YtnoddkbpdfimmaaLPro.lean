/- Law IntervalPropagate: for every input the call returns true, and its arguments read afterwards as before. -/
import Derived.Test.YtnoddkbpdfimmaaIva
import Derived.Test.YtnoddkbpdfimmaaIvrp
import Derived.Test.YtnoddkbpdfimmaaIvx
import Derived.Test.YtnoddkbpdfimmaaOpn3
import Derived.Test.YtnoddkbpdfimmaaIvgd
namespace Go.Proofs.Ytnoddkbpdfimmaa
open Go.ChangeShapes Go.WideShapes Go.ChangeAt Go.RowKit Go.ChangeMaps

theorem cns_below {w W : World} {A : Option Addr} {n : Nat} {Cs : List Cn} (h : Cns w A n Cs) (hb : Below w.heap.size w W) : Cns W A n Cs := ⟨At.below h.1 hb, fun x hx => (h.2 x hx).below hb⟩
theorem ivs_nil (W : World) : Ivs W none 0 [] := ⟨rfl, fun h => absurd h (by omega)⟩
theorem prp_parts {w W : World} {e : Ending} {res : Option (List Iv)} (h : PrP w W e res) : ∃ A c, e = .returned (.tuple #[.slice A (res.getD []).length c, .bool res.isSome]) ∧ Ivs W A (res.getD []).length (res.getD []) := by
  rcases res with _ | R
  · exact ⟨none, 0, h, ivs_nil W⟩
  · obtain ⟨v, e, ho⟩ := h
    obtain ⟨A, c, ev, hI, -, -⟩ := ho.ivs
    subst ev
    exact ⟨A, c, e, hI⟩
theorem prr_parts {w W : World} {e : Ending} {res : Option (List Iv)} (h : PrR w W e res) : ∃ A c, e = .returned (.tuple #[.slice A (res.getD []).length c, .bool res.isSome]) ∧ Ivs W A (res.getD []).length (res.getD []) := by
  rcases res with _ | R
  · exact ⟨none, 0, h, ivs_nil W⟩
  · obtain ⟨v, e, ho⟩ := h
    obtain ⟨A, c, ev, hI, -, -⟩ := ho.ivs
    subst ev
    exact ⟨A, c, e, hI⟩
theorem prop_len {Cs : List Cn} {R : List Iv} (h : R.length ≤ 64) : ((propM Cs R).getD []).length ≤ 64 := by
  rcases hp : propM Cs R with _ | R'
  · simp
  · have := (propM_sub hp).1.1
    simp only [Option.getD_some]
    omega
set_option maxRecDepth 100000 in
set_option maxHeartbeats 2000000 in
theorem intervalPropagate_walk (A : Option Addr) (n cap : Nat) (Cs : List Cn) (D : Option Addr) (m cap2 : Nat) (R : List Iv) (w : World) (k0 : Cns w A n Cs) (l0 : n ≤ 9223372036854775807) (f0 : ∀ x ∈ Cs, x.n ≤ x.cap ∧ x.cap ≤ 9223372036854775807) (g0 : Ivs w D m R) (u0 : m ≤ 9223372036854775807) (o0 : ∀ x ∈ R, x.in) : Calls Try.prog 8 #[.agg #[.slice A n cap, .slice D m cap2]] w fun e w' => e = .returned (.bool true) ∧ Below w.heap.size w w' := by
  have HOK := Lib.hid (show ∀ x ∈ R, x.ok from fun x hx => o0 x hx)
  have HCP := Lib.hid f0
  have HRN := Lib.hid g0.len
  obtain ⟨W0, hW0⟩ : ∃ W, W = w.alloc (.cells #[.slice A n cap, .slice D m cap2] 45) := ⟨_, rfl⟩
  have hb : Below w.heap.size w W0 := by rw [hW0]; exact (Below.refl _ w).alloc (Nat.le_refl _) _
  have K2 := Lib.hid (show Blk W0 w.heap.size 45 #[.slice A n cap, .slice D m cap2] by rw [hW0]; exact Blk.new _ _ _)
  have HC := Lib.hid (cns_below k0 hb)
  have HD := Lib.hid (g0.below hb)
  have HB := Lib.hid hb
  clear k0 g0 o0 f0 hb
  go_enter Try.func8, Try.ntmps8
  go_upto_region 1 with fail
  rw [← hW0]
  clear hW0
  go_wp2_with fail
  refine (awake_any W0).mono ?_
  rintro e w1 ⟨rfl, hb⟩
  replace K2 := Lib.hid (K2.out.below hb)
  replace HD := Lib.hid (HD.out.below hb)
  replace HC := Lib.hid (cns_below HC.out hb)
  replace HB := Lib.hid (HB.out.trans (hb.mono HB.out.size))
  clear hb
  have e0 : w1.cell? ⟨w.heap.size, 0, none⟩ = some (.slice A n cap) := K2.out.cell 0
  have e1 : w1.cell? ⟨w.heap.size, 1, none⟩ = some (.slice D m cap2) := K2.out.cell 1
  have GD := Lib.hid (good_any A n cap Cs D m cap2 R w1 HC.out HD.out)
  go_wp2_with fail
  clear e0 e1
  refine GD.out.mono ?_
  rintro e X ⟨⟨g, rfl, hg⟩, hb⟩
  have HG := Lib.hid hg
  replace K2 := Lib.hid (K2.out.below hb)
  replace HD := Lib.hid (HD.out.below hb)
  replace HC := Lib.hid (cns_below HC.out hb)
  replace HB := Lib.hid (HB.out.trans (hb.mono HB.out.size))
  clear hb
  clear GD hg
  cases g
  · clear HG
    go_wp2
    go_ret
    exact ⟨rfl, HB.out⟩
  · obtain ⟨hn20, hm64, hRb, hcn⟩ := HG.out rfl
    have HLEN := Lib.hid (prop_len (Cs := Cs) hm64)
    rw [HRN.out] at hm64 hcn
    have HCN := Lib.hid hcn
    have HRB := Lib.hid hRb
    clear hcn hRb HG
    obtain ⟨res, hres⟩ : ∃ z, propM Cs R = z := ⟨_, rfl⟩
    have HRES := Lib.hid hres
    rw [hres] at HLEN
    have TO := Lib.hid (fun W (hW : Below X.heap.size X W) => to_any D m cap2 R W (HD.out.below hW) (by omega))
    have PRO := Lib.hid (fun W A2 c2 (hW : Below X.heap.size X W) (hI : Ivs W A2 R.length R) => show Calls Try.prog 27 #[.slice A n cap, .slice A2 R.length c2] W fun e w' => PrP W w' e res ∧ Below W.heap.size W w' by
      rw [← hres]
      exact Propagate_any A n cap Cs A2 R.length c2 R W (cns_below HC.out hW) hI (by omega) (by rw [HRN.out]; exact hm64) (by rw [HRN.out]; exact HCN.out) HRB.out)
    clear hres
    have e0 : X.cell? ⟨w.heap.size, 0, none⟩ = some (.slice A n cap) := K2.out.cell 0
    have e1 : X.cell? ⟨w.heap.size, 1, none⟩ = some (.slice D m cap2) := K2.out.cell 1
    go_upto_region 5 with fail
    have hy : Below X.heap.size X X.drew := below_drew (Below.refl _ _)
    refine wp_region_mix 10 (fun w' => Below X.heap.size X w') (by kernel_rfl) (by decide) ?_
    generalize X.drew = y0 at hy ⊢
    refine wpM_take (i := 0) (oi := ⟨some 13, _, _, _, _, _⟩) (v := ?_) rfl (by decide +kernel) (by decide +kernel) (by decide +kernel) (fun _ _ _ h => h) (Or.inl ⟨by rfl, ?_⟩) hy ?_
    case refine_2 =>
      intro w' hSw
      have e0' := keepcell hSw e0
      have e1' := keepcell hSw e1
      go_simp
      try (with_reducible rfl)
    try simp only [Act.put, List.setIfInBounds_toArray, List.set_cons_zero, List.set_cons_succ]
    refine wpM_take (i := 1) (oi := ⟨some 14, _, _, _, _, _⟩) (v := ?_) rfl (by decide +kernel) (by decide +kernel) (by decide +kernel) (fun _ _ _ h => h) (Or.inl ⟨by rfl, ?_⟩) hy ?_
    case refine_2 =>
      intro w' hSw
      have e0' := keepcell hSw e0
      have e1' := keepcell hSw e1
      go_simp
      try (with_reducible rfl)
    try simp only [Act.put, List.setIfInBounds_toArray, List.set_cons_zero, List.set_cons_succ]
    refine wpM_take (i := 2) (oi := ⟨some 15, _, _, _, _, _⟩) (v := ?_) rfl (by decide +kernel) (by decide +kernel) (by decide +kernel) (fun _ _ _ h => h) (Or.inl ⟨by rfl, ?_⟩) hy ?_
    case refine_2 =>
      intro w' hSw
      have e0' := keepcell hSw e0
      have e1' := keepcell hSw e1
      go_simp
      try (with_reducible rfl)
    try simp only [Act.put, List.setIfInBounds_toArray, List.set_cons_zero, List.set_cons_succ]
    refine wpM_take (i := 3) (oi := ⟨some 16, _, _, _, _, _⟩) (v := ?_) rfl (by decide +kernel) (by decide +kernel) (by decide +kernel) (fun _ _ _ h => h) (Or.inl ⟨by rfl, ?_⟩) hy ?_
    case refine_2 =>
      intro w' hSw
      have e0' := keepcell hSw e0
      have e1' := keepcell hSw e1
      go_simp
      try (with_reducible rfl)
    try simp only [Act.put, List.setIfInBounds_toArray, List.set_cons_zero, List.set_cons_succ]
    refine wpM_step (i := 4) (o := ⟨some 17, _, _, _, _, _⟩) rfl (by decide +kernel) (by decide) (fun K hK => ?_)
    go_simp
    refine (TO.out y0 hy).mono ?_
    rintro e y1 ⟨v2, rfl, ho, hb⟩
    have hy1 : Below X.heap.size X y1 := hy.trans (hb.mono hy.size)
    obtain ⟨A2, c2', ev2, I2, -, -⟩ := ho.ivs
    have HI2 := Lib.hid I2
    subst ev2
    refine hK.out _ _ hy1 ?_
    clear hK K ho hb I2
    try simp only [Act.put, List.setIfInBounds_toArray, List.set_cons_zero, List.set_cons_succ]
    refine wpM_step (i := 5) (o := ⟨some 18, _, _, _, _, _⟩) rfl (by decide +kernel) (by decide) (fun K hK => ?_)
    go_simp
    refine (PRO.out y1 A2 c2' hy1 HI2.out).mono ?_
    rintro e y2 ⟨hp, hb⟩
    obtain ⟨A3, c3, rfl, hI3⟩ := prp_parts hp
    have HI3 := Lib.hid hI3
    have hy2 : Below X.heap.size X y2 := hy1.trans (hb.mono hy1.size)
    obtain ⟨okb, hok⟩ : ∃ z, res.isSome = z := ⟨_, rfl⟩
    have HOKB := Lib.hid hok
    obtain ⟨RR, hRR⟩ : ∃ z, res.getD [] = z := ⟨_, rfl⟩
    have HRR := Lib.hid hRR
    rw [hok, hRR]
    rw [hRR] at HI3
    obtain ⟨q, hq⟩ : ∃ z, RR.length = z := ⟨_, rfl⟩
    have HQ := Lib.hid hq
    rw [hq] at HI3 ⊢
    refine hK.out _ _ hy2 ?_
    clear hK K hp hb hI3 hq hok hRR
    try simp only [Act.put, List.setIfInBounds_toArray, List.set_cons_zero, List.set_cons_succ]
    refine wpM_take (i := 6) (oi := ⟨some 12, _, _, _, _, _⟩) (v := ?_) rfl (by decide +kernel) (by decide +kernel) (by decide +kernel) (fun _ _ _ h => h) (Or.inl ⟨by rfl, ?_⟩) hy2 ?_
    case refine_2 =>
      intro w' hSw
      have e0' := keepcell hSw e0
      have e1' := keepcell hSw e1
      go_simp
      try (with_reducible rfl)
    try simp only [Act.put, List.setIfInBounds_toArray, List.set_cons_zero, List.set_cons_succ]
    refine wpM_take (i := 7) (oi := ⟨some 19, _, _, _, _, _⟩) (v := ?_) rfl (by decide +kernel) (by decide +kernel) (by decide +kernel) (fun _ _ _ h => h) (Or.inl ⟨by rfl, ?_⟩) hy2 ?_
    case refine_2 =>
      intro w' hSw
      have e0' := keepcell hSw e0
      have e1' := keepcell hSw e1
      go_simp
      try (with_reducible rfl)
    try simp only [Act.put, List.setIfInBounds_toArray, List.set_cons_zero, List.set_cons_succ]
    refine wpM_take (i := 8) (oi := ⟨some 20, _, _, _, _, _⟩) (v := ?_) rfl (by decide +kernel) (by decide +kernel) (by decide +kernel) (fun _ _ _ h => h) (Or.inl ⟨by rfl, ?_⟩) hy2 ?_
    case refine_2 =>
      intro w' hSw
      have e0' := keepcell hSw e0
      have e1' := keepcell hSw e1
      go_simp
      try (with_reducible rfl)
    try simp only [Act.put, List.setIfInBounds_toArray, List.set_cons_zero, List.set_cons_succ]
    refine wpM_take (i := 9) (oi := ⟨some 3, _, _, _, _, _⟩) (v := ?_) rfl (by decide +kernel) (by decide +kernel) (by decide +kernel) (fun _ _ _ h => h) (Or.inl ⟨by rfl, ?_⟩) hy2 ?_
    case refine_2 =>
      intro w' hSw
      have e0' := keepcell hSw e0
      have e1' := keepcell hSw e1
      go_simp
      try (with_reducible rfl)
    try simp only [Act.put, List.setIfInBounds_toArray, List.set_cons_zero, List.set_cons_succ]
    refine wpM_done (by decide +kernel) ?_
    simp only [List.drop_succ_cons, List.drop_zero]
    have HS2 := Lib.hid hy2
    have hb := hy2
    replace K2 := Lib.hid (K2.out.below hb)
    replace HD := Lib.hid (HD.out.below hb)
    replace HC := Lib.hid (cns_below HC.out hb)
    replace HB := Lib.hid (HB.out.trans (hb.mono HB.out.size))
    clear hb
    clear e0 e1 hy hy1 hy2 TO PRO HI2
    have hq64 : q ≤ 64 := by rw [← HQ.out, ← HRR.out]; exact HLEN.out
    have RP := Lib.hid (show Calls Try.prog 28 #[.slice A n cap, .slice D m cap2] y2 fun e w' => PrR y2 w' e res ∧ Below y2.heap.size y2 w' by
      rw [← HRES.out]
      exact RPropagate_any A n cap Cs D m cap2 R y2 HC.out HD.out (by omega) hm64 HCN.out HCP.out HRB.out)
    have e0 : y2.cell? ⟨w.heap.size, 0, none⟩ = some (.slice A n cap) := K2.out.cell 0
    have e1 : y2.cell? ⟨w.heap.size, 1, none⟩ = some (.slice D m cap2) := K2.out.cell 1
    go_wp2_with fail
    refine RP.out.mono ?_
    rintro e y3 ⟨hp, hb⟩
    obtain ⟨A5, c5, rfl, hI5⟩ := prr_parts hp
    rw [HOKB.out, HRR.out, HQ.out]
    rw [HRR.out, HQ.out] at hI5
    have HI5 := Lib.hid hI5
    replace HI3 := Lib.hid (HI3.out.below hb)
    replace HB := Lib.hid (HB.out.trans (hb.mono HB.out.size))
    clear hb
    clear hp hI5 RP e0 e1
    have OF := Lib.hid (of_any A3 q c3 RR y3 HI3.out (by omega))
    go_wp2_with fail
    refine OF.out.mono ?_
    rintro e y4 ⟨v6, rfl, ho, hb⟩
    obtain ⟨A6, c6, ev, I6, -, -⟩ := ho.ivs
    rw [HQ.out] at ev I6
    subst ev
    have SM := Lib.hid (RSame_eq A6 A5 q q c6 c5 RR RR y4 I6 (HI5.out.below hb) (by omega) rfl)
    replace HB := Lib.hid (HB.out.trans (hb.mono HB.out.size))
    clear hb
    clear ho I6 OF
    go_wp2_with fail
    refine SM.out.mono ?_
    rintro e y5 ⟨rfl, hb⟩
    replace HB := Lib.hid (HB.out.trans (hb.mono HB.out.size))
    clear hb
    go_wp2
    go_ret
    exact ⟨by simp, HB.out⟩

set_option maxRecDepth 100000 in
theorem intervalPropagate_lifted (os : Os) (started : os.Started) (H : Type) (enc : TypeId × Value → H) :
    ReturnsInHanded {} Try.checked os 8 .any (Rows.intervalPropagateSpec.pre6 enc Try.prog Try.f8 Rows.intervalPropagateRow.domain false) (Rows.intervalPropagateSpec.post enc Try.prog Try.f8 false true false false) := by
  refine law_lifted (C := Try.checked) (B := 4) Try.own started (by kernel_rfl) Try.func8
    (ChangeSpec.witness6 (enc := enc) (C := Try.checked) false ⟨#[], #[.agg #[.slice none 0 0, .slice none 0 0]], []⟩ 8 (by kernel_rfl) (by kernel_rfl) (by kernel_rfl) (by kernel_rfl))
    Try.laidOut (by kernel_rfl) rfl rfl rfl Try.underlying4 (fun ds h => match ds, h with | [_], _ => rfl) ?_
  intro W base args ds ps hval hA hlt hsz
  rw [Try.params8] at hA hval hsz
  obtain ⟨v0, vs0, d0, ds0, p0, q0, hargs, rfl, rfl, h0, r0⟩ := trodAll_cons hA
  obtain ⟨rfl, rfl, rfl⟩ := trodAll_nil r0
  obtain rfl : args = #[v0] := by cases args; simp_all
  obtain ⟨A0, n0, c0, R0, D0, m0, e0, T0, rfl, k0, l0, f0, g0, u0, o0⟩ := open_prob (hval 0 45 v0 rfl rfl) h0 (fun x hx => hlt x (by simp [hx])) hsz (j := 0) rfl rfl
  exact intervalPropagate_walk A0 n0 c0 R0 D0 m0 e0 T0 W k0 l0 f0 g0 u0 o0

theorem intervalPropagate_over : Rows.intervalPropagateRow.holds Try.pinned (OpenSpec.ofChange Rows.intervalPropagateSpec) :=
  OpenClaim.holds_of_wide 8 Try.f8 rfl rfl rfl rfl rfl rfl rfl ⟨rfl, rfl, rfl, rfl, rfl⟩ rfl rfl rfl rfl rfl (by kernel_rfl) Try.func8 (by kernel_rfl)
    (of_decide_eq_true (by kernel_rfl)) (by unfold Func.isWrapper; first | (rw [if_pos (by decide +kernel)]; kernel_rfl) | (rw [if_neg (by decide +kernel)]; exact ⟨rfl, rfl⟩))
    (fun os started H enc _ => intervalPropagate_lifted os started H enc)

theorem intervalPropagate_proved : Rows.IntervalPropagateSaid := intervalPropagate_over
end Go.Proofs.Ytnoddkbpdfimmaa
