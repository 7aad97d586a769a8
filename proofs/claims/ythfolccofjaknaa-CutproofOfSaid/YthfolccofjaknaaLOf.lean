/- Law CutproofOf: for every input the call returns true, and its arguments read afterwards as before. -/
import Derived.Test.YthfolccofjaknaaCoq
import Derived.Test.YthfolccofjaknaaCsy
import Derived.Test.YthfolccofjaknaaMA
namespace Go.Proofs.Ythfolccofjaknaa
open Go.ChangeShapes Go.WideShapes Go.ChangeAt Go.RowKit Go.ChangeMaps

theorem ofAll_len (m : Int) : ∀ Q : List Ct, (Q.flatMap (fun x => ofM x m.toNat)).length ≤ 2 * Q.length
  | [] => Nat.le_refl _
  | x :: Q => by
    have h1 := ofM_len x m.toNat
    have h2 := ofAll_len m Q
    rw [List.flatMap_cons, List.length_append, List.length_cons]
    omega
theorem SyZ_len (Q : List Ct) (m : Int) : (SyZ Q m).length ≤ 2 * Q.length := by
  unfold SyZ
  split
  · exact ofAll_len m Q
  · exact Nat.zero_le _
/-- The inequalities of one constraint. -/
def ZO (x : Ct) (m : Int) : List QI := if okC x.C m = true then ofM x m.toNat else []
theorem ZO_len (x : Ct) (m : Int) : (ZO x m).length ≤ 2 := by
  unfold ZO
  split
  · exact ofM_len _ _
  · exact Nat.zero_le _
theorem Of13_all (w : World) (x : Ct) (m : Int) (h : x.ok w) (hm : i64b m) : Calls Try.prog 13 #[x.val, .int .i64 m] w (SyP w (ZO x m) 2) := by
  unfold ZO
  obtain ⟨o, ho⟩ : ∃ o, okC x.C m = o := ⟨_, rfl⟩
  cases o with
  | false =>
    rw [ho]
    refine (Of13_bad w x m h hm ho).mono ?_
    rintro e w' ⟨rfl, hb⟩
    exact SyP.nil hb
  | true =>
    rw [if_pos ho]
    have CO := Of13_ok w x m.toNat h (by rw [Int.toNat_of_nonneg (okC_pos ho)]; exact ho)
    rw [Int.toNat_of_nonneg (okC_pos ho)] at CO
    refine CO.mono ?_
    rintro e w' ⟨g, c, R, he, hat, hgd, hz, hb⟩
    exact ⟨_, c, R, he, hat, hgd, hz, hb⟩
theorem ROf14_all (w : World) (x : Ct) (m : Int) (h : x.ok w) (hm : i64b m) : Calls Try.prog 14 #[x.val, .int .i64 m] w (SyP w (ZO x m) 13) := by
  unfold ZO
  obtain ⟨o, ho⟩ : ∃ o, okC x.C m = o := ⟨_, rfl⟩
  cases o with
  | false =>
    rw [ho]
    refine (ROf14_bad w x m h hm ho).mono ?_
    rintro e w' ⟨rfl, hb⟩
    exact SyP.nil hb
  | true =>
    rw [if_pos ho]
    have CO := ROf14_ok w x m.toNat h (by rw [Int.toNat_of_nonneg (okC_pos ho)]; exact ho)
    rw [Int.toNat_of_nonneg (okC_pos ho)] at CO
    refine CO.mono ?_
    rintro e w' ⟨g, c, R, he, hat, hgd, hz, hb⟩
    exact ⟨_, c, R, he, hat, hgd, hz, hb⟩
set_option maxRecDepth 100000 in
set_option maxHeartbeats 8000000 in
theorem cutproofOf_walk (A : Option Addr) (n c : Nat) (Q : List Ct) (m : Int) (w : World) (k0 : At w A n 3 (Q.flatMap Ct.cells)) (l0 : n ≤ NM) (g0 : ∀ x ∈ Q, x.ok w) (l1 : -9223372036854775808 ≤ m) (g1 : m ≤ 9223372036854775807) :
    Calls Try.prog 3 #[.slice A n c, .int .i64 m] w fun e w' => e = .returned (.bool true) ∧ Below w.heap.size w w' := by
  have HL := Lib.hid (show Q.length = n by have := k0.1; rw [flat_len Ct.cells 3 (fun _ => rfl)] at this; omega)
  have HA := Lib.hid k0
  have HQ := Lib.hid g0
  have HM := Lib.hid (show i64b m from ⟨l1, g1⟩)
  have hn63 : n ≤ 9223372036854775807 := l0
  clear k0 l0 g0 l1 g1
  go_enter Try.func3, Try.ntmps3
  go_wp2_with fail
  refine (awake_any w).mono ?_
  rintro e2 w2 ⟨rfl, hb2⟩
  have HB2 := Lib.hid hb2
  clear hb2
  by_cases hn8 : n ≤ 8
  case neg =>
    have hni : (n : Int) > 8 := by omega
    go_wp2_with fail
    refine (awake_any _).mono ?_
    rintro e9 w9 ⟨rfl, hb9⟩
    have HB9 := Lib.hid (HB2.out.trans (hb9.mono HB2.out.size))
    clear hb9
    go_wp2
    go_ret
    exact ⟨rfl, HB9.out⟩
  have hni : ¬ ((n : Int) > 8) := by omega
  go_wp2
  go_loopw [19] (fun s19 wr => ∃ (k : Nat), s19 = .int .i64 (k : Int) ∧ k ≤ n ∧ Below w.heap.size w wr) (fun s19 _ => n - (intOf s19).toNat)
  case atStart => exact ⟨0, rfl, Nat.zero_le _, HB2.out⟩
  case round =>
    obtain ⟨k, rfl, hkn, hB⟩ := hrel
    generalize wr = X0 at *
    have HB0 := Lib.hid hB
    clear hB
    by_cases hlt : k < n
    · have hki : (k : Int) < (n : Int) := by omega
      have hk0 : (0 : Int) ≤ (k : Int) := by omega
      have hkQ : k < Q.length := by rw [HL.out]; exact hlt
      obtain ⟨bA, off, eA, -, hc⟩ := at3 (fun _ => rfl) HA.out (show 0 < n by omega)
      obtain ⟨d0, d1, d2⟩ := hc X0 HB0.out k hkQ _ _ _ rfl
      have HXO := Lib.hid (HQ.out _ (List.getElem_mem hkQ))
      clear hc
      generalize Q[k] = x at *
      have hxn63 : x.n ≤ 9223372036854775807 := HXO.out.2.1
      obtain ⟨k6, hk6⟩ : ∃ k, k = X0.heap.size := ⟨_, rfl⟩
      obtain ⟨X1, hX1⟩ : ∃ X1, X1 = X0.alloc (.cells #[.int .i64 x.k, .slice x.A x.n x.c, .bool x.e] 28) := ⟨_, rfl⟩
      have hb1 : Below X0.heap.size X0 X1 := by rw [hX1]; exact (Below.refl _ _).alloc (Nat.le_refl _) _
      have K7 := Lib.hid (show Blk X1 k6 28 #[.int .i64 x.k, .slice x.A x.n x.c, .bool x.e] by rw [hX1]; exact Blk.new_ hk6 rfl)
      have HB1 := Lib.hid (HB0.out.trans (hb1.mono HB0.out.size))
      clear hb1
      rw [eA]
      go_upto_region 6 with fail
      rw [← hk6, ← hX1]
      clear hk6 hX1 d0 d1 d2
      have d1 : X1.cell? ⟨k6, 1, none⟩ = some (.slice x.A x.n x.c) := K7.out.cell 1
      by_cases hx8 : x.n ≤ 8
      · have hx8i : ¬ ((x.n : Int) > 8) := by omega
        go_wp2
        go_roundw
        case rel => exact ⟨k + 1, by go_num, hlt, HB1.out⟩
        case measure => simp [intOf]; omega
      · have hx8i : (x.n : Int) > 8 := by omega
        go_wp2
        go_ret
        exact ⟨rfl, HB1.out⟩
    · obtain rfl : n = k := by omega
      have hlt2 : ¬ ((n : Int) < (n : Int)) := by omega
      have HB2 := Lib.hid HB0.out
      go_wp2
      go_loopw [31] (fun s31 wr => ∃ (k : Nat), s31 = .int .i64 (k : Int) ∧ k ≤ n ∧ Below w.heap.size w wr) (fun s31 _ => n - (intOf s31).toNat)
      case atStart => exact ⟨0, rfl, Nat.zero_le _, HB2.out⟩
      case round =>
        obtain ⟨k, rfl, hkn, hB⟩ := hrel
        generalize wr = X0 at *
        have HB0 := Lib.hid hB
        clear hB
        by_cases hlt : k < n
        · have hki : (k : Int) < (n : Int) := by omega
          have hk0 : (0 : Int) ≤ (k : Int) := by omega
          have hkQ : k < Q.length := by rw [HL.out]; exact hlt
          obtain ⟨bA, off, eA, -, hc⟩ := at3 (fun _ => rfl) HA.out (show 0 < n by omega)
          obtain ⟨d0, d1, d2⟩ := hc X0 HB0.out k hkQ _ _ _ rfl
          have HXO := Lib.hid (HQ.out _ (List.getElem_mem hkQ))
          clear hc
          generalize Q[k] = x at *
          have hxn63 : x.n ≤ 9223372036854775807 := HXO.out.2.1
          obtain ⟨k8, hk8⟩ : ∃ k, k = X0.heap.size := ⟨_, rfl⟩
          obtain ⟨X1, hX1⟩ : ∃ X1, X1 = X0.alloc (.cells #[.int .i64 x.k, .slice x.A x.n x.c, .bool x.e] 28) := ⟨_, rfl⟩
          have hb1 : Below X0.heap.size X0 X1 := by rw [hX1]; exact (Below.refl _ _).alloc (Nat.le_refl _) _
          have K7 := Lib.hid (show Blk X1 k8 28 #[.int .i64 x.k, .slice x.A x.n x.c, .bool x.e] by rw [hX1]; exact Blk.new_ hk8 rfl)
          have HB1 := Lib.hid (HB0.out.trans (hb1.mono HB0.out.size))
          clear hb1
          rw [eA]
          go_upto_region 12 with fail
          rw [← hk8, ← hX1]
          clear hk8 hX1 d0 d1 d2
          have e0 : X1.cell? ⟨k8, 0, none⟩ = some (.int .i64 x.k) := K7.out.cell 0
          have e1 : X1.cell? ⟨k8, 1, none⟩ = some (.slice x.A x.n x.c) := K7.out.cell 1
          have e2 : X1.cell? ⟨k8, 2, none⟩ = some (.bool x.e) := K7.out.cell 2
          have HXO1 := Lib.hid (HXO.out.below HB1.out)
          obtain ⟨Z, hZ⟩ : ∃ Z, ZO x m = Z := ⟨_, rfl⟩
          obtain ⟨nz, hnz⟩ : ∃ k, Z.length = k := ⟨_, rfl⟩
          have hnz2 : nz ≤ 2 := by rw [← hnz, ← hZ]; exact ZO_len x m
          have hb0 : Below X1.heap.size X1 X1.drew := below_drew (Below.refl _ _)
          refine wp_region_mixE (fun w' => Below X1.heap.size X1 w') (by kernel_rfl) ?_
          generalize X1.drew = z0 at hb0 ⊢
          refine wpE_take (i := 0) (oi := ⟨some 35, _, _, _, _, _⟩) (v := ?_) rfl (by decide +kernel) (by decide +kernel) (by decide +kernel) (fun _ _ _ h => h) (Or.inl ⟨by rfl, ?_⟩) hb0 ?_
          case refine_2 =>
              intro w' hSw
              have e0' := keepcell hSw e0
              have e1' := keepcell hSw e1
              have e2' := keepcell hSw e2
              go_simp
              try (with_reducible rfl)
          try simp only [Act.put, List.setIfInBounds_toArray, List.set_cons_zero, List.set_cons_succ]
          refine wpE_take (i := 1) (oi := ⟨some 36, _, _, _, _, _⟩) (v := ?_) rfl (by decide +kernel) (by decide +kernel) (by decide +kernel) (fun _ _ _ h => h) (Or.inl ⟨by rfl, ?_⟩) hb0 ?_
          case refine_2 =>
              intro w' hSw
              have e0' := keepcell hSw e0
              have e1' := keepcell hSw e1
              have e2' := keepcell hSw e2
              go_simp
              try (with_reducible rfl)
          try simp only [Act.put, List.setIfInBounds_toArray, List.set_cons_zero, List.set_cons_succ]
          refine wpE_take (i := 3) (oi := ⟨some 38, _, _, _, _, _⟩) (v := ?_) rfl (by decide +kernel) (by decide +kernel) (by decide +kernel) (fun _ _ _ h => h) (Or.inl ⟨by rfl, ?_⟩) hb0 ?_
          case refine_2 =>
              intro w' hSw
              have e0' := keepcell hSw e0
              have e1' := keepcell hSw e1
              have e2' := keepcell hSw e2
              go_simp
              try (with_reducible rfl)
          try simp only [Act.put, List.setIfInBounds_toArray, List.set_cons_zero, List.set_cons_succ]
          refine wpE_take (i := 4) (oi := ⟨some 39, _, _, _, _, _⟩) (v := ?_) rfl (by decide +kernel) (by decide +kernel) (by decide +kernel) (fun _ _ _ h => h) (Or.inl ⟨by rfl, ?_⟩) hb0 ?_
          case refine_2 =>
              intro w' hSw
              have e0' := keepcell hSw e0
              have e1' := keepcell hSw e1
              have e2' := keepcell hSw e2
              go_simp
              try (with_reducible rfl)
          try simp only [Act.put, List.setIfInBounds_toArray, List.set_cons_zero, List.set_cons_succ]
          have C1 := Lib.hid (Of13_all z0 x m (HXO1.out.below hb0) HM.out)
          rw [hZ] at C1
          unfold Ct.val at C1
          refine wpE_step (i := 2) (o := ⟨some 37, _, _, _, _, _⟩) rfl (by decide +kernel) (fun KK hKK => ?_)
          go_simp
          refine C1.out.mono ?_
          rintro e z1 ⟨A1, c1, R1, rfl, hat1, hgd1, hz1, hbn⟩
          have hb1 : Below X1.heap.size X1 z1 := hb0.trans (hbn.mono hb0.size)
          have hl1 : R1.length = nz := by rw [← hnz, ← hz1, List.length_map]
          have HG1 := Lib.hid (fun q hq => (hgd1 q hq).wide (show 2 ≤ 13 by decide))
          have HZ1 := Lib.hid hz1
          rw [hl1] at hat1 ⊢
          have HAT1 := Lib.hid hat1
          clear hat1 hgd1 hz1 hl1
          clear hbn
          refine hKK.out _ _ hb1 ?_
          clear hKK KK
          try simp only [Act.put, List.setIfInBounds_toArray, List.set_cons_zero, List.set_cons_succ]
          have C2 := Lib.hid (ROf14_all z1 x m (HXO1.out.below hb1) HM.out)
          rw [hZ] at C2
          unfold Ct.val at C2
          refine wpE_step (i := 5) (o := ⟨some 40, _, _, _, _, _⟩) rfl (by decide +kernel) (fun KK hKK => ?_)
          go_simp
          refine C2.out.mono ?_
          rintro e z2 ⟨A2, c2, R2, rfl, hat2, hgd2, hz2, hbn⟩
          have hb2 : Below X1.heap.size X1 z2 := hb1.trans (hbn.mono hb1.size)
          have hl2 : R2.length = nz := by rw [← hnz, ← hz2, List.length_map]
          have HG2 := Lib.hid hgd2
          have HZ2 := Lib.hid hz2
          rw [hl2] at hat2 ⊢
          have HAT2 := Lib.hid hat2
          have HAT1b := Lib.hid (At.below HAT1.out hbn)
          have HG1b := Lib.hid (fun q hq => (HG1.out q hq).mono (N44.of_below hbn))
          clear hat2 hgd2 hz2 hl2
          clear hbn
          refine hKK.out _ _ hb2 ?_
          clear hKK KK
          try simp only [Act.put, List.setIfInBounds_toArray, List.set_cons_zero, List.set_cons_succ]
          have C3 := Lib.hid (RSames_any z2 A1 A2 nz c1 c2 R1 R2 13 HAT1b.out HAT2.out (fun q hq => (HG1b.out q hq).nrm) (fun q hq => (HG2.out q hq).nrm) (HZ1.out.trans HZ2.out.symm) (by omega) (by decide))
          refine wpE_step (i := 6) (o := ⟨some 41, _, _, _, _, _⟩) rfl (by decide +kernel) (fun KK hKK => ?_)
          go_simp
          refine C3.out.mono ?_
          rintro e z3 ⟨rfl, hbn⟩
          have hb3 : Below X1.heap.size X1 z3 := hb2.trans (hbn.mono hb2.size)
          clear hbn
          refine hKK.out _ _ hb3 ?_
          clear hKK KK
          try simp only [Act.put, List.setIfInBounds_toArray, List.set_cons_zero, List.set_cons_succ]
          refine wpE_take (i := 7) (oi := ⟨some 42, _, _, _, _, _⟩) (v := ?_) rfl (by decide +kernel) (by decide +kernel) (by decide +kernel) (fun _ _ _ h => h) (Or.inl ⟨by rfl, ?_⟩) hb3 ?_
          case refine_2 =>
              intro w' hSw
              skip
              go_simp
              try (with_reducible rfl)
          try simp only [Act.put, List.setIfInBounds_toArray, List.set_cons_zero, List.set_cons_succ]
          refine wpE_done (by decide +kernel) ?_
          clear e0 e1 e2
          have HBF := Lib.hid (HB1.out.trans (hb3.mono HB1.out.size))
          clear hb0 hb1 hb2 hb3
          go_wp2
          go_roundw
          case rel => exact ⟨k + 1, by go_num, hlt, HBF.out⟩
          case measure => simp [intOf]; omega
        · obtain rfl : n = k := by omega
          have hlt2 : ¬ ((n : Int) < (n : Int)) := by omega
          obtain ⟨Z, hZ⟩ : ∃ Z, SyZ Q m = Z := ⟨_, rfl⟩
          obtain ⟨nz, hnz⟩ : ∃ k, Z.length = k := ⟨_, rfl⟩
          have hnz2 : nz ≤ 16 := by
            rw [← hnz, ← hZ]
            have h1 := SyZ_len Q m
            have h2 := HL.out
            omega
          have C1 := Lib.hid (System_any X0 A n c Q m (At.below HA.out HB0.out) (fun x hx => (HQ.out x hx).below HB0.out) hn8 HM.out)
          rw [hZ] at C1
          go_wp2_with fail
          refine C1.out.mono ?_
          rintro e3 w3 ⟨A1, c1, R1, rfl, hat1, hgd1, hz1, hb3⟩
          have HB3 := Lib.hid (HB0.out.trans (hb3.mono HB0.out.size))
          have hl1 : R1.length = nz := by rw [← hnz, ← hz1, List.length_map]
          have HG1 := Lib.hid (fun q hq => (hgd1 q hq).wide (show 2 ≤ 13 by decide))
          have HZ1 := Lib.hid hz1
          rw [hl1] at hat1 ⊢
          have HAT1 := Lib.hid hat1
          clear hat1 hgd1 hz1 hl1 hb3 C1
          have C2 := Lib.hid (RSystem_any w3 A n c Q m (At.below HA.out HB3.out) (fun x hx => (HQ.out x hx).below HB3.out) hn8 HM.out)
          rw [hZ] at C2
          go_wp2_with fail
          refine C2.out.mono ?_
          rintro e4 w4 ⟨A2, c2, R2, rfl, hat2, hgd2, hz2, hb4⟩
          have HB4 := Lib.hid (HB3.out.trans (hb4.mono HB3.out.size))
          have hl2 : R2.length = nz := by rw [← hnz, ← hz2, List.length_map]
          have HG2 := Lib.hid hgd2
          have HZ2 := Lib.hid hz2
          rw [hl2] at hat2 ⊢
          have HAT2 := Lib.hid hat2
          have HAT1b := Lib.hid (At.below HAT1.out hb4)
          have HG1b := Lib.hid (fun q hq => (HG1.out q hq).mono (N44.of_below hb4))
          clear hat2 hgd2 hz2 hl2 hb4 C2
          have C3 := Lib.hid (RSames_any w4 A1 A2 nz c1 c2 R1 R2 13 HAT1b.out HAT2.out (fun q hq => (HG1b.out q hq).nrm) (fun q hq => (HG2.out q hq).nrm) (HZ1.out.trans HZ2.out.symm) (by omega) (by decide))
          go_wp2_with fail
          refine C3.out.mono ?_
          rintro e5 w5 ⟨rfl, hb5⟩
          have HB5 := Lib.hid (HB4.out.trans (hb5.mono HB4.out.size))
          clear hb5 C3
          go_wp2
          go_ret
          exact ⟨rfl, HB5.out⟩

set_option maxRecDepth 100000 in
theorem cutproofOf_lifted (os : Os) (started : os.Started) (H : Type) (enc : TypeId × Value → H) :
    ReturnsInHanded {} Try.checked os 3 .any (Rows.cutproofOfSpec.pre6 enc Try.prog Try.f3 Rows.cutproofOfRow.domain false) (Rows.cutproofOfSpec.post enc Try.prog Try.f3 false true false false) := by
  refine law_lifted (C := Try.checked) (B := 4) Try.own started (by kernel_rfl) Try.func3
    (ChangeSpec.witness6 (enc := enc) (C := Try.checked) false ⟨#[], #[.slice none 0 0, .int .i64 0], []⟩ 8 (by kernel_rfl) (by kernel_rfl) (by kernel_rfl) (by kernel_rfl))
    Try.laidOut (by kernel_rfl) rfl rfl rfl Try.underlying4 (fun ds h => match ds, h with | [_, _], _ => rfl) ?_
  intro W base args ds ps hval hA hlt hsz
  rw [Try.params3] at hA hval hsz
  obtain ⟨v0, vs0, d0, ds0, p0, q0, hargs, rfl, rfl, h0, r0⟩ := trodAll_cons hA
  obtain ⟨v1, vs1, d1, ds1, p1, q1, rfl, rfl, rfl, h1, r1⟩ := trodAll_cons r0
  obtain ⟨rfl, rfl, rfl⟩ := trodAll_nil r1
  obtain rfl : args = #[v0, v1] := by cases args; simp_all
  obtain ⟨A0, n0, c0, Q0, rfl, k0, l0, g0⟩ := open_cons (hval 0 22 v0 rfl rfl) h0 (fun x hx => hlt x (by simp [hx])) hsz (j := 0) rfl rfl
  obtain ⟨a1, rfl, rfl, rfl, w1⟩ := open_int Try.underlying3 (hval 1 3 v1 rfl rfl) h1
  obtain ⟨l1, g1⟩ := i64_bd w1
  exact cutproofOf_walk A0 n0 c0 Q0 a1 W k0 l0 g0 l1 g1

theorem cutproofOf_over : Rows.cutproofOfRow.holds Try.pinned (OpenSpec.ofChange Rows.cutproofOfSpec) :=
  OpenClaim.holds_of_wide 3 Try.f3 rfl rfl rfl rfl rfl rfl rfl ⟨rfl, rfl, rfl, rfl, rfl⟩ rfl rfl rfl rfl rfl (by kernel_rfl) Try.func3 (by kernel_rfl)
    (of_decide_eq_true (by kernel_rfl)) (by unfold Func.isWrapper; first | (rw [if_pos (by decide +kernel)]; kernel_rfl) | (rw [if_neg (by decide +kernel)]; exact ⟨rfl, rfl⟩))
    (fun os started H enc _ => cutproofOf_lifted os started H enc)

theorem cutproofOf_proved : Rows.CutproofOfSaid := cutproofOf_over
end Go.Proofs.Ythfolccofjaknaa
