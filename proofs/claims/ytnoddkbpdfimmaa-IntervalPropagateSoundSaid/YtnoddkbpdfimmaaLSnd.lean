/- Law IntervalPropagateSound: for every input the call returns true, and its arguments read afterwards as before. -/
import Derived.Test.YtnoddkbpdfimmaaIva
import Derived.Test.YtnoddkbpdfimmaaLPro
import Derived.Test.YtnoddkbpdfimmaaIvvl
namespace Go.Proofs.Ytnoddkbpdfimmaa
open Go.ChangeShapes Go.WideShapes Go.ChangeAt Go.RowKit Go.ChangeMaps

set_option maxRecDepth 100000 in
set_option maxHeartbeats 4000000 in
theorem intervalPropagateSound_walk (A : Option Addr) (n cap : Nat) (Cs : List Cn) (D : Option Addr) (m cap2 : Nat) (R : List Iv) (A1 : Option Addr) (p c1x : Nat) (xs : List Int) (w : World) (k0 : Cns w A n Cs) (l0 : n ≤ 9223372036854775807) (f0 : ∀ x ∈ Cs, x.n ≤ x.cap ∧ x.cap ≤ 9223372036854775807) (g0 : Ivs w D m R) (u0 : m ≤ 9223372036854775807) (o0 : ∀ x ∈ R, x.in) (k1 : Xs w A1 p xs) (l1 : p ≤ 9223372036854775807) : Calls Try.prog 9 #[.agg #[.slice A n cap, .slice D m cap2], .slice A1 p c1x] w fun e w' => e = .returned (.bool true) ∧ Below w.heap.size w w' := by
  have HOK := Lib.hid (show ∀ x ∈ R, x.ok from fun x hx => o0 x hx)
  have HCP := Lib.hid f0
  have HRN := Lib.hid g0.len
  obtain ⟨W0, hW0⟩ : ∃ W, W = w.alloc (.cells #[.slice A n cap, .slice D m cap2] 45) := ⟨_, rfl⟩
  have hb : Below w.heap.size w W0 := by rw [hW0]; exact (Below.refl _ w).alloc (Nat.le_refl _) _
  have K2 := Lib.hid (show Blk W0 w.heap.size 45 #[.slice A n cap, .slice D m cap2] by rw [hW0]; exact Blk.new _ _ _)
  have HC := Lib.hid (cns_below k0 hb)
  have HD := Lib.hid (g0.below hb)
  have HB := Lib.hid hb
  have HXN := Lib.hid k1.len
  have HX := Lib.hid (k1.below hb)
  clear k0 k1 g0 o0 f0 hb
  go_enter Try.func9, Try.ntmps9
  go_upto_region 1 with fail
  rw [← hW0]
  clear hW0
  go_wp2_with fail
  refine (awake_any W0).mono ?_
  rintro e w1 ⟨rfl, hb⟩
  replace K2 := Lib.hid (K2.out.below hb)
  replace HD := Lib.hid (HD.out.below hb)
  replace HX := Lib.hid (HX.out.below hb)
  replace HC := Lib.hid (cns_below HC.out hb)
  replace HB := Lib.hid (HB.out.trans (hb.mono HB.out.size))
  clear hb
  have e0 : w1.cell? ⟨w.heap.size, 0, none⟩ = some (.slice A n cap) := K2.out.cell 0
  have e1 : w1.cell? ⟨w.heap.size, 1, none⟩ = some (.slice D m cap2) := K2.out.cell 1
  have GD := Lib.hid (good_any A n cap Cs D m cap2 R w1 HC.out HD.out)
  go_wp2_with fail
  clear e0 e1
  refine GD.out.mono ?_
  rintro e X ⟨⟨g, rfl, hg⟩, hb⟩
  have HG := Lib.hid hg
  replace K2 := Lib.hid (K2.out.below hb)
  replace HD := Lib.hid (HD.out.below hb)
  replace HX := Lib.hid (HX.out.below hb)
  replace HC := Lib.hid (cns_below HC.out hb)
  replace HB := Lib.hid (HB.out.trans (hb.mono HB.out.size))
  clear hb
  clear GD hg
  cases g
  · clear HG
    go_wp2
    go_ret
    exact ⟨rfl, HB.out⟩
  · obtain ⟨hn20, hm64, hRb, hcn⟩ := HG.out rfl
    have HLEN := Lib.hid (prop_len (Cs := Cs) hm64)
    rw [HRN.out] at hm64 hcn
    have HCN := Lib.hid hcn
    have HRB := Lib.hid hRb
    clear hcn hRb HG
    have e0 : X.cell? ⟨w.heap.size, 0, none⟩ = some (.slice A n cap) := K2.out.cell 0
    have e1 : X.cell? ⟨w.heap.size, 1, none⟩ = some (.slice D m cap2) := K2.out.cell 1
    by_cases hpm : p = m
    · subst hpm
      go_wp2
      clear e0 e1
      go_loopw [5, 28] (fun s5 s28 wr => ∃ (k : Nat) (ins : Bool), s5 = .bool ins ∧ s28 = .int .i64 (k : Int) ∧ k ≤ p ∧ (ins = true → ∀ i, i < k → (R.getD i ⟨0, 0⟩).lo ≤ xs.getD i 0 ∧ xs.getD i 0 ≤ (R.getD i ⟨0, 0⟩).hi) ∧ Below X.heap.size X wr) (fun _ s28 _ => p - (intOf s28).toNat)
      case atStart => exact ⟨0, true, rfl, rfl, Nat.zero_le _, (fun _ i hi => absurd hi (Nat.not_lt_zero _)), Below.refl _ _⟩
      case round =>
        obtain ⟨wq, rfl⟩ : ∃ x, x = wr := ⟨_, rfl⟩
        obtain ⟨k, ins, rfl, rfl, hkn, hE, hB⟩ := hrel
        have HE := Lib.hid hE
        have hb := hB
        replace K2 := Lib.hid (K2.out.below hb)
        replace HD := Lib.hid (HD.out.below hb)
        replace HX := Lib.hid (HX.out.below hb)
        replace HC := Lib.hid (cns_below HC.out hb)
        have HBQ := Lib.hid (HB.out.trans (hb.mono HB.out.size))
        have HBX := Lib.hid hb
        clear hE hB hb
        have e0 : wq.cell? ⟨w.heap.size, 0, none⟩ = some (.slice A n cap) := K2.out.cell 0
        have e1 : wq.cell? ⟨w.heap.size, 1, none⟩ = some (.slice D p cap2) := K2.out.cell 1
        by_cases hlt : k < p
        · have hki : (k : Int) < p := by omega
          have hk0 : (0 : Int) ≤ (k : Int) := by omega
          obtain ⟨b, off, rfl, hbl, hcc⟩ := HD.out.at (by omega)
          obtain ⟨b2, off2, rfl, hbl2, hc2⟩ := HX.out.at (by omega)
          have hi' : k < R.length := by rw [HRN.out]; exact hlt
          have hj' : k < xs.length := by rw [HXN.out]; exact hlt
          obtain ⟨c0, c1⟩ := hcc wq (Below.refl _ _) k hi'
          have d0 := hc2 wq (Below.refl _ _) k hj'
          have HG1 : Hid (R.getD k ⟨0, 0⟩ = R[k]) := Lib.hid (by simp [List.getD, List.getElem?_eq_getElem hi'])
          have HG2 : Hid (xs.getD k 0 = xs[k]) := Lib.hid (by simp [List.getD, List.getElem?_eq_getElem hj'])
          clear hcc hc2 hbl hbl2
          generalize R[k] = x at *
          generalize xs[k] = z at *
          obtain ⟨x0, x1⟩ := x
          simp only at c0 c1
          have next : ∀ i, i < k + 1 → (i = k → x0 ≤ z ∧ z ≤ x1) → (∀ i, i < k → (R.getD i ⟨0, 0⟩).lo ≤ xs.getD i 0 ∧ xs.getD i 0 ≤ (R.getD i ⟨0, 0⟩).hi) → (R.getD i ⟨0, 0⟩).lo ≤ xs.getD i 0 ∧ xs.getD i 0 ≤ (R.getD i ⟨0, 0⟩).hi := fun i hi h1 h2 => by
            by_cases hik : i = k
            · subst hik
              rw [HG1.out, HG2.out]
              exact h1 rfl
            · exact h2 i (by omega)
          have HNX := Lib.hid next
          clear next
          cases ins
          · go_wp2
            go_roundw
            case rel => exact ⟨k + 1, false, rfl, by go_num, hlt, nofun, HBX.out⟩
            case measure => simp only [intOf]; omega
          · by_cases q1 : x0 ≤ z
            · by_cases q2 : z ≤ x1
              · have HQ := Lib.hid (fun i hi => HNX.out i hi (fun _ => ⟨q1, q2⟩) (HE.out rfl))
                go_wp2
                go_roundw
                case rel => exact ⟨k + 1, true, by first | rfl | simp, by go_num, hlt, fun _ => HQ.out, HBX.out⟩
                case measure => simp only [intOf]; omega
              · go_wp2
                go_roundw
                case rel => exact ⟨k + 1, false, by first | rfl | simp, by go_num, hlt, nofun, HBX.out⟩
                case measure => simp only [intOf]; omega
            · go_wp2
              go_roundw
              case rel => exact ⟨k + 1, false, by first | rfl | simp, by go_num, hlt, nofun, HBX.out⟩
              case measure => simp only [intOf]; omega
        · obtain rfl : k = p := by omega
          have hlt2 : ¬ ((k : Int) < (k : Int)) := by omega
          obtain ⟨p, rfl⟩ : ∃ x, x = k := ⟨_, rfl⟩
          have HINS := Lib.hid (show ins = true → In R xs from fun h i hi => HE.out h i (by rw [HRN.out] at hi; exact hi))
          obtain ⟨res, hres⟩ : ∃ z, propM Cs R = z := ⟨_, rfl⟩
          have HRES := Lib.hid hres
          rw [hres] at HLEN
          obtain ⟨X, rfl⟩ : ∃ x, x = wq := ⟨_, rfl⟩
          have TO := Lib.hid (fun W (hW : Below X.heap.size X W) => to_any D p cap2 R W (HD.out.below hW) (by omega))
          have PRO := Lib.hid (fun W A2 c2 (hW : Below X.heap.size X W) (hI : Ivs W A2 R.length R) => show Calls Try.prog 27 #[.slice A n cap, .slice A2 R.length c2] W fun e w' => PrP W w' e res ∧ Below W.heap.size W w' by
            rw [← hres]
            exact Propagate_any A n cap Cs A2 R.length c2 R W (cns_below HC.out hW) hI (by omega) (by rw [HRN.out]; exact hm64) (by rw [HRN.out]; exact HCN.out) HRB.out)
          have HSUBS := Lib.hid (show res.isSome = true → Sub (res.getD []) R ∧ Ne (res.getD []) from fun h => by
            rcases hr : res with _ | R'
            · rw [hr] at h; cases h
            · exact propM_sub (by rw [hres]; exact hr))
          have HLC := Lib.hid (fun (hcl : ∀ x ∈ Cs, x.l.length = x.n) (hin : In R xs) (hh : ∀ x ∈ Cs, HoldM xs x) => show res.isSome = true ∧ In (res.getD []) xs by
            obtain ⟨R', h1, h2⟩ := propM_in (fun x hx => ⟨hcl x hx, hh x hx, fun y hy => by have h := (HCN.out x hx).2.2 y hy; rw [HRN.out]; exact h.1⟩) hin
            rw [hres] at h1
            rw [h1]
            exact ⟨rfl, h2⟩)
          have HCL := Lib.hid (fun x (hx : x ∈ Cs) => (HC.out.2 x hx).len)
          clear hres e0 e1 HE HBX
          have HB := HBQ
          clear HBQ
          have e0 : X.cell? ⟨w.heap.size, 0, none⟩ = some (.slice A n cap) := K2.out.cell 0
          have e1 : X.cell? ⟨w.heap.size, 1, none⟩ = some (.slice D p cap2) := K2.out.cell 1
          go_upto_region 11 with fail
          have hy : Below X.heap.size X X.drew := below_drew (Below.refl _ _)
          refine wp_region_mix 10 (fun w' => Below X.heap.size X w') (by kernel_rfl) (by decide) ?_
          generalize X.drew = y0 at hy ⊢
          refine wpM_take (i := 0) (oi := ⟨some 56, _, _, _, _, _⟩) (v := ?_) rfl (by decide +kernel) (by decide +kernel) (by decide +kernel) (fun _ _ _ h => h) (Or.inl ⟨by rfl, ?_⟩) hy ?_
          case refine_2 =>
            intro w' hSw
            have e0' := keepcell hSw e0
            have e1' := keepcell hSw e1
            go_simp
            try (with_reducible rfl)
          try simp only [Act.put, List.setIfInBounds_toArray, List.set_cons_zero, List.set_cons_succ]
          refine wpM_take (i := 1) (oi := ⟨some 57, _, _, _, _, _⟩) (v := ?_) rfl (by decide +kernel) (by decide +kernel) (by decide +kernel) (fun _ _ _ h => h) (Or.inl ⟨by rfl, ?_⟩) hy ?_
          case refine_2 =>
            intro w' hSw
            have e0' := keepcell hSw e0
            have e1' := keepcell hSw e1
            go_simp
            try (with_reducible rfl)
          try simp only [Act.put, List.setIfInBounds_toArray, List.set_cons_zero, List.set_cons_succ]
          refine wpM_take (i := 2) (oi := ⟨some 58, _, _, _, _, _⟩) (v := ?_) rfl (by decide +kernel) (by decide +kernel) (by decide +kernel) (fun _ _ _ h => h) (Or.inl ⟨by rfl, ?_⟩) hy ?_
          case refine_2 =>
            intro w' hSw
            have e0' := keepcell hSw e0
            have e1' := keepcell hSw e1
            go_simp
            try (with_reducible rfl)
          try simp only [Act.put, List.setIfInBounds_toArray, List.set_cons_zero, List.set_cons_succ]
          refine wpM_take (i := 3) (oi := ⟨some 59, _, _, _, _, _⟩) (v := ?_) rfl (by decide +kernel) (by decide +kernel) (by decide +kernel) (fun _ _ _ h => h) (Or.inl ⟨by rfl, ?_⟩) hy ?_
          case refine_2 =>
            intro w' hSw
            have e0' := keepcell hSw e0
            have e1' := keepcell hSw e1
            go_simp
            try (with_reducible rfl)
          try simp only [Act.put, List.setIfInBounds_toArray, List.set_cons_zero, List.set_cons_succ]
          refine wpM_step (i := 4) (o := ⟨some 60, _, _, _, _, _⟩) rfl (by decide +kernel) (by decide) (fun K hK => ?_)
          go_simp
          refine (TO.out y0 hy).mono ?_
          rintro e y1 ⟨v2, rfl, ho, hb⟩
          have hy1 : Below X.heap.size X y1 := hy.trans (hb.mono hy.size)
          obtain ⟨A2, c2', ev2, I2, -, -⟩ := ho.ivs
          have HI2 := Lib.hid I2
          subst ev2
          refine hK.out _ _ hy1 ?_
          clear hK K ho hb I2
          try simp only [Act.put, List.setIfInBounds_toArray, List.set_cons_zero, List.set_cons_succ]
          refine wpM_step (i := 5) (o := ⟨some 61, _, _, _, _, _⟩) rfl (by decide +kernel) (by decide) (fun K hK => ?_)
          go_simp
          refine (PRO.out y1 A2 c2' hy1 HI2.out).mono ?_
          rintro e y2 ⟨hp, hb⟩
          obtain ⟨A3, c3, rfl, hI3⟩ := prp_parts hp
          have HI3 := Lib.hid hI3
          have hy2 : Below X.heap.size X y2 := hy1.trans (hb.mono hy1.size)
          obtain ⟨okb, hok⟩ : ∃ z, res.isSome = z := ⟨_, rfl⟩
          have HOKB := Lib.hid hok
          obtain ⟨RR, hRR⟩ : ∃ z, res.getD [] = z := ⟨_, rfl⟩
          have HRR := Lib.hid hRR
          rw [hok, hRR]
          rw [hRR] at HI3
          obtain ⟨q, hq⟩ : ∃ z, RR.length = z := ⟨_, rfl⟩
          have HQ := Lib.hid hq
          rw [hq] at HI3 ⊢
          refine hK.out _ _ hy2 ?_
          clear hK K hp hb hI3 hq hok hRR
          try simp only [Act.put, List.setIfInBounds_toArray, List.set_cons_zero, List.set_cons_succ]
          refine wpM_take (i := 6) (oi := ⟨some 55, _, _, _, _, _⟩) (v := ?_) rfl (by decide +kernel) (by decide +kernel) (by decide +kernel) (fun _ _ _ h => h) (Or.inl ⟨by rfl, ?_⟩) hy2 ?_
          case refine_2 =>
            intro w' hSw
            have e0' := keepcell hSw e0
            have e1' := keepcell hSw e1
            go_simp
            try (with_reducible rfl)
          try simp only [Act.put, List.setIfInBounds_toArray, List.set_cons_zero, List.set_cons_succ]
          refine wpM_take (i := 7) (oi := ⟨some 62, _, _, _, _, _⟩) (v := ?_) rfl (by decide +kernel) (by decide +kernel) (by decide +kernel) (fun _ _ _ h => h) (Or.inl ⟨by rfl, ?_⟩) hy2 ?_
          case refine_2 =>
            intro w' hSw
            have e0' := keepcell hSw e0
            have e1' := keepcell hSw e1
            go_simp
            try (with_reducible rfl)
          try simp only [Act.put, List.setIfInBounds_toArray, List.set_cons_zero, List.set_cons_succ]
          refine wpM_take (i := 8) (oi := ⟨some 63, _, _, _, _, _⟩) (v := ?_) rfl (by decide +kernel) (by decide +kernel) (by decide +kernel) (fun _ _ _ h => h) (Or.inl ⟨by rfl, ?_⟩) hy2 ?_
          case refine_2 =>
            intro w' hSw
            have e0' := keepcell hSw e0
            have e1' := keepcell hSw e1
            go_simp
            try (with_reducible rfl)
          try simp only [Act.put, List.setIfInBounds_toArray, List.set_cons_zero, List.set_cons_succ]
          refine wpM_take (i := 9) (oi := ⟨some 8, _, _, _, _, _⟩) (v := ?_) rfl (by decide +kernel) (by decide +kernel) (by decide +kernel) (fun _ _ _ h => h) (Or.inl ⟨by rfl, ?_⟩) hy2 ?_
          case refine_2 =>
            intro w' hSw
            have e0' := keepcell hSw e0
            have e1' := keepcell hSw e1
            go_simp
            try (with_reducible rfl)
          try simp only [Act.put, List.setIfInBounds_toArray, List.set_cons_zero, List.set_cons_succ]
          refine wpM_done (by decide +kernel) ?_
          simp only [List.drop_succ_cons, List.drop_zero]
          have HS2 := Lib.hid hy2
          have hb := hy2
          replace K2 := Lib.hid (K2.out.below hb)
          replace HD := Lib.hid (HD.out.below hb)
          replace HX := Lib.hid (HX.out.below hb)
          replace HC := Lib.hid (cns_below HC.out hb)
          replace HB := Lib.hid (HB.out.trans (hb.mono HB.out.size))
          clear hb
          clear e0 e1 hy hy1 hy2 TO PRO HI2
          have hq64 : q ≤ 64 := by rw [← HQ.out, ← HRR.out]; exact HLEN.out
          have hqm : okb = true → q = p := fun h => by
            have h1 := (HSUBS.out (by rw [HOKB.out]; exact h)).1.1
            rw [HRR.out, HQ.out, HRN.out] at h1
            exact h1
          have hq0 : okb = false → q = 0 := fun h => by
            have h1 := HOKB.out
            rw [h] at h1
            rcases hr : res with _ | R'
            · have h2 := HRR.out
              rw [hr] at h2
              rw [← HQ.out, ← h2]
              rfl
            · rw [hr] at h1; cases h1
          have hqp : q ≤ p := by
            cases okb
            · rw [hq0 rfl]; omega
            · rw [hqm rfl]; exact Nat.le_refl _
          have HELT := Lib.hid (show ∀ k, k < q → (RR.getD k ⟨0, 0⟩).lo ≤ (RR.getD k ⟨0, 0⟩).hi ∧ (R.getD k ⟨0, 0⟩).lo ≤ (RR.getD k ⟨0, 0⟩).lo ∧ (RR.getD k ⟨0, 0⟩).hi ≤ (R.getD k ⟨0, 0⟩).hi from fun k hk => by
            cases hb2 : okb
            · have := hq0 hb2; omega
            · obtain ⟨h1, h2⟩ := HSUBS.out (by rw [HOKB.out]; exact hb2)
              rw [HRR.out] at h1 h2
              have h3 := ne_getD h2 k
              unfold Iv.emp at h3
              simp only [decide_eq_false_iff_not] at h3
              exact ⟨by omega, (h1.2 k).1, (h1.2 k).2⟩)
          have HQM := Lib.hid hqm
          have HQZ := Lib.hid hq0
          clear hq0
          have e0 : y2.cell? ⟨w.heap.size, 0, none⟩ = some (.slice A n cap) := K2.out.cell 0
          have e1 : y2.cell? ⟨w.heap.size, 1, none⟩ = some (.slice D p cap2) := K2.out.cell 1
          have hneq : okb = true → ((q : Int) != (p : Int)) = false := fun h => by rw [hqm h]; simp
          clear hqm
          go_upto_region 12 with fail
          cases okb
          · obtain rfl : q = 0 := HQZ.out rfl
            clear hneq
            go_wp2
            clear e0 e1
            go_loopw [75] (fun s75 wr => ∃ (k : Nat), s75 = .int .i64 (k : Int) ∧ k ≤ 0 ∧ Below y2.heap.size y2 wr) (fun s75 _ => 0 - (intOf s75).toNat)
            case atStart => exact ⟨0, rfl, Nat.zero_le _, Below.refl _ _⟩
            case round =>
              obtain ⟨wp, rfl⟩ : ∃ x, x = wr := ⟨_, rfl⟩
              obtain ⟨k, rfl, hkn, hB⟩ := hrel
              have hb := hB
              replace K2 := Lib.hid (K2.out.below hb)
              replace HD := Lib.hid (HD.out.below hb)
              replace HX := Lib.hid (HX.out.below hb)
              replace HC := Lib.hid (cns_below HC.out hb)
              replace HI3 := Lib.hid (HI3.out.below hb)
              have HBQ := Lib.hid (HB.out.trans (hb.mono HB.out.size))
              have HBX := Lib.hid hb
              clear hB hb
              have e0 : wp.cell? ⟨w.heap.size, 0, none⟩ = some (.slice A n cap) := K2.out.cell 0
              have e1 : wp.cell? ⟨w.heap.size, 1, none⟩ = some (.slice D p cap2) := K2.out.cell 1
              · obtain rfl : k = 0 := by omega
                cases ins
                · go_wp2
                  go_ret
                  exact ⟨rfl, HBQ.out⟩
                · have HIN := Lib.hid (HINS.out rfl)
                  have HXB := Lib.hid (show ∀ z ∈ xs, -4294967296 ≤ z ∧ z ≤ 4294967296 from fun z hz => by
                    obtain ⟨i, hi, rfl⟩ := List.getElem_of_mem hz
                    have hiR : i < R.length := by rw [HRN.out, ← HXN.out]; exact hi
                    have h1 := HIN.out i hiR
                    have h2 := HRB.out _ (getD_mem hiR)
                    rw [show xs.getD i 0 = xs[i] by simp [List.getD, List.getElem?_eq_getElem hi]] at h1
                    obtain ⟨⟨a1, a2⟩, a3, a4⟩ := h2
                    omega)
                  have HOL := Lib.hid (RHolds_any A n cap Cs A1 p c1x xs wp HC.out HX.out (by omega) HCN.out HXB.out)
                  go_wp2_with fail
                  refine HOL.out.mono ?_
                  rintro e w5 ⟨⟨g, rfl, hg⟩, hb⟩
                  have HG := Lib.hid hg
                  replace HX := Lib.hid (HX.out.below hb)
                  replace HI3 := Lib.hid (HI3.out.below hb)
                  have HB5 := Lib.hid (HBQ.out.trans (hb.mono HBQ.out.size))
                  clear hg hb HOL e0 e1
                  cases g
                  · go_wp2
                    go_ret
                    exact ⟨rfl, HB5.out⟩
                  · obtain ⟨hsm, hin2⟩ := HLC.out HCL.out HIN.out (HG.out rfl)
                    rw [HOKB.out] at hsm
                    cases hsm
          · have hne2 := hneq rfl
            obtain rfl : q = p := HQM.out rfl
            clear hneq
            go_wp2
            clear e0 e1
            go_loopw [75] (fun s75 wr => ∃ (k : Nat), s75 = .int .i64 (k : Int) ∧ k ≤ q ∧ Below y2.heap.size y2 wr) (fun s75 _ => q - (intOf s75).toNat)
            case atStart => exact ⟨0, rfl, Nat.zero_le _, Below.refl _ _⟩
            case round =>
              obtain ⟨wp, rfl⟩ : ∃ x, x = wr := ⟨_, rfl⟩
              obtain ⟨k, rfl, hkn, hB⟩ := hrel
              have hb := hB
              replace K2 := Lib.hid (K2.out.below hb)
              replace HD := Lib.hid (HD.out.below hb)
              replace HX := Lib.hid (HX.out.below hb)
              replace HC := Lib.hid (cns_below HC.out hb)
              replace HI3 := Lib.hid (HI3.out.below hb)
              have HBQ := Lib.hid (HB.out.trans (hb.mono HB.out.size))
              have HBX := Lib.hid hb
              clear hB hb
              have e0 : wp.cell? ⟨w.heap.size, 0, none⟩ = some (.slice A n cap) := K2.out.cell 0
              have e1 : wp.cell? ⟨w.heap.size, 1, none⟩ = some (.slice D q cap2) := K2.out.cell 1
              by_cases hlt : k < q
              · have hki : (k : Int) < q := by omega
                have hk0 : (0 : Int) ≤ (k : Int) := by omega
                obtain ⟨b, off, rfl, hbl, hcc⟩ := HD.out.at (by omega)
                obtain ⟨b2, off2, rfl, hbl2, hc2⟩ := HI3.out.at (by omega)
                have hi' : k < R.length := by rw [HRN.out]; exact hlt
                have hj' : k < RR.length := by rw [HQ.out]; exact hlt
                obtain ⟨c0, c1⟩ := hcc wp (Below.refl _ _) k hi'
                obtain ⟨d0, d1⟩ := hc2 wp (Below.refl _ _) k hj'
                obtain ⟨t1, t2, t3⟩ := HELT.out k hlt
                rw [show R.getD k ⟨0, 0⟩ = R[k] by simp [List.getD, List.getElem?_eq_getElem hi'], show RR.getD k ⟨0, 0⟩ = RR[k] by simp [List.getD, List.getElem?_eq_getElem hj']] at t2 t3
                rw [show RR.getD k ⟨0, 0⟩ = RR[k] by simp [List.getD, List.getElem?_eq_getElem hj']] at t1
                clear hcc hc2 hbl hbl2
                generalize R[k] = x at *
                generalize RR[k] = y at *
                obtain ⟨x0, x1⟩ := x
                obtain ⟨z0, z1⟩ := y
                simp only at c0 c1 d0 d1 t1 t2 t3
                have u1 : ¬ z1 < z0 := by omega
                have u2 : ¬ z0 < x0 := by omega
                have u3 : ¬ x1 < z1 := by omega
                clear t1 t2 t3
                go_upto_region 17 with fail
                go_quiet (fail)
                go_wp2
                go_roundw
                case rel => exact ⟨k + 1, by go_num, hlt, by first | exact HBX.out | exact below_drewN HBX.out | exact below_drew HBX.out⟩
                case measure => simp only [intOf]; omega
              · obtain rfl : k = q := by omega
                have hlt2 : ¬ ((k : Int) < (k : Int)) := by omega
                obtain ⟨q, rfl⟩ : ∃ x, x = k := ⟨_, rfl⟩
                cases ins
                · go_wp2
                  go_ret
                  exact ⟨rfl, HBQ.out⟩
                · have HIN := Lib.hid (HINS.out rfl)
                  have HXB := Lib.hid (show ∀ z ∈ xs, -4294967296 ≤ z ∧ z ≤ 4294967296 from fun z hz => by
                    obtain ⟨i, hi, rfl⟩ := List.getElem_of_mem hz
                    have hiR : i < R.length := by rw [HRN.out, ← HXN.out]; exact hi
                    have h1 := HIN.out i hiR
                    have h2 := HRB.out _ (getD_mem hiR)
                    rw [show xs.getD i 0 = xs[i] by simp [List.getD, List.getElem?_eq_getElem hi]] at h1
                    obtain ⟨⟨a1, a2⟩, a3, a4⟩ := h2
                    omega)
                  have HOL := Lib.hid (RHolds_any A n cap Cs A1 q c1x xs wp HC.out HX.out (by omega) HCN.out HXB.out)
                  go_wp2_with fail
                  refine HOL.out.mono ?_
                  rintro e w5 ⟨⟨g, rfl, hg⟩, hb⟩
                  have HG := Lib.hid hg
                  replace HX := Lib.hid (HX.out.below hb)
                  replace HI3 := Lib.hid (HI3.out.below hb)
                  have HB5 := Lib.hid (HBQ.out.trans (hb.mono HBQ.out.size))
                  clear hg hb HOL e0 e1
                  cases g
                  · go_wp2
                    go_ret
                    exact ⟨rfl, HB5.out⟩
                  · obtain ⟨hsm, hin2⟩ := HLC.out HCL.out HIN.out (HG.out rfl)
                    rw [HOKB.out] at hsm
                    rw [HRR.out] at hin2
                    have HIN2 := Lib.hid hin2
                    clear hin2 hsm
                    go_wp2
                    go_loopw [129] (fun s129 wr => ∃ (k : Nat), s129 = .int .i64 (k : Int) ∧ k ≤ q ∧ Below w5.heap.size w5 wr) (fun s129 _ => q - (intOf s129).toNat)
                    case atStart => exact ⟨0, rfl, Nat.zero_le _, Below.refl _ _⟩
                    case round =>
                      obtain ⟨k, rfl, hkn, hB⟩ := hrel
                      have HBX2 := Lib.hid hB
                      have HBQ2 := Lib.hid (HB5.out.trans (hB.mono HB5.out.size))
                      clear hB
                      by_cases hlt : k < q
                      · have hki : (k : Int) < q := by omega
                        have hk0 : (0 : Int) ≤ (k : Int) := by omega
                        obtain ⟨b, off, rfl, hbl, hcc⟩ := HX.out.at (by omega)
                        obtain ⟨b2, off2, rfl, hbl2, hc2⟩ := HI3.out.at (by omega)
                        have hi' : k < xs.length := by rw [HXN.out]; exact hlt
                        have hj' : k < RR.length := by rw [HQ.out]; exact hlt
                        have c0 := hcc wr HBX2.out k hi'
                        obtain ⟨d0, d1⟩ := hc2 wr HBX2.out k hj'
                        have t1 := HIN2.out k hj'
                        rw [show RR.getD k ⟨0, 0⟩ = RR[k] by simp [List.getD, List.getElem?_eq_getElem hj'], show xs.getD k 0 = xs[k] by simp [List.getD, List.getElem?_eq_getElem hi']] at t1
                        clear hcc hc2 hbl hbl2
                        generalize xs[k] = z at *
                        generalize RR[k] = y at *
                        obtain ⟨z0, z1⟩ := y
                        simp only at d0 d1 t1
                        have u1 : ¬ z < z0 := by omega
                        have u2 : ¬ z1 < z := by omega
                        clear t1
                        go_wp2
                        go_roundw
                        case rel => exact ⟨k + 1, by go_num, hlt, HBX2.out⟩
                        case measure => simp only [intOf]; omega
                      · obtain rfl : k = q := by omega
                        have hlt3 : ¬ ((k : Int) < (k : Int)) := by omega
                        go_wp2
                        go_ret
                        exact ⟨rfl, HBQ2.out⟩
    · have hq1 : ((p : Int) == (m : Int)) = false := by simp; omega
      have hq2 : ((p : Int) != (m : Int)) = true := by simp; omega
      go_wp2
      go_ret
      exact ⟨rfl, HB.out⟩

set_option maxRecDepth 100000 in
theorem intervalPropagateSound_lifted (os : Os) (started : os.Started) (H : Type) (enc : TypeId × Value → H) :
    ReturnsInHanded {} Try.checked os 9 .any (Rows.intervalPropagateSoundSpec.pre6 enc Try.prog Try.f9 Rows.intervalPropagateSoundRow.domain false) (Rows.intervalPropagateSoundSpec.post enc Try.prog Try.f9 false true false false) := by
  refine law_lifted (C := Try.checked) (B := 4) Try.own started (by kernel_rfl) Try.func9
    (ChangeSpec.witness6 (enc := enc) (C := Try.checked) false ⟨#[], #[.agg #[.slice none 0 0, .slice none 0 0], .slice none 0 0], []⟩ 8 (by kernel_rfl) (by kernel_rfl) (by kernel_rfl) (by kernel_rfl))
    Try.laidOut (by kernel_rfl) rfl rfl rfl Try.underlying4 (fun ds h => match ds, h with | [_, _], _ => rfl) ?_
  intro W base args ds ps hval hA hlt hsz
  rw [Try.params9] at hA hval hsz
  obtain ⟨v0, vs0, d0, ds0, p0, q0, hargs, rfl, rfl, h0, r0⟩ := trodAll_cons hA
  obtain ⟨v1, vs1, d1, ds1, p1, q1, rfl, rfl, rfl, h1, r1⟩ := trodAll_cons r0
  obtain ⟨rfl, rfl, rfl⟩ := trodAll_nil r1
  obtain rfl : args = #[v0, v1] := by cases args; simp_all
  obtain ⟨A0, n0, c0, R0, D0, m0, e0, T0, rfl, k0, l0, f0, g0, u0, o0⟩ := open_prob (hval 0 45 v0 rfl rfl) h0 (fun x hx => hlt x (by simp [hx])) hsz (j := 0) rfl rfl
  obtain ⟨A1, n1, c1, R1, rfl, k1, l1⟩ := open_xs (hval 1 51 v1 rfl rfl) h1 (fun x hx => hlt x (by simp [hx]))
  exact intervalPropagateSound_walk A0 n0 c0 R0 D0 m0 e0 T0 A1 n1 c1 R1 W k0 l0 f0 g0 u0 o0 k1 l1

theorem intervalPropagateSound_over : Rows.intervalPropagateSoundRow.holds Try.pinned (OpenSpec.ofChange Rows.intervalPropagateSoundSpec) :=
  OpenClaim.holds_of_wide 9 Try.f9 rfl rfl rfl rfl rfl rfl rfl ⟨rfl, rfl, rfl, rfl, rfl⟩ rfl rfl rfl rfl rfl (by kernel_rfl) Try.func9 (by kernel_rfl)
    (of_decide_eq_true (by kernel_rfl)) (by unfold Func.isWrapper; first | (rw [if_pos (by decide +kernel)]; kernel_rfl) | (rw [if_neg (by decide +kernel)]; exact ⟨rfl, rfl⟩))
    (fun os started H enc _ => intervalPropagateSound_lifted os started H enc)

theorem intervalPropagateSound_proved : Rows.IntervalPropagateSoundSaid := intervalPropagateSound_over
end Go.Proofs.Ytnoddkbpdfimmaa
