/- Conditions. -/
import Derived.Test.YtfhbffgnpedaeaaEcp
import Derived.Test.YtfhbffgnpedaeaaEvw
import Derived.Test.YtfhbffgnpedaeaaMix
namespace Go.Proofs.Ytfhbffgnpedaeaa
open Go.ChangeShapes Go.WideShapes Go.ChangeAt Go.RowKit Go.ChangeMaps

theorem ExAt.at' {w : World} {x : Ex} (h : ExAt w x) (hn : 0 < x.args.length) : ∃ b off, x.A = some ⟨b, off, none⟩ ∧ b < w.heap.size ∧ ∀ (W : World), Below w.heap.size w W → ∀ i y, x.args[i]? = some y →
    W.cell? ⟨b, off + i * 8, none⟩ = some (.int .i64 y.op) ∧ W.cell? ⟨b, off + i * 8 + 1, none⟩ = some (.string y.tb) ∧ W.cell? ⟨b, off + i * 8 + 2, none⟩ = some (.string y.nm) ∧ W.cell? ⟨b, off + i * 8 + 3, none⟩ = some (.int .i64 y.ix) ∧ W.cell? ⟨b, off + i * 8 + 4, none⟩ = some (.int .i64 y.v.k) ∧ W.cell? ⟨b, off + i * 8 + 5, none⟩ = some (.int .i64 y.v.n) ∧ W.cell? ⟨b, off + i * 8 + 6, none⟩ = some (.string y.v.s) ∧ W.cell? ⟨b, off + i * 8 + 7, none⟩ = some (.slice y.A y.args.length y.c) := by
  obtain ⟨b, off, e, hb, hc⟩ := h.at hn
  refine ⟨b, off, e, hb, fun W hW i y hy => ?_⟩
  obtain ⟨hi, he⟩ := List.getElem?_eq_some_iff.1 hy
  subst he
  exact hc W hW i hi
def comC (op : Int) : List Int → List V3 → Int
  | [c], [v] => if op = 20 then notM c else if op = 17 then ofM (nullB v) else 2
  | [c, d], [u, v] => if op = 18 then andM c d else if op = 19 then orM c d else cmpM op u v
  | _, _ => 2
mutual
def condM (r : List V3) : Ex → Int
  | .mk op _ _ _ _ _ _ args => comC op (condL r args) (evL r args)
def condL (r : List V3) : List Ex → List Int
  | [] => []
  | a :: l => condM r a :: condL r l
end
theorem condM_eq (r : List V3) (x : Ex) : condM r x = comC x.op (condL r x.args) (evL r x.args) := by cases x; rw [condM]; rfl
theorem condL_len (r : List V3) : ∀ l, (condL r l).length = l.length
  | [] => by simp [condL]
  | a :: l => by simp [condL, condL_len r l]
theorem comC_other (op : Int) (cs : List Int) (vs : List V3) (h1 : cs.length ≠ 1) (h2 : cs.length ≠ 2) : comC op cs vs = 2 := by
  unfold comC
  split
  · simp at h1
  · simp at h2
  · rfl
set_option maxRecDepth 100000 in
set_option maxHeartbeats 4000000 in
theorem Condition_any (R : List V3) (x : Ex) : ∀ (w : World) (A : Option Addr) (n c : Nat), ExAt w x → ExSm x → Vls w A n R → n ≤ 9223372036854775807 → (∀ v ∈ R, v.ok) → Calls Try.prog 15 #[x.agg, .slice A n c] w fun e w' => e = .returned (.int .i64 (condM R x)) ∧ Below w.heap.size w w' := by
  refine Ex.ind (p := fun x => ∀ (w : World) (A : Option Addr) (n c : Nat), ExAt w x → ExSm x → Vls w A n R → n ≤ 9223372036854775807 → (∀ v ∈ R, v.ok) → Calls Try.prog 15 #[x.agg, .slice A n c] w fun e w' => e = .returned (.int .i64 (condM R x)) ∧ Below w.heap.size w w') (fun x ih => ?_) x
  intro w A n c h hsm hrow hn hok
  have HIH := Lib.hid (fun y hy W (hW : Below w.heap.size w W) => ih y hy W A n c ((h.arg y hy).keep hW) (hsm.arg y hy) (hrow.below hW) hn hok)
  have HVA := Lib.hid (fun y hy W (hW : Below w.heap.size w W) => Value_any R y W A n c ((h.arg y hy).keep hW) (hsm.arg y hy) (hrow.below hW) hn hok)
  have HOK := Lib.hid (fun y (hy : y ∈ x.args) => evM_ok R hok y (h.arg y hy))
  have HA := Lib.hid h.at'
  obtain ⟨r, hr⟩ : ∃ r, condM R x = r := ⟨_, rfl⟩
  rw [hr]
  rw [condM_eq] at hr
  have HR := Lib.hid hr
  clear hr ih h hsm hrow hok
  unfold Ex.agg at *
  obtain ⟨op, hop⟩ : ∃ op, x.op = op := ⟨_, rfl⟩
  rw [hop] at HR ⊢
  clear hop
  have HB := Lib.hid (show Below w.heap.size w (w.alloc (.cells #[.int .i64 op, .string x.tb, .string x.nm, .int .i64 x.ix, .int .i64 x.v.k, .int .i64 x.v.n, .string x.v.s, .slice x.A x.args.length x.c] 26)) from (Below.refl _ w).alloc (Nat.le_refl _) _)
  have HK := Lib.hid (show Blk (w.alloc (.cells #[.int .i64 op, .string x.tb, .string x.nm, .int .i64 x.ix, .int .i64 x.v.k, .int .i64 x.v.n, .string x.v.s, .slice x.A x.args.length x.c] 26)) w.heap.size 26 #[.int .i64 op, .string x.tb, .string x.nm, .int .i64 x.ix, .int .i64 x.v.k, .int .i64 x.v.n, .string x.v.s, .slice x.A x.args.length x.c] from Blk.new _ _ _)
  by_cases hl1 : x.args.length = 1
  · obtain ⟨a0, ha0⟩ := List.length_eq_one_iff.1 hl1
    have e1 : ((x.args.length : Int) == 1) = true := by simp; omega
    have e2 : ((x.args.length : Int) == 2) = false := by simp; omega
    have hx0 : 0 < x.args.length := by omega
    have hm0 : a0 ∈ x.args := by rw [ha0]; simp
    obtain ⟨b, off, hA, hbl, hc⟩ := HA.out hx0
    have HC := Lib.hid (fun W hW => hc W hW 0 a0 (by rw [ha0]; rfl))
    have CI := Lib.hid (HIH.out a0 hm0)
    have CV := Lib.hid (HVA.out a0 hm0)
    have HR1 := Lib.hid (show comC op [condM R a0] [evM R a0] = r by rw [← HR.out, ha0]; simp only [condL, evL])
    have hbw : b < w.heap.size := hbl
    clear HR HIH HVA HOK HA hc hbl hm0 ha0 hl1
    have HBW := Lib.hid HB.out
    rw [hA] at HB HK ⊢
    clear hA
    simp only [Nat.zero_mul, Nat.add_zero] at HC
    obtain ⟨c0, c1, c2, c3, c4, c5, c6, c7⟩ := HC.out _ HB.out
    by_cases h20 : op = 20
    · subst h20
      have HF := Lib.hid (show notM (condM R a0) = r by rw [← HR1.out]; rfl)
      go_enter Try.func15, Try.ntmps15
      go_wp2_with fail
      refine (CI.out _ HB.out).mono ?_
      rintro e w1 ⟨rfl, hb⟩
      have HB1 := Lib.hid (HB.out.trans (hb.mono HB.out.size))
      clear hb
      go_wp2_with fail
      refine (Not_any _ _).mono ?_
      rintro e w2 ⟨rfl, rfl⟩
      go_wp2
      go_ret
      exact ⟨by rw [← HF.out]; rfl, HB1.out⟩
    have e20 : (op == 20) = false := by simpa using h20
    by_cases h17 : op = 17
    · subst h17
      have HF := Lib.hid (show ofM (nullB (evM R a0)) = r by rw [← HR1.out]; rfl)
      go_enter Try.func15, Try.ntmps15
      go_wp2_with fail
      unfold V3.agg at CV
      refine (CV.out _ HB.out).mono ?_
      rintro e w1 ⟨rfl, hb⟩
      have HB1 := Lib.hid (HB.out.trans (hb.mono HB.out.size))
      clear hb
      generalize evM R a0 = ev at *
      unfold nullB at HF
      have hfd : ∀ W : World, (Instr.field 23 (.agg #[.int .i64 ev.k, .int .i64 ev.n, .string ev.s]) 0).run Try.prog W = .ok (.int .i64 ev.k) W := fun _ => by kernel_rfl
      obtain ⟨kk, hkk⟩ : ∃ k, ev.k = k := ⟨_, rfl⟩
      simp only [hkk] at hfd HF ⊢
      clear hkk
      by_cases hz : kk = 0
      · subst hz
        go_wp2_with fail
        refine (Of_any _ _).mono ?_
        rintro e w2 ⟨rfl, rfl⟩
        go_wp2
        go_ret
        exact ⟨by rw [← HF.out]; rfl, HB1.out⟩
      · have hz1 : (kk == 0) = false := by simpa using hz
        have HF2 := Lib.hid (show ofM false = r by rw [← HF.out, decide_eq_false hz])
        clear hz HF
        go_wp2_with fail
        refine (Of_any _ _).mono ?_
        rintro e w2 ⟨rfl, rfl⟩
        go_wp2
        go_ret
        exact ⟨by rw [← HF2.out]; rfl, HB1.out⟩
    have e17 : (op == 17) = false := by simpa using h17
    have HF := Lib.hid (show 2 = r by rw [← HR1.out]; simp [comC, h20, h17])
    go_enter Try.func15, Try.ntmps15
    go_wp2
    go_ret
    exact ⟨by rw [← HF.out]; rfl, HB.out⟩
  have e1 : ((x.args.length : Int) == 1) = false := by simp; omega
  by_cases hl2 : x.args.length = 2
  · obtain ⟨a0, a1, ha0⟩ : ∃ a b, x.args = [a, b] := by
      match hx : x.args, hl2 with
      | [a, b], _ => exact ⟨a, b, rfl⟩
    have e2 : ((x.args.length : Int) == 2) = true := by simp; omega
    have hx0 : 0 < x.args.length := by omega
    have hx1 : 1 < x.args.length := by omega
    have hx1i : (1 : Int) < (x.args.length : Int) := by omega
    have hm0 : a0 ∈ x.args := by rw [ha0]; simp
    have hm1 : a1 ∈ x.args := by rw [ha0]; simp
    obtain ⟨b, off, hA, hbl, hc⟩ := HA.out hx0
    have HC := Lib.hid (fun W hW => hc W hW 0 a0 (by rw [ha0]; rfl))
    have HD := Lib.hid (fun W hW => hc W hW 1 a1 (by rw [ha0]; rfl))
    have CI := Lib.hid (HIH.out a0 hm0)
    have CI1 := Lib.hid (HIH.out a1 hm1)
    have CV := Lib.hid (HVA.out a0 hm0)
    have CV1 := Lib.hid (HVA.out a1 hm1)
    have ok0 := Lib.hid (HOK.out a0 hm0)
    have ok1 := Lib.hid (HOK.out a1 hm1)
    have HR1 := Lib.hid (show comC op [condM R a0, condM R a1] [evM R a0, evM R a1] = r by rw [← HR.out, ha0]; simp only [condL, evL])
    have hbw : b < w.heap.size := hbl
    clear HR HIH HVA HOK HA hc hbl hm0 hm1 ha0 hl1 hl2
    rw [hA] at HB HK ⊢
    clear hA
    simp only [Nat.zero_mul, Nat.add_zero, Nat.one_mul, Nat.add_assoc, Nat.reduceAdd] at HC HD
    obtain ⟨W0, hW0⟩ : ∃ W, W = w.alloc (.cells #[.int .i64 op, .string x.tb, .string x.nm, .int .i64 x.ix, .int .i64 x.v.k, .int .i64 x.v.n, .string x.v.s, .slice (some ⟨b, off, none⟩) x.args.length x.c] 26) := ⟨_, rfl⟩
    rw [← hW0] at HB HK
    obtain ⟨c0, c1, c2, c3, c4, c5, c6, c7⟩ := HC.out _ HB.out
    obtain ⟨d0, d1, d2, d3, d4, d5, d6, d7⟩ := HD.out _ HB.out
    have k0 : W0.cell? ⟨w.heap.size, 0, none⟩ = some (.int .i64 op) := HK.out.cell 0
    have k7 : W0.cell? ⟨w.heap.size, 7, none⟩ = some (.slice (some ⟨b, off, none⟩) x.args.length x.c) := HK.out.cell 7
    by_cases h18 : op = 18
    · subst h18
      have HF := Lib.hid (show andM (condM R a0) (condM R a1) = r by rw [← HR1.out]; rfl)
      go_enter Try.func15, Try.ntmps15
      go_wp2_with fail
      rw [← hW0]
      clear hW0
      have hb : Below W0.heap.size W0 W0.drew := below_drew (Below.refl _ _)
      refine wp_region_mix 13 (fun w' => Below W0.heap.size W0 w') (by kernel_rfl) (by decide) ?_
      generalize W0.drew = y0 at hb ⊢
      refine wpM_take (i := 0) (oi := ⟨some 51, _, _, _, _, _⟩) (v := ?_) rfl (by decide +kernel) (by decide +kernel) (by decide +kernel) (fun _ _ _ h => h) (Or.inl ⟨by rfl, ?_⟩) hb ?_
      case refine_2 =>
        intro w' hSw
        have k0' := keepcell hSw k0
        have k7' := keepcell hSw k7
        have c0' := keepcell hSw c0
        have c1' := keepcell hSw c1
        have c2' := keepcell hSw c2
        have c3' := keepcell hSw c3
        have c4' := keepcell hSw c4
        have c5' := keepcell hSw c5
        have c6' := keepcell hSw c6
        have c7' := keepcell hSw c7
        have d0' := keepcell hSw d0
        have d1' := keepcell hSw d1
        have d2' := keepcell hSw d2
        have d3' := keepcell hSw d3
        have d4' := keepcell hSw d4
        have d5' := keepcell hSw d5
        have d6' := keepcell hSw d6
        have d7' := keepcell hSw d7
        go_simp
        try (with_reducible rfl)
      try simp only [Act.put, List.setIfInBounds_toArray, List.set_cons_zero, List.set_cons_succ]
      refine wpM_take (i := 1) (oi := ⟨some 52, _, _, _, _, _⟩) (v := ?_) rfl (by decide +kernel) (by decide +kernel) (by decide +kernel) (fun _ _ _ h => h) (Or.inl ⟨by rfl, ?_⟩) hb ?_
      case refine_2 =>
        intro w' hSw
        have k0' := keepcell hSw k0
        have k7' := keepcell hSw k7
        have c0' := keepcell hSw c0
        have c1' := keepcell hSw c1
        have c2' := keepcell hSw c2
        have c3' := keepcell hSw c3
        have c4' := keepcell hSw c4
        have c5' := keepcell hSw c5
        have c6' := keepcell hSw c6
        have c7' := keepcell hSw c7
        have d0' := keepcell hSw d0
        have d1' := keepcell hSw d1
        have d2' := keepcell hSw d2
        have d3' := keepcell hSw d3
        have d4' := keepcell hSw d4
        have d5' := keepcell hSw d5
        have d6' := keepcell hSw d6
        have d7' := keepcell hSw d7
        go_simp
        try (with_reducible rfl)
      try simp only [Act.put, List.setIfInBounds_toArray, List.set_cons_zero, List.set_cons_succ]
      refine wpM_take (i := 2) (oi := ⟨some 53, _, _, _, _, _⟩) (v := ?_) rfl (by decide +kernel) (by decide +kernel) (by decide +kernel) (fun _ _ _ h => h) (Or.inl ⟨by rfl, ?_⟩) hb ?_
      case refine_2 =>
        intro w' hSw
        have k0' := keepcell hSw k0
        have k7' := keepcell hSw k7
        have c0' := keepcell hSw c0
        have c1' := keepcell hSw c1
        have c2' := keepcell hSw c2
        have c3' := keepcell hSw c3
        have c4' := keepcell hSw c4
        have c5' := keepcell hSw c5
        have c6' := keepcell hSw c6
        have c7' := keepcell hSw c7
        have d0' := keepcell hSw d0
        have d1' := keepcell hSw d1
        have d2' := keepcell hSw d2
        have d3' := keepcell hSw d3
        have d4' := keepcell hSw d4
        have d5' := keepcell hSw d5
        have d6' := keepcell hSw d6
        have d7' := keepcell hSw d7
        go_simp
        try (with_reducible rfl)
      try simp only [Act.put, List.setIfInBounds_toArray, List.set_cons_zero, List.set_cons_succ]
      refine wpM_take (i := 3) (oi := ⟨some 54, _, _, _, _, _⟩) (v := ?_) rfl (by decide +kernel) (by decide +kernel) (by decide +kernel) (fun _ _ _ h => h) (Or.inl ⟨by rfl, ?_⟩) hb ?_
      case refine_2 =>
        intro w' hSw
        have k0' := keepcell hSw k0
        have k7' := keepcell hSw k7
        have c0' := keepcell hSw c0
        have c1' := keepcell hSw c1
        have c2' := keepcell hSw c2
        have c3' := keepcell hSw c3
        have c4' := keepcell hSw c4
        have c5' := keepcell hSw c5
        have c6' := keepcell hSw c6
        have c7' := keepcell hSw c7
        have d0' := keepcell hSw d0
        have d1' := keepcell hSw d1
        have d2' := keepcell hSw d2
        have d3' := keepcell hSw d3
        have d4' := keepcell hSw d4
        have d5' := keepcell hSw d5
        have d6' := keepcell hSw d6
        have d7' := keepcell hSw d7
        go_simp
        try (with_reducible rfl)
      try simp only [Act.put, List.setIfInBounds_toArray, List.set_cons_zero, List.set_cons_succ]
      refine wpM_take (i := 4) (oi := ⟨some 55, _, _, _, _, _⟩) (v := ?_) rfl (by decide +kernel) (by decide +kernel) (by decide +kernel) (fun _ _ _ h => h) (Or.inl ⟨by rfl, ?_⟩) hb ?_
      case refine_2 =>
        intro w' hSw
        have k0' := keepcell hSw k0
        have k7' := keepcell hSw k7
        have c0' := keepcell hSw c0
        have c1' := keepcell hSw c1
        have c2' := keepcell hSw c2
        have c3' := keepcell hSw c3
        have c4' := keepcell hSw c4
        have c5' := keepcell hSw c5
        have c6' := keepcell hSw c6
        have c7' := keepcell hSw c7
        have d0' := keepcell hSw d0
        have d1' := keepcell hSw d1
        have d2' := keepcell hSw d2
        have d3' := keepcell hSw d3
        have d4' := keepcell hSw d4
        have d5' := keepcell hSw d5
        have d6' := keepcell hSw d6
        have d7' := keepcell hSw d7
        go_simp
        try (with_reducible rfl)
      try simp only [Act.put, List.setIfInBounds_toArray, List.set_cons_zero, List.set_cons_succ]
      refine wpM_take (i := 6) (oi := ⟨some 57, _, _, _, _, _⟩) (v := ?_) rfl (by decide +kernel) (by decide +kernel) (by decide +kernel) (fun _ _ _ h => h) (Or.inl ⟨by rfl, ?_⟩) hb ?_
      case refine_2 =>
        intro w' hSw
        have k0' := keepcell hSw k0
        have k7' := keepcell hSw k7
        have c0' := keepcell hSw c0
        have c1' := keepcell hSw c1
        have c2' := keepcell hSw c2
        have c3' := keepcell hSw c3
        have c4' := keepcell hSw c4
        have c5' := keepcell hSw c5
        have c6' := keepcell hSw c6
        have c7' := keepcell hSw c7
        have d0' := keepcell hSw d0
        have d1' := keepcell hSw d1
        have d2' := keepcell hSw d2
        have d3' := keepcell hSw d3
        have d4' := keepcell hSw d4
        have d5' := keepcell hSw d5
        have d6' := keepcell hSw d6
        have d7' := keepcell hSw d7
        go_simp
        try (with_reducible rfl)
      try simp only [Act.put, List.setIfInBounds_toArray, List.set_cons_zero, List.set_cons_succ]
      refine wpM_take (i := 7) (oi := ⟨some 58, _, _, _, _, _⟩) (v := ?_) rfl (by decide +kernel) (by decide +kernel) (by decide +kernel) (fun _ _ _ h => h) (Or.inl ⟨by rfl, ?_⟩) hb ?_
      case refine_2 =>
        intro w' hSw
        have k0' := keepcell hSw k0
        have k7' := keepcell hSw k7
        have c0' := keepcell hSw c0
        have c1' := keepcell hSw c1
        have c2' := keepcell hSw c2
        have c3' := keepcell hSw c3
        have c4' := keepcell hSw c4
        have c5' := keepcell hSw c5
        have c6' := keepcell hSw c6
        have c7' := keepcell hSw c7
        have d0' := keepcell hSw d0
        have d1' := keepcell hSw d1
        have d2' := keepcell hSw d2
        have d3' := keepcell hSw d3
        have d4' := keepcell hSw d4
        have d5' := keepcell hSw d5
        have d6' := keepcell hSw d6
        have d7' := keepcell hSw d7
        go_simp
        try (with_reducible rfl)
      try simp only [Act.put, List.setIfInBounds_toArray, List.set_cons_zero, List.set_cons_succ]
      refine wpM_take (i := 8) (oi := ⟨some 59, _, _, _, _, _⟩) (v := ?_) rfl (by decide +kernel) (by decide +kernel) (by decide +kernel) (fun _ _ _ h => h) (Or.inl ⟨by rfl, ?_⟩) hb ?_
      case refine_2 =>
        intro w' hSw
        have k0' := keepcell hSw k0
        have k7' := keepcell hSw k7
        have c0' := keepcell hSw c0
        have c1' := keepcell hSw c1
        have c2' := keepcell hSw c2
        have c3' := keepcell hSw c3
        have c4' := keepcell hSw c4
        have c5' := keepcell hSw c5
        have c6' := keepcell hSw c6
        have c7' := keepcell hSw c7
        have d0' := keepcell hSw d0
        have d1' := keepcell hSw d1
        have d2' := keepcell hSw d2
        have d3' := keepcell hSw d3
        have d4' := keepcell hSw d4
        have d5' := keepcell hSw d5
        have d6' := keepcell hSw d6
        have d7' := keepcell hSw d7
        go_simp
        try (with_reducible rfl)
      try simp only [Act.put, List.setIfInBounds_toArray, List.set_cons_zero, List.set_cons_succ]
      refine wpM_take (i := 9) (oi := ⟨some 60, _, _, _, _, _⟩) (v := ?_) rfl (by decide +kernel) (by decide +kernel) (by decide +kernel) (fun _ _ _ h => h) (Or.inl ⟨by rfl, ?_⟩) hb ?_
      case refine_2 =>
        intro w' hSw
        have k0' := keepcell hSw k0
        have k7' := keepcell hSw k7
        have c0' := keepcell hSw c0
        have c1' := keepcell hSw c1
        have c2' := keepcell hSw c2
        have c3' := keepcell hSw c3
        have c4' := keepcell hSw c4
        have c5' := keepcell hSw c5
        have c6' := keepcell hSw c6
        have c7' := keepcell hSw c7
        have d0' := keepcell hSw d0
        have d1' := keepcell hSw d1
        have d2' := keepcell hSw d2
        have d3' := keepcell hSw d3
        have d4' := keepcell hSw d4
        have d5' := keepcell hSw d5
        have d6' := keepcell hSw d6
        have d7' := keepcell hSw d7
        go_simp
        try (with_reducible rfl)
      try simp only [Act.put, List.setIfInBounds_toArray, List.set_cons_zero, List.set_cons_succ]
      refine wpM_take (i := 10) (oi := ⟨some 61, _, _, _, _, _⟩) (v := ?_) rfl (by decide +kernel) (by decide +kernel) (by decide +kernel) (fun _ _ _ h => h) (Or.inl ⟨by rfl, ?_⟩) hb ?_
      case refine_2 =>
        intro w' hSw
        have k0' := keepcell hSw k0
        have k7' := keepcell hSw k7
        have c0' := keepcell hSw c0
        have c1' := keepcell hSw c1
        have c2' := keepcell hSw c2
        have c3' := keepcell hSw c3
        have c4' := keepcell hSw c4
        have c5' := keepcell hSw c5
        have c6' := keepcell hSw c6
        have c7' := keepcell hSw c7
        have d0' := keepcell hSw d0
        have d1' := keepcell hSw d1
        have d2' := keepcell hSw d2
        have d3' := keepcell hSw d3
        have d4' := keepcell hSw d4
        have d5' := keepcell hSw d5
        have d6' := keepcell hSw d6
        have d7' := keepcell hSw d7
        go_simp
        try (with_reducible rfl)
      try simp only [Act.put, List.setIfInBounds_toArray, List.set_cons_zero, List.set_cons_succ]
      refine wpM_step (i := 5) (o := ⟨some 56, _, _, _, _, _⟩) rfl (by decide +kernel) (by decide) (fun K hK => ?_)
      go_simp
      refine (CI.out y0 (HB.out.trans (hb.mono HB.out.size))).mono ?_
      rintro e y1 ⟨rfl, h1⟩
      have b1 : Below W0.heap.size W0 y1 := hb.trans (h1.mono hb.size)
      clear h1
      refine hK.out _ _ b1 ?_
      clear hK K
      try simp only [Act.put, List.setIfInBounds_toArray, List.set_cons_zero, List.set_cons_succ]
      refine wpM_step (i := 11) (o := ⟨some 62, _, _, _, _, _⟩) rfl (by decide +kernel) (by decide) (fun K hK => ?_)
      go_simp
      refine (CI1.out y1 (HB.out.trans (b1.mono HB.out.size))).mono ?_
      rintro e y2 ⟨rfl, h2⟩
      have b2 : Below W0.heap.size W0 y2 := b1.trans (h2.mono b1.size)
      clear h2
      refine hK.out _ _ b2 ?_
      clear hK K
      try simp only [Act.put, List.setIfInBounds_toArray, List.set_cons_zero, List.set_cons_succ]
      refine wpM_step (i := 12) (o := ⟨some 63, _, _, _, _, _⟩) rfl (by decide +kernel) (by decide) (fun K hK => ?_)
      go_simp
      refine (And_any _ _ _).mono ?_
      rintro e y ⟨rfl, rfl⟩
      refine hK.out _ _ b2 ?_
      clear hK K
      try simp only [Act.put, List.setIfInBounds_toArray, List.set_cons_zero, List.set_cons_succ]
      refine wpM_done (by decide +kernel) ?_
      simp only [List.drop_succ_cons, List.drop_zero]
      go_wp2
      go_ret
      exact ⟨by rw [← HF.out]; rfl, HB.out.trans (b2.mono HB.out.size)⟩
    by_cases h19 : op = 19
    · subst h19
      have HF := Lib.hid (show orM (condM R a0) (condM R a1) = r by rw [← HR1.out]; rfl)
      go_enter Try.func15, Try.ntmps15
      go_wp2_with fail
      rw [← hW0]
      clear hW0
      have hb : Below W0.heap.size W0 W0.drew := below_drew (Below.refl _ _)
      refine wp_region_mix 13 (fun w' => Below W0.heap.size W0 w') (by kernel_rfl) (by decide) ?_
      generalize W0.drew = y0 at hb ⊢
      refine wpM_take (i := 0) (oi := ⟨some 74, _, _, _, _, _⟩) (v := ?_) rfl (by decide +kernel) (by decide +kernel) (by decide +kernel) (fun _ _ _ h => h) (Or.inl ⟨by rfl, ?_⟩) hb ?_
      case refine_2 =>
        intro w' hSw
        have k0' := keepcell hSw k0
        have k7' := keepcell hSw k7
        have c0' := keepcell hSw c0
        have c1' := keepcell hSw c1
        have c2' := keepcell hSw c2
        have c3' := keepcell hSw c3
        have c4' := keepcell hSw c4
        have c5' := keepcell hSw c5
        have c6' := keepcell hSw c6
        have c7' := keepcell hSw c7
        have d0' := keepcell hSw d0
        have d1' := keepcell hSw d1
        have d2' := keepcell hSw d2
        have d3' := keepcell hSw d3
        have d4' := keepcell hSw d4
        have d5' := keepcell hSw d5
        have d6' := keepcell hSw d6
        have d7' := keepcell hSw d7
        go_simp
        try (with_reducible rfl)
      try simp only [Act.put, List.setIfInBounds_toArray, List.set_cons_zero, List.set_cons_succ]
      refine wpM_take (i := 1) (oi := ⟨some 75, _, _, _, _, _⟩) (v := ?_) rfl (by decide +kernel) (by decide +kernel) (by decide +kernel) (fun _ _ _ h => h) (Or.inl ⟨by rfl, ?_⟩) hb ?_
      case refine_2 =>
        intro w' hSw
        have k0' := keepcell hSw k0
        have k7' := keepcell hSw k7
        have c0' := keepcell hSw c0
        have c1' := keepcell hSw c1
        have c2' := keepcell hSw c2
        have c3' := keepcell hSw c3
        have c4' := keepcell hSw c4
        have c5' := keepcell hSw c5
        have c6' := keepcell hSw c6
        have c7' := keepcell hSw c7
        have d0' := keepcell hSw d0
        have d1' := keepcell hSw d1
        have d2' := keepcell hSw d2
        have d3' := keepcell hSw d3
        have d4' := keepcell hSw d4
        have d5' := keepcell hSw d5
        have d6' := keepcell hSw d6
        have d7' := keepcell hSw d7
        go_simp
        try (with_reducible rfl)
      try simp only [Act.put, List.setIfInBounds_toArray, List.set_cons_zero, List.set_cons_succ]
      refine wpM_take (i := 2) (oi := ⟨some 76, _, _, _, _, _⟩) (v := ?_) rfl (by decide +kernel) (by decide +kernel) (by decide +kernel) (fun _ _ _ h => h) (Or.inl ⟨by rfl, ?_⟩) hb ?_
      case refine_2 =>
        intro w' hSw
        have k0' := keepcell hSw k0
        have k7' := keepcell hSw k7
        have c0' := keepcell hSw c0
        have c1' := keepcell hSw c1
        have c2' := keepcell hSw c2
        have c3' := keepcell hSw c3
        have c4' := keepcell hSw c4
        have c5' := keepcell hSw c5
        have c6' := keepcell hSw c6
        have c7' := keepcell hSw c7
        have d0' := keepcell hSw d0
        have d1' := keepcell hSw d1
        have d2' := keepcell hSw d2
        have d3' := keepcell hSw d3
        have d4' := keepcell hSw d4
        have d5' := keepcell hSw d5
        have d6' := keepcell hSw d6
        have d7' := keepcell hSw d7
        go_simp
        try (with_reducible rfl)
      try simp only [Act.put, List.setIfInBounds_toArray, List.set_cons_zero, List.set_cons_succ]
      refine wpM_take (i := 3) (oi := ⟨some 77, _, _, _, _, _⟩) (v := ?_) rfl (by decide +kernel) (by decide +kernel) (by decide +kernel) (fun _ _ _ h => h) (Or.inl ⟨by rfl, ?_⟩) hb ?_
      case refine_2 =>
        intro w' hSw
        have k0' := keepcell hSw k0
        have k7' := keepcell hSw k7
        have c0' := keepcell hSw c0
        have c1' := keepcell hSw c1
        have c2' := keepcell hSw c2
        have c3' := keepcell hSw c3
        have c4' := keepcell hSw c4
        have c5' := keepcell hSw c5
        have c6' := keepcell hSw c6
        have c7' := keepcell hSw c7
        have d0' := keepcell hSw d0
        have d1' := keepcell hSw d1
        have d2' := keepcell hSw d2
        have d3' := keepcell hSw d3
        have d4' := keepcell hSw d4
        have d5' := keepcell hSw d5
        have d6' := keepcell hSw d6
        have d7' := keepcell hSw d7
        go_simp
        try (with_reducible rfl)
      try simp only [Act.put, List.setIfInBounds_toArray, List.set_cons_zero, List.set_cons_succ]
      refine wpM_take (i := 4) (oi := ⟨some 78, _, _, _, _, _⟩) (v := ?_) rfl (by decide +kernel) (by decide +kernel) (by decide +kernel) (fun _ _ _ h => h) (Or.inl ⟨by rfl, ?_⟩) hb ?_
      case refine_2 =>
        intro w' hSw
        have k0' := keepcell hSw k0
        have k7' := keepcell hSw k7
        have c0' := keepcell hSw c0
        have c1' := keepcell hSw c1
        have c2' := keepcell hSw c2
        have c3' := keepcell hSw c3
        have c4' := keepcell hSw c4
        have c5' := keepcell hSw c5
        have c6' := keepcell hSw c6
        have c7' := keepcell hSw c7
        have d0' := keepcell hSw d0
        have d1' := keepcell hSw d1
        have d2' := keepcell hSw d2
        have d3' := keepcell hSw d3
        have d4' := keepcell hSw d4
        have d5' := keepcell hSw d5
        have d6' := keepcell hSw d6
        have d7' := keepcell hSw d7
        go_simp
        try (with_reducible rfl)
      try simp only [Act.put, List.setIfInBounds_toArray, List.set_cons_zero, List.set_cons_succ]
      refine wpM_take (i := 6) (oi := ⟨some 80, _, _, _, _, _⟩) (v := ?_) rfl (by decide +kernel) (by decide +kernel) (by decide +kernel) (fun _ _ _ h => h) (Or.inl ⟨by rfl, ?_⟩) hb ?_
      case refine_2 =>
        intro w' hSw
        have k0' := keepcell hSw k0
        have k7' := keepcell hSw k7
        have c0' := keepcell hSw c0
        have c1' := keepcell hSw c1
        have c2' := keepcell hSw c2
        have c3' := keepcell hSw c3
        have c4' := keepcell hSw c4
        have c5' := keepcell hSw c5
        have c6' := keepcell hSw c6
        have c7' := keepcell hSw c7
        have d0' := keepcell hSw d0
        have d1' := keepcell hSw d1
        have d2' := keepcell hSw d2
        have d3' := keepcell hSw d3
        have d4' := keepcell hSw d4
        have d5' := keepcell hSw d5
        have d6' := keepcell hSw d6
        have d7' := keepcell hSw d7
        go_simp
        try (with_reducible rfl)
      try simp only [Act.put, List.setIfInBounds_toArray, List.set_cons_zero, List.set_cons_succ]
      refine wpM_take (i := 7) (oi := ⟨some 81, _, _, _, _, _⟩) (v := ?_) rfl (by decide +kernel) (by decide +kernel) (by decide +kernel) (fun _ _ _ h => h) (Or.inl ⟨by rfl, ?_⟩) hb ?_
      case refine_2 =>
        intro w' hSw
        have k0' := keepcell hSw k0
        have k7' := keepcell hSw k7
        have c0' := keepcell hSw c0
        have c1' := keepcell hSw c1
        have c2' := keepcell hSw c2
        have c3' := keepcell hSw c3
        have c4' := keepcell hSw c4
        have c5' := keepcell hSw c5
        have c6' := keepcell hSw c6
        have c7' := keepcell hSw c7
        have d0' := keepcell hSw d0
        have d1' := keepcell hSw d1
        have d2' := keepcell hSw d2
        have d3' := keepcell hSw d3
        have d4' := keepcell hSw d4
        have d5' := keepcell hSw d5
        have d6' := keepcell hSw d6
        have d7' := keepcell hSw d7
        go_simp
        try (with_reducible rfl)
      try simp only [Act.put, List.setIfInBounds_toArray, List.set_cons_zero, List.set_cons_succ]
      refine wpM_take (i := 8) (oi := ⟨some 82, _, _, _, _, _⟩) (v := ?_) rfl (by decide +kernel) (by decide +kernel) (by decide +kernel) (fun _ _ _ h => h) (Or.inl ⟨by rfl, ?_⟩) hb ?_
      case refine_2 =>
        intro w' hSw
        have k0' := keepcell hSw k0
        have k7' := keepcell hSw k7
        have c0' := keepcell hSw c0
        have c1' := keepcell hSw c1
        have c2' := keepcell hSw c2
        have c3' := keepcell hSw c3
        have c4' := keepcell hSw c4
        have c5' := keepcell hSw c5
        have c6' := keepcell hSw c6
        have c7' := keepcell hSw c7
        have d0' := keepcell hSw d0
        have d1' := keepcell hSw d1
        have d2' := keepcell hSw d2
        have d3' := keepcell hSw d3
        have d4' := keepcell hSw d4
        have d5' := keepcell hSw d5
        have d6' := keepcell hSw d6
        have d7' := keepcell hSw d7
        go_simp
        try (with_reducible rfl)
      try simp only [Act.put, List.setIfInBounds_toArray, List.set_cons_zero, List.set_cons_succ]
      refine wpM_take (i := 9) (oi := ⟨some 83, _, _, _, _, _⟩) (v := ?_) rfl (by decide +kernel) (by decide +kernel) (by decide +kernel) (fun _ _ _ h => h) (Or.inl ⟨by rfl, ?_⟩) hb ?_
      case refine_2 =>
        intro w' hSw
        have k0' := keepcell hSw k0
        have k7' := keepcell hSw k7
        have c0' := keepcell hSw c0
        have c1' := keepcell hSw c1
        have c2' := keepcell hSw c2
        have c3' := keepcell hSw c3
        have c4' := keepcell hSw c4
        have c5' := keepcell hSw c5
        have c6' := keepcell hSw c6
        have c7' := keepcell hSw c7
        have d0' := keepcell hSw d0
        have d1' := keepcell hSw d1
        have d2' := keepcell hSw d2
        have d3' := keepcell hSw d3
        have d4' := keepcell hSw d4
        have d5' := keepcell hSw d5
        have d6' := keepcell hSw d6
        have d7' := keepcell hSw d7
        go_simp
        try (with_reducible rfl)
      try simp only [Act.put, List.setIfInBounds_toArray, List.set_cons_zero, List.set_cons_succ]
      refine wpM_take (i := 10) (oi := ⟨some 84, _, _, _, _, _⟩) (v := ?_) rfl (by decide +kernel) (by decide +kernel) (by decide +kernel) (fun _ _ _ h => h) (Or.inl ⟨by rfl, ?_⟩) hb ?_
      case refine_2 =>
        intro w' hSw
        have k0' := keepcell hSw k0
        have k7' := keepcell hSw k7
        have c0' := keepcell hSw c0
        have c1' := keepcell hSw c1
        have c2' := keepcell hSw c2
        have c3' := keepcell hSw c3
        have c4' := keepcell hSw c4
        have c5' := keepcell hSw c5
        have c6' := keepcell hSw c6
        have c7' := keepcell hSw c7
        have d0' := keepcell hSw d0
        have d1' := keepcell hSw d1
        have d2' := keepcell hSw d2
        have d3' := keepcell hSw d3
        have d4' := keepcell hSw d4
        have d5' := keepcell hSw d5
        have d6' := keepcell hSw d6
        have d7' := keepcell hSw d7
        go_simp
        try (with_reducible rfl)
      try simp only [Act.put, List.setIfInBounds_toArray, List.set_cons_zero, List.set_cons_succ]
      refine wpM_step (i := 5) (o := ⟨some 79, _, _, _, _, _⟩) rfl (by decide +kernel) (by decide) (fun K hK => ?_)
      go_simp
      refine (CI.out y0 (HB.out.trans (hb.mono HB.out.size))).mono ?_
      rintro e y1 ⟨rfl, h1⟩
      have b1 : Below W0.heap.size W0 y1 := hb.trans (h1.mono hb.size)
      clear h1
      refine hK.out _ _ b1 ?_
      clear hK K
      try simp only [Act.put, List.setIfInBounds_toArray, List.set_cons_zero, List.set_cons_succ]
      refine wpM_step (i := 11) (o := ⟨some 85, _, _, _, _, _⟩) rfl (by decide +kernel) (by decide) (fun K hK => ?_)
      go_simp
      refine (CI1.out y1 (HB.out.trans (b1.mono HB.out.size))).mono ?_
      rintro e y2 ⟨rfl, h2⟩
      have b2 : Below W0.heap.size W0 y2 := b1.trans (h2.mono b1.size)
      clear h2
      refine hK.out _ _ b2 ?_
      clear hK K
      try simp only [Act.put, List.setIfInBounds_toArray, List.set_cons_zero, List.set_cons_succ]
      refine wpM_step (i := 12) (o := ⟨some 86, _, _, _, _, _⟩) rfl (by decide +kernel) (by decide) (fun K hK => ?_)
      go_simp
      refine (Or_any _ _ _).mono ?_
      rintro e y ⟨rfl, rfl⟩
      refine hK.out _ _ b2 ?_
      clear hK K
      try simp only [Act.put, List.setIfInBounds_toArray, List.set_cons_zero, List.set_cons_succ]
      refine wpM_done (by decide +kernel) ?_
      simp only [List.drop_succ_cons, List.drop_zero]
      go_wp2
      go_ret
      exact ⟨by rw [← HF.out]; rfl, HB.out.trans (b2.mono HB.out.size)⟩
    have e18 : (op == 18) = false := by simpa using h18
    have e19 : (op == 19) = false := by simpa using h19
    have HF := Lib.hid (show cmpM op (evM R a0) (evM R a1) = r by rw [← HR1.out]; simp [comC, h18, h19])
    go_enter Try.func15, Try.ntmps15
    go_wp2_with fail
    rw [← hW0]
    clear hW0
    generalize evM R a0 = ev0 at *
    generalize evM R a1 = ev1 at *
    have CC := Lib.hid (fun W => comparison_any op ev0 ev1 W ok0.out ok1.out)
    unfold V3.agg at CV CV1 CC
    have hb : Below W0.heap.size W0 W0.drew := below_drew (Below.refl _ _)
    refine wp_region_mix 15 (fun w' => Below W0.heap.size W0 w') (by kernel_rfl) (by decide) ?_
    generalize W0.drew = y0 at hb ⊢
    refine wpM_take (i := 0) (oi := ⟨some 92, _, _, _, _, _⟩) (v := ?_) rfl (by decide +kernel) (by decide +kernel) (by decide +kernel) (fun _ _ _ h => h) (Or.inl ⟨by rfl, ?_⟩) hb ?_
    case refine_2 =>
      intro w' hSw
      have k0' := keepcell hSw k0
      have k7' := keepcell hSw k7
      have c0' := keepcell hSw c0
      have c1' := keepcell hSw c1
      have c2' := keepcell hSw c2
      have c3' := keepcell hSw c3
      have c4' := keepcell hSw c4
      have c5' := keepcell hSw c5
      have c6' := keepcell hSw c6
      have c7' := keepcell hSw c7
      have d0' := keepcell hSw d0
      have d1' := keepcell hSw d1
      have d2' := keepcell hSw d2
      have d3' := keepcell hSw d3
      have d4' := keepcell hSw d4
      have d5' := keepcell hSw d5
      have d6' := keepcell hSw d6
      have d7' := keepcell hSw d7
      go_simp
      try (with_reducible rfl)
    try simp only [Act.put, List.setIfInBounds_toArray, List.set_cons_zero, List.set_cons_succ]
    refine wpM_take (i := 1) (oi := ⟨some 93, _, _, _, _, _⟩) (v := ?_) rfl (by decide +kernel) (by decide +kernel) (by decide +kernel) (fun _ _ _ h => h) (Or.inl ⟨by rfl, ?_⟩) hb ?_
    case refine_2 =>
      intro w' hSw
      have k0' := keepcell hSw k0
      have k7' := keepcell hSw k7
      have c0' := keepcell hSw c0
      have c1' := keepcell hSw c1
      have c2' := keepcell hSw c2
      have c3' := keepcell hSw c3
      have c4' := keepcell hSw c4
      have c5' := keepcell hSw c5
      have c6' := keepcell hSw c6
      have c7' := keepcell hSw c7
      have d0' := keepcell hSw d0
      have d1' := keepcell hSw d1
      have d2' := keepcell hSw d2
      have d3' := keepcell hSw d3
      have d4' := keepcell hSw d4
      have d5' := keepcell hSw d5
      have d6' := keepcell hSw d6
      have d7' := keepcell hSw d7
      go_simp
      try (with_reducible rfl)
    try simp only [Act.put, List.setIfInBounds_toArray, List.set_cons_zero, List.set_cons_succ]
    refine wpM_take (i := 2) (oi := ⟨some 94, _, _, _, _, _⟩) (v := ?_) rfl (by decide +kernel) (by decide +kernel) (by decide +kernel) (fun _ _ _ h => h) (Or.inl ⟨by rfl, ?_⟩) hb ?_
    case refine_2 =>
      intro w' hSw
      have k0' := keepcell hSw k0
      have k7' := keepcell hSw k7
      have c0' := keepcell hSw c0
      have c1' := keepcell hSw c1
      have c2' := keepcell hSw c2
      have c3' := keepcell hSw c3
      have c4' := keepcell hSw c4
      have c5' := keepcell hSw c5
      have c6' := keepcell hSw c6
      have c7' := keepcell hSw c7
      have d0' := keepcell hSw d0
      have d1' := keepcell hSw d1
      have d2' := keepcell hSw d2
      have d3' := keepcell hSw d3
      have d4' := keepcell hSw d4
      have d5' := keepcell hSw d5
      have d6' := keepcell hSw d6
      have d7' := keepcell hSw d7
      go_simp
      try (with_reducible rfl)
    try simp only [Act.put, List.setIfInBounds_toArray, List.set_cons_zero, List.set_cons_succ]
    refine wpM_take (i := 3) (oi := ⟨some 95, _, _, _, _, _⟩) (v := ?_) rfl (by decide +kernel) (by decide +kernel) (by decide +kernel) (fun _ _ _ h => h) (Or.inl ⟨by rfl, ?_⟩) hb ?_
    case refine_2 =>
      intro w' hSw
      have k0' := keepcell hSw k0
      have k7' := keepcell hSw k7
      have c0' := keepcell hSw c0
      have c1' := keepcell hSw c1
      have c2' := keepcell hSw c2
      have c3' := keepcell hSw c3
      have c4' := keepcell hSw c4
      have c5' := keepcell hSw c5
      have c6' := keepcell hSw c6
      have c7' := keepcell hSw c7
      have d0' := keepcell hSw d0
      have d1' := keepcell hSw d1
      have d2' := keepcell hSw d2
      have d3' := keepcell hSw d3
      have d4' := keepcell hSw d4
      have d5' := keepcell hSw d5
      have d6' := keepcell hSw d6
      have d7' := keepcell hSw d7
      go_simp
      try (with_reducible rfl)
    try simp only [Act.put, List.setIfInBounds_toArray, List.set_cons_zero, List.set_cons_succ]
    refine wpM_take (i := 4) (oi := ⟨some 96, _, _, _, _, _⟩) (v := ?_) rfl (by decide +kernel) (by decide +kernel) (by decide +kernel) (fun _ _ _ h => h) (Or.inl ⟨by rfl, ?_⟩) hb ?_
    case refine_2 =>
      intro w' hSw
      have k0' := keepcell hSw k0
      have k7' := keepcell hSw k7
      have c0' := keepcell hSw c0
      have c1' := keepcell hSw c1
      have c2' := keepcell hSw c2
      have c3' := keepcell hSw c3
      have c4' := keepcell hSw c4
      have c5' := keepcell hSw c5
      have c6' := keepcell hSw c6
      have c7' := keepcell hSw c7
      have d0' := keepcell hSw d0
      have d1' := keepcell hSw d1
      have d2' := keepcell hSw d2
      have d3' := keepcell hSw d3
      have d4' := keepcell hSw d4
      have d5' := keepcell hSw d5
      have d6' := keepcell hSw d6
      have d7' := keepcell hSw d7
      go_simp
      try (with_reducible rfl)
    try simp only [Act.put, List.setIfInBounds_toArray, List.set_cons_zero, List.set_cons_succ]
    refine wpM_take (i := 5) (oi := ⟨some 97, _, _, _, _, _⟩) (v := ?_) rfl (by decide +kernel) (by decide +kernel) (by decide +kernel) (fun _ _ _ h => h) (Or.inl ⟨by rfl, ?_⟩) hb ?_
    case refine_2 =>
      intro w' hSw
      have k0' := keepcell hSw k0
      have k7' := keepcell hSw k7
      have c0' := keepcell hSw c0
      have c1' := keepcell hSw c1
      have c2' := keepcell hSw c2
      have c3' := keepcell hSw c3
      have c4' := keepcell hSw c4
      have c5' := keepcell hSw c5
      have c6' := keepcell hSw c6
      have c7' := keepcell hSw c7
      have d0' := keepcell hSw d0
      have d1' := keepcell hSw d1
      have d2' := keepcell hSw d2
      have d3' := keepcell hSw d3
      have d4' := keepcell hSw d4
      have d5' := keepcell hSw d5
      have d6' := keepcell hSw d6
      have d7' := keepcell hSw d7
      go_simp
      try (with_reducible rfl)
    try simp only [Act.put, List.setIfInBounds_toArray, List.set_cons_zero, List.set_cons_succ]
    refine wpM_take (i := 6) (oi := ⟨some 98, _, _, _, _, _⟩) (v := ?_) rfl (by decide +kernel) (by decide +kernel) (by decide +kernel) (fun _ _ _ h => h) (Or.inl ⟨by rfl, ?_⟩) hb ?_
    case refine_2 =>
      intro w' hSw
      have k0' := keepcell hSw k0
      have k7' := keepcell hSw k7
      have c0' := keepcell hSw c0
      have c1' := keepcell hSw c1
      have c2' := keepcell hSw c2
      have c3' := keepcell hSw c3
      have c4' := keepcell hSw c4
      have c5' := keepcell hSw c5
      have c6' := keepcell hSw c6
      have c7' := keepcell hSw c7
      have d0' := keepcell hSw d0
      have d1' := keepcell hSw d1
      have d2' := keepcell hSw d2
      have d3' := keepcell hSw d3
      have d4' := keepcell hSw d4
      have d5' := keepcell hSw d5
      have d6' := keepcell hSw d6
      have d7' := keepcell hSw d7
      go_simp
      try (with_reducible rfl)
    try simp only [Act.put, List.setIfInBounds_toArray, List.set_cons_zero, List.set_cons_succ]
    refine wpM_take (i := 8) (oi := ⟨some 100, _, _, _, _, _⟩) (v := ?_) rfl (by decide +kernel) (by decide +kernel) (by decide +kernel) (fun _ _ _ h => h) (Or.inl ⟨by rfl, ?_⟩) hb ?_
    case refine_2 =>
      intro w' hSw
      have k0' := keepcell hSw k0
      have k7' := keepcell hSw k7
      have c0' := keepcell hSw c0
      have c1' := keepcell hSw c1
      have c2' := keepcell hSw c2
      have c3' := keepcell hSw c3
      have c4' := keepcell hSw c4
      have c5' := keepcell hSw c5
      have c6' := keepcell hSw c6
      have c7' := keepcell hSw c7
      have d0' := keepcell hSw d0
      have d1' := keepcell hSw d1
      have d2' := keepcell hSw d2
      have d3' := keepcell hSw d3
      have d4' := keepcell hSw d4
      have d5' := keepcell hSw d5
      have d6' := keepcell hSw d6
      have d7' := keepcell hSw d7
      go_simp
      try (with_reducible rfl)
    try simp only [Act.put, List.setIfInBounds_toArray, List.set_cons_zero, List.set_cons_succ]
    refine wpM_take (i := 9) (oi := ⟨some 101, _, _, _, _, _⟩) (v := ?_) rfl (by decide +kernel) (by decide +kernel) (by decide +kernel) (fun _ _ _ h => h) (Or.inl ⟨by rfl, ?_⟩) hb ?_
    case refine_2 =>
      intro w' hSw
      have k0' := keepcell hSw k0
      have k7' := keepcell hSw k7
      have c0' := keepcell hSw c0
      have c1' := keepcell hSw c1
      have c2' := keepcell hSw c2
      have c3' := keepcell hSw c3
      have c4' := keepcell hSw c4
      have c5' := keepcell hSw c5
      have c6' := keepcell hSw c6
      have c7' := keepcell hSw c7
      have d0' := keepcell hSw d0
      have d1' := keepcell hSw d1
      have d2' := keepcell hSw d2
      have d3' := keepcell hSw d3
      have d4' := keepcell hSw d4
      have d5' := keepcell hSw d5
      have d6' := keepcell hSw d6
      have d7' := keepcell hSw d7
      go_simp
      try (with_reducible rfl)
    try simp only [Act.put, List.setIfInBounds_toArray, List.set_cons_zero, List.set_cons_succ]
    refine wpM_take (i := 10) (oi := ⟨some 102, _, _, _, _, _⟩) (v := ?_) rfl (by decide +kernel) (by decide +kernel) (by decide +kernel) (fun _ _ _ h => h) (Or.inl ⟨by rfl, ?_⟩) hb ?_
    case refine_2 =>
      intro w' hSw
      have k0' := keepcell hSw k0
      have k7' := keepcell hSw k7
      have c0' := keepcell hSw c0
      have c1' := keepcell hSw c1
      have c2' := keepcell hSw c2
      have c3' := keepcell hSw c3
      have c4' := keepcell hSw c4
      have c5' := keepcell hSw c5
      have c6' := keepcell hSw c6
      have c7' := keepcell hSw c7
      have d0' := keepcell hSw d0
      have d1' := keepcell hSw d1
      have d2' := keepcell hSw d2
      have d3' := keepcell hSw d3
      have d4' := keepcell hSw d4
      have d5' := keepcell hSw d5
      have d6' := keepcell hSw d6
      have d7' := keepcell hSw d7
      go_simp
      try (with_reducible rfl)
    try simp only [Act.put, List.setIfInBounds_toArray, List.set_cons_zero, List.set_cons_succ]
    refine wpM_take (i := 11) (oi := ⟨some 103, _, _, _, _, _⟩) (v := ?_) rfl (by decide +kernel) (by decide +kernel) (by decide +kernel) (fun _ _ _ h => h) (Or.inl ⟨by rfl, ?_⟩) hb ?_
    case refine_2 =>
      intro w' hSw
      have k0' := keepcell hSw k0
      have k7' := keepcell hSw k7
      have c0' := keepcell hSw c0
      have c1' := keepcell hSw c1
      have c2' := keepcell hSw c2
      have c3' := keepcell hSw c3
      have c4' := keepcell hSw c4
      have c5' := keepcell hSw c5
      have c6' := keepcell hSw c6
      have c7' := keepcell hSw c7
      have d0' := keepcell hSw d0
      have d1' := keepcell hSw d1
      have d2' := keepcell hSw d2
      have d3' := keepcell hSw d3
      have d4' := keepcell hSw d4
      have d5' := keepcell hSw d5
      have d6' := keepcell hSw d6
      have d7' := keepcell hSw d7
      go_simp
      try (with_reducible rfl)
    try simp only [Act.put, List.setIfInBounds_toArray, List.set_cons_zero, List.set_cons_succ]
    refine wpM_take (i := 12) (oi := ⟨some 104, _, _, _, _, _⟩) (v := ?_) rfl (by decide +kernel) (by decide +kernel) (by decide +kernel) (fun _ _ _ h => h) (Or.inl ⟨by rfl, ?_⟩) hb ?_
    case refine_2 =>
      intro w' hSw
      have k0' := keepcell hSw k0
      have k7' := keepcell hSw k7
      have c0' := keepcell hSw c0
      have c1' := keepcell hSw c1
      have c2' := keepcell hSw c2
      have c3' := keepcell hSw c3
      have c4' := keepcell hSw c4
      have c5' := keepcell hSw c5
      have c6' := keepcell hSw c6
      have c7' := keepcell hSw c7
      have d0' := keepcell hSw d0
      have d1' := keepcell hSw d1
      have d2' := keepcell hSw d2
      have d3' := keepcell hSw d3
      have d4' := keepcell hSw d4
      have d5' := keepcell hSw d5
      have d6' := keepcell hSw d6
      have d7' := keepcell hSw d7
      go_simp
      try (with_reducible rfl)
    try simp only [Act.put, List.setIfInBounds_toArray, List.set_cons_zero, List.set_cons_succ]
    refine wpM_step (i := 7) (o := ⟨some 99, _, _, _, _, _⟩) rfl (by decide +kernel) (by decide) (fun K hK => ?_)
    go_simp
    refine (CV.out y0 (HB.out.trans (hb.mono HB.out.size))).mono ?_
    rintro e y1 ⟨rfl, h1⟩
    have b1 : Below W0.heap.size W0 y1 := hb.trans (h1.mono hb.size)
    clear h1
    refine hK.out _ _ b1 ?_
    clear hK K
    try simp only [Act.put, List.setIfInBounds_toArray, List.set_cons_zero, List.set_cons_succ]
    refine wpM_step (i := 13) (o := ⟨some 105, _, _, _, _, _⟩) rfl (by decide +kernel) (by decide) (fun K hK => ?_)
    go_simp
    refine (CV1.out y1 (HB.out.trans (b1.mono HB.out.size))).mono ?_
    rintro e y2 ⟨rfl, h2⟩
    have b2 : Below W0.heap.size W0 y2 := b1.trans (h2.mono b1.size)
    clear h2
    refine hK.out _ _ b2 ?_
    clear hK K
    try simp only [Act.put, List.setIfInBounds_toArray, List.set_cons_zero, List.set_cons_succ]
    refine wpM_step (i := 14) (o := ⟨some 106, _, _, _, _, _⟩) rfl (by decide +kernel) (by decide) (fun K hK => ?_)
    go_simp
    refine (CC.out y2).mono ?_
    rintro e y3 ⟨rfl, h3⟩
    have b3 : Below W0.heap.size W0 y3 := b2.trans (h3.mono b2.size)
    clear h3
    refine hK.out _ _ b3 ?_
    clear hK K
    try simp only [Act.put, List.setIfInBounds_toArray, List.set_cons_zero, List.set_cons_succ]
    refine wpM_done (by decide +kernel) ?_
    simp only [List.drop_succ_cons, List.drop_zero]
    go_wp2
    go_ret
    exact ⟨by rw [← HF.out]; rfl, HB.out.trans (b3.mono HB.out.size)⟩
  have e2 : ((x.args.length : Int) == 2) = false := by simp; omega
  have HF := Lib.hid (show 2 = r by rw [← HR.out]; exact (comC_other _ _ _ (by rw [condL_len]; exact hl1) (by rw [condL_len]; exact hl2)).symm)
  clear HR HA HIH HVA HOK hl1 hl2
  go_enter Try.func15, Try.ntmps15
  go_wp2
  go_ret
  exact ⟨by rw [← HF.out]; rfl, HB.out⟩
end Go.Proofs.Ytfhbffgnpedaeaa
