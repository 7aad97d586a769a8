/- The reference: the truth value of a condition with a type. -/
import Derived.Test.YtfhbffgnpedaeaaEor
import Derived.Test.YtfhbffgnpedaeaaElr
import Derived.Test.YtfhbffgnpedaeaaErw
import Derived.Test.YtfhbffgnpedaeaaChi
namespace Go.Proofs.Ytfhbffgnpedaeaa
open Go.ChangeShapes Go.WideShapes Go.ChangeAt Go.RowKit Go.ChangeMaps

theorem kn_id {c : Int} (h : c = 0 ∨ c = 1 ∨ c = 2) : kn c = c := by rcases h with h | h | h <;> subst h <;> rfl
theorem kn_three (c : Int) : kn c = 0 ∨ kn c = 1 ∨ kn c = 2 := kn_cases c
theorem ofM_three (b : Bool) : ofM b = 0 ∨ ofM b = 1 ∨ ofM b = 2 := by cases b <;> simp [ofM]
theorem notM_three (c : Int) : notM c = 0 ∨ notM c = 1 ∨ notM c = 2 := by unfold notM; split; simp; split <;> simp
theorem andM_three (c d : Int) : andM c d = 0 ∨ andM c d = 1 ∨ andM c d = 2 := by
  unfold andM; split; simp; split; simp; split
  · exact kn_three d
  · exact kn_three c
theorem orM_three (c d : Int) : orM c d = 0 ∨ orM c d = 1 ∨ orM c d = 2 := by
  unfold orM; split; simp; split; simp; split
  · exact kn_three d
  · exact kn_three c
theorem eqM_three (u v : V3) : eqM u v = 0 ∨ eqM u v = 1 ∨ eqM u v = 2 := by unfold eqM; split; simp; split; simp; exact ofM_three _
theorem ltM_three (u v : V3) : ltM u v = 0 ∨ ltM u v = 1 ∨ ltM u v = 2 := by unfold ltM; split; simp; split; simp; exact ofM_three _
theorem cmpM_three (op : Int) (u v : V3) : cmpM op u v = 0 ∨ cmpM op u v = 1 ∨ cmpM op u v = 2 := by
  unfold cmpM
  split; exact eqM_three _ _
  split; exact notM_three _
  split; exact ltM_three _ _
  split; exact notM_three _
  split; exact ltM_three _ _
  split; exact notM_three _
  split
  · split; simp; split; simp; exact ofM_three _
  · simp
theorem cond_three (R : List V3) (x : Ex) : condM R x = 0 ∨ condM R x = 1 ∨ condM R x = 2 := by
  rw [condM_eq]
  unfold comC
  split
  · split; exact notM_three _
    split; exact ofM_three _
    simp
  · split; exact andM_three _ _
    split; exact orM_three _ _
    exact cmpM_three _ _ _
  · simp
theorem ordM_three (u v : V3) : ordM u v = -1 ∨ ordM u v = 0 ∨ ordM u v = 1 := by unfold ordM; split; simp; split; simp; split; simp; split <;> simp
inductive COk (R : List V3) : Ex → Prop
  | lit (x : Ex) : x.op = 1 → x.args = [] → COk R x
  | nul (x a : Ex) : x.op = 17 → x.args = [a] → VOk R a → COk R x
  | neg (x a : Ex) : x.op = 20 → x.args = [a] → COk R a → COk R x
  | bin (x a b : Ex) : x.op = 18 ∨ x.op = 19 → x.args = [a, b] → COk R a → COk R b → COk R x
  | cmp (x a b : Ex) (t : Int) : 10 ≤ x.op ∧ x.op ≤ 16 → x.args = [a, b] → VOk R a → VOk R b → Typed t (evM R a) → Typed t (evM R b) → COk R x
set_option maxRecDepth 100000 in
set_option maxHeartbeats 4000000 in
theorem RCond_any (R : List V3) (x : Ex) (hx : COk R x) : ∀ (w : World) (A : Option Addr) (n c : Nat), ExAt w x → Vls w A n R → (∀ v ∈ R, v.ok) → Calls Try.prog 16 #[x.agg, .slice A n c] w fun e w' => e = .returned (.int .i64 (condM R x)) ∧ Below w.heap.size w w' := by
  induction hx with
  | lit x h1 hargs =>
    intro w A n c h hrow hok
    have HE := Lib.hid (show condM R x = 2 by rw [condM_eq, hargs]; rfl)
    unfold Ex.agg
    rw [HE.out]
    rw [h1]
    go_enter Try.func16, Try.ntmps16
    go_wp2
    go_ret
    exact ⟨rfl, (Below.refl _ w).alloc (Nat.le_refl _) _⟩
  | nul x a hop hargs ha =>
    intro w A n c h hrow hok
    have hm : a ∈ x.args := by rw [hargs]; simp
    have hx0 : 0 < x.args.length := by rw [hargs]; exact Nat.zero_lt_one
    obtain ⟨b, off, hA, hbl, hc⟩ := h.at' hx0
    have HC := Lib.hid (fun W hW => hc W hW 0 a (by rw [hargs]; rfl))
    simp only [Nat.zero_mul, Nat.add_zero] at HC
    have CV := Lib.hid (fun W (hW : Below w.heap.size w W) => RValue_any R a ha W A n c ((h.arg a hm).keep hW) (hrow.below hW) hok)
    have HE := Lib.hid (show condM R x = ofM (nullB (evM R a)) by rw [condM_eq, hargs, hop]; simp only [condL, evL]; rfl)
    obtain ⟨r, hr⟩ : ∃ r, condM R x = r := ⟨_, rfl⟩
    rw [hr] at HE ⊢
    have hbw : b < w.heap.size := hbl
    unfold Ex.agg at *
    obtain ⟨op, hop2⟩ : ∃ op, x.op = op := ⟨_, rfl⟩
    rw [hop2] at hop ⊢
    clear hc hbl hr h hrow hok hm hop2 hargs
    obtain ⟨W0, hW0⟩ : ∃ W, W = w.alloc (.cells #[.int .i64 op, .string x.tb, .string x.nm, .int .i64 x.ix, .int .i64 x.v.k, .int .i64 x.v.n, .string x.v.s, .slice (some ⟨b, off, none⟩) x.args.length x.c] 26) := ⟨_, rfl⟩
    have HB := Lib.hid (show Below w.heap.size w W0 by rw [hW0]; exact (Below.refl _ w).alloc (Nat.le_refl _) _)
    have HK := Lib.hid (show Blk W0 w.heap.size 26 #[.int .i64 op, .string x.tb, .string x.nm, .int .i64 x.ix, .int .i64 x.v.k, .int .i64 x.v.n, .string x.v.s, .slice (some ⟨b, off, none⟩) x.args.length x.c] by rw [hW0]; exact Blk.new _ _ _)
    rw [hA]
    clear hA
    subst hop
    obtain ⟨c0, c1, c2, c3, c4, c5, c6, c7⟩ := HC.out _ HB.out
    rw [hW0] at c0 c1 c2 c3 c4 c5 c6 c7
    obtain ⟨u, hu⟩ : ∃ u, evM R a = u := ⟨_, rfl⟩
    rw [hu] at HE
    simp only [hu] at CV
    clear hu
    unfold V3.agg at CV
    go_enter Try.func16, Try.ntmps16
    go_wp2_with fail
    rw [← hW0]
    refine (CV.out _ HB.out).mono ?_
    rintro e w1 ⟨rfl, hb⟩
    have HB1 := Lib.hid (HB.out.trans (hb.mono HB.out.size))
    clear hb hW0
    unfold nullB at HE
    have hfd : ∀ W : World, (Instr.field 23 (.agg #[.int .i64 u.k, .int .i64 u.n, .string u.s]) 0).run Try.prog W = .ok (.int .i64 u.k) W := fun _ => by kernel_rfl
    obtain ⟨kk, hkk⟩ : ∃ k, u.k = k := ⟨_, rfl⟩
    simp only [hkk] at hfd HE ⊢
    clear hkk
    by_cases hz : kk = 0
    · subst hz
      go_wp2_with fail
      refine (of_any _ _).mono ?_
      rintro e w2 ⟨rfl, rfl⟩
      go_wp2
      go_ret
      exact ⟨by rw [HE.out]; rfl, HB1.out⟩
    · have hz1 : (kk == 0) = false := by simpa using hz
      have HF2 := Lib.hid (show ofM false = r by rw [HE.out, decide_eq_false hz])
      clear hz HE
      go_wp2_with fail
      refine (of_any _ _).mono ?_
      rintro e w2 ⟨rfl, rfl⟩
      go_wp2
      go_ret
      exact ⟨by rw [← HF2.out]; rfl, HB1.out⟩
  | neg x a hop hargs ha ih =>
    intro w A n c h hrow hok
    have hm : a ∈ x.args := by rw [hargs]; simp
    have hx0 : 0 < x.args.length := by rw [hargs]; exact Nat.zero_lt_one
    obtain ⟨b, off, hA, hbl, hc⟩ := h.at' hx0
    have HC := Lib.hid (fun W hW => hc W hW 0 a (by rw [hargs]; rfl))
    simp only [Nat.zero_mul, Nat.add_zero] at HC
    have CV := Lib.hid (fun W (hW : Below w.heap.size w W) => ih W A n c ((h.arg a hm).keep hW) (hrow.below hW) hok)
    have HE := Lib.hid (show condM R x = notM (condM R a) by rw [condM_eq, hargs, hop]; simp only [condL, evL]; rfl)
    have H3 := Lib.hid (cond_three R a)
    obtain ⟨r, hr⟩ : ∃ r, condM R x = r := ⟨_, rfl⟩
    rw [hr] at HE ⊢
    have hbw : b < w.heap.size := hbl
    unfold Ex.agg at *
    obtain ⟨op, hop2⟩ : ∃ op, x.op = op := ⟨_, rfl⟩
    rw [hop2] at hop ⊢
    clear hc hbl hr h hrow hok hm hop2 hargs
    obtain ⟨W0, hW0⟩ : ∃ W, W = w.alloc (.cells #[.int .i64 op, .string x.tb, .string x.nm, .int .i64 x.ix, .int .i64 x.v.k, .int .i64 x.v.n, .string x.v.s, .slice (some ⟨b, off, none⟩) x.args.length x.c] 26) := ⟨_, rfl⟩
    have HB := Lib.hid (show Below w.heap.size w W0 by rw [hW0]; exact (Below.refl _ w).alloc (Nat.le_refl _) _)
    have HK := Lib.hid (show Blk W0 w.heap.size 26 #[.int .i64 op, .string x.tb, .string x.nm, .int .i64 x.ix, .int .i64 x.v.k, .int .i64 x.v.n, .string x.v.s, .slice (some ⟨b, off, none⟩) x.args.length x.c] by rw [hW0]; exact Blk.new _ _ _)
    rw [hA]
    clear hA
    subst hop
    obtain ⟨c0, c1, c2, c3, c4, c5, c6, c7⟩ := HC.out _ HB.out
    rw [hW0] at c0 c1 c2 c3 c4 c5 c6 c7
    obtain ⟨u, hu⟩ : ∃ u, condM R a = u := ⟨_, rfl⟩
    rw [hu] at HE H3
    simp only [hu] at CV
    clear hu
    go_enter Try.func16, Try.ntmps16
    go_wp2_with fail
    rw [← hW0]
    refine (CV.out _ HB.out).mono ?_
    rintro e w1 ⟨rfl, hb⟩
    have HB1 := Lib.hid (HB.out.trans (hb.mono HB.out.size))
    clear hb hW0
    rcases H3.out with h3 | h3 | h3
    all_goals
      subst h3
      go_wp2
      go_ret
      exact ⟨by rw [HE.out]; rfl, HB1.out⟩
  | bin x a d hop hargs ha hd iha ihd =>
    intro w A n c h hrow hok
    have hm : a ∈ x.args := by rw [hargs]; simp
    have hm2 : d ∈ x.args := by rw [hargs]; simp
    have hx0 : 0 < x.args.length := by rw [hargs]; exact Nat.zero_lt_succ _
    have hx1 : 1 < x.args.length := by rw [hargs]; exact Nat.lt_succ_self _
    have hx1i : (1 : Int) < (x.args.length : Int) := by omega
    obtain ⟨b, off, hA, hbl, hc⟩ := h.at' hx0
    have HC := Lib.hid (fun W hW => hc W hW 0 a (by rw [hargs]; rfl))
    have HD := Lib.hid (fun W hW => hc W hW 1 d (by rw [hargs]; rfl))
    simp only [Nat.zero_mul, Nat.add_zero, Nat.one_mul, Nat.add_assoc, Nat.reduceAdd] at HC HD
    have CI := Lib.hid (fun W (hW : Below w.heap.size w W) => iha W A n c ((h.arg a hm).keep hW) (hrow.below hW) hok)
    have CI1 := Lib.hid (fun W (hW : Below w.heap.size w W) => ihd W A n c ((h.arg d hm2).keep hW) (hrow.below hW) hok)
    have HE := Lib.hid (show condM R x = if x.op = 18 then andM (condM R a) (condM R d) else orM (condM R a) (condM R d) by
      rw [condM_eq, hargs]
      simp only [condL, evL, comC]
      split
      · rfl
      · rw [if_pos (hop.resolve_left (by assumption))])
    have H3 := Lib.hid (cond_three R a)
    have H4 := Lib.hid (cond_three R d)
    obtain ⟨r, hr⟩ : ∃ r, condM R x = r := ⟨_, rfl⟩
    rw [hr] at HE ⊢
    have hbw : b < w.heap.size := hbl
    unfold Ex.agg at *
    obtain ⟨op, hop2⟩ : ∃ op, x.op = op := ⟨_, rfl⟩
    rw [hop2] at hop HE ⊢
    clear hc hbl hr h hrow hok hm hop2 hargs hm2
    obtain ⟨W0, hW0⟩ : ∃ W, W = w.alloc (.cells #[.int .i64 op, .string x.tb, .string x.nm, .int .i64 x.ix, .int .i64 x.v.k, .int .i64 x.v.n, .string x.v.s, .slice (some ⟨b, off, none⟩) x.args.length x.c] 26) := ⟨_, rfl⟩
    have HB := Lib.hid (show Below w.heap.size w W0 by rw [hW0]; exact (Below.refl _ w).alloc (Nat.le_refl _) _)
    have HK := Lib.hid (show Blk W0 w.heap.size 26 #[.int .i64 op, .string x.tb, .string x.nm, .int .i64 x.ix, .int .i64 x.v.k, .int .i64 x.v.n, .string x.v.s, .slice (some ⟨b, off, none⟩) x.args.length x.c] by rw [hW0]; exact Blk.new _ _ _)
    rw [hA]
    clear hA
    obtain ⟨c0, c1, c2, c3, c4, c5, c6, c7⟩ := HC.out _ HB.out
    obtain ⟨d0, d1, d2, d3, d4, d5, d6, d7⟩ := HD.out _ HB.out
    have k0 : W0.cell? ⟨w.heap.size, 0, none⟩ = some (.int .i64 op) := HK.out.cell 0
    have k7 : W0.cell? ⟨w.heap.size, 7, none⟩ = some (.slice (some ⟨b, off, none⟩) x.args.length x.c) := HK.out.cell 7
    obtain ⟨u, hu⟩ : ∃ u, condM R a = u := ⟨_, rfl⟩
    obtain ⟨v, hv⟩ : ∃ u, condM R d = u := ⟨_, rfl⟩
    rw [hu] at HE H3
    rw [hv] at HE H4
    simp only [hu] at CI
    simp only [hv] at CI1
    clear hu hv
    rcases hop with rfl | rfl
    · go_enter Try.func16, Try.ntmps16
      go_wp2_with fail
      rw [← hW0]
      clear hW0
      have hb : Below W0.heap.size W0 W0.drew := below_drew (Below.refl _ _)
      refine wp_region_mix 12 (fun w' => Below W0.heap.size W0 w') (by kernel_rfl) (by decide) ?_
      generalize W0.drew = y0 at hb ⊢
      refine wpM_take (i := 0) (oi := ⟨some 30, _, _, _, _, _⟩) (v := ?_) rfl (by decide +kernel) (by decide +kernel) (by decide +kernel) (fun _ _ _ h => h) (Or.inl ⟨by rfl, ?_⟩) hb ?_
      case refine_2 =>
        intro w' hSw
        have k0' := keepcell hSw k0
        have k7' := keepcell hSw k7
        have c0' := keepcell hSw c0
        have c1' := keepcell hSw c1
        have c2' := keepcell hSw c2
        have c3' := keepcell hSw c3
        have c4' := keepcell hSw c4
        have c5' := keepcell hSw c5
        have c6' := keepcell hSw c6
        have c7' := keepcell hSw c7
        have d0' := keepcell hSw d0
        have d1' := keepcell hSw d1
        have d2' := keepcell hSw d2
        have d3' := keepcell hSw d3
        have d4' := keepcell hSw d4
        have d5' := keepcell hSw d5
        have d6' := keepcell hSw d6
        have d7' := keepcell hSw d7
        go_simp
        try (with_reducible rfl)
      try simp only [Act.put, List.setIfInBounds_toArray, List.set_cons_zero, List.set_cons_succ]
      refine wpM_take (i := 1) (oi := ⟨some 31, _, _, _, _, _⟩) (v := ?_) rfl (by decide +kernel) (by decide +kernel) (by decide +kernel) (fun _ _ _ h => h) (Or.inl ⟨by rfl, ?_⟩) hb ?_
      case refine_2 =>
        intro w' hSw
        have k0' := keepcell hSw k0
        have k7' := keepcell hSw k7
        have c0' := keepcell hSw c0
        have c1' := keepcell hSw c1
        have c2' := keepcell hSw c2
        have c3' := keepcell hSw c3
        have c4' := keepcell hSw c4
        have c5' := keepcell hSw c5
        have c6' := keepcell hSw c6
        have c7' := keepcell hSw c7
        have d0' := keepcell hSw d0
        have d1' := keepcell hSw d1
        have d2' := keepcell hSw d2
        have d3' := keepcell hSw d3
        have d4' := keepcell hSw d4
        have d5' := keepcell hSw d5
        have d6' := keepcell hSw d6
        have d7' := keepcell hSw d7
        go_simp
        try (with_reducible rfl)
      try simp only [Act.put, List.setIfInBounds_toArray, List.set_cons_zero, List.set_cons_succ]
      refine wpM_take (i := 2) (oi := ⟨some 32, _, _, _, _, _⟩) (v := ?_) rfl (by decide +kernel) (by decide +kernel) (by decide +kernel) (fun _ _ _ h => h) (Or.inl ⟨by rfl, ?_⟩) hb ?_
      case refine_2 =>
        intro w' hSw
        have k0' := keepcell hSw k0
        have k7' := keepcell hSw k7
        have c0' := keepcell hSw c0
        have c1' := keepcell hSw c1
        have c2' := keepcell hSw c2
        have c3' := keepcell hSw c3
        have c4' := keepcell hSw c4
        have c5' := keepcell hSw c5
        have c6' := keepcell hSw c6
        have c7' := keepcell hSw c7
        have d0' := keepcell hSw d0
        have d1' := keepcell hSw d1
        have d2' := keepcell hSw d2
        have d3' := keepcell hSw d3
        have d4' := keepcell hSw d4
        have d5' := keepcell hSw d5
        have d6' := keepcell hSw d6
        have d7' := keepcell hSw d7
        go_simp
        try (with_reducible rfl)
      try simp only [Act.put, List.setIfInBounds_toArray, List.set_cons_zero, List.set_cons_succ]
      refine wpM_take (i := 3) (oi := ⟨some 33, _, _, _, _, _⟩) (v := ?_) rfl (by decide +kernel) (by decide +kernel) (by decide +kernel) (fun _ _ _ h => h) (Or.inl ⟨by rfl, ?_⟩) hb ?_
      case refine_2 =>
        intro w' hSw
        have k0' := keepcell hSw k0
        have k7' := keepcell hSw k7
        have c0' := keepcell hSw c0
        have c1' := keepcell hSw c1
        have c2' := keepcell hSw c2
        have c3' := keepcell hSw c3
        have c4' := keepcell hSw c4
        have c5' := keepcell hSw c5
        have c6' := keepcell hSw c6
        have c7' := keepcell hSw c7
        have d0' := keepcell hSw d0
        have d1' := keepcell hSw d1
        have d2' := keepcell hSw d2
        have d3' := keepcell hSw d3
        have d4' := keepcell hSw d4
        have d5' := keepcell hSw d5
        have d6' := keepcell hSw d6
        have d7' := keepcell hSw d7
        go_simp
        try (with_reducible rfl)
      try simp only [Act.put, List.setIfInBounds_toArray, List.set_cons_zero, List.set_cons_succ]
      refine wpM_take (i := 4) (oi := ⟨some 34, _, _, _, _, _⟩) (v := ?_) rfl (by decide +kernel) (by decide +kernel) (by decide +kernel) (fun _ _ _ h => h) (Or.inl ⟨by rfl, ?_⟩) hb ?_
      case refine_2 =>
        intro w' hSw
        have k0' := keepcell hSw k0
        have k7' := keepcell hSw k7
        have c0' := keepcell hSw c0
        have c1' := keepcell hSw c1
        have c2' := keepcell hSw c2
        have c3' := keepcell hSw c3
        have c4' := keepcell hSw c4
        have c5' := keepcell hSw c5
        have c6' := keepcell hSw c6
        have c7' := keepcell hSw c7
        have d0' := keepcell hSw d0
        have d1' := keepcell hSw d1
        have d2' := keepcell hSw d2
        have d3' := keepcell hSw d3
        have d4' := keepcell hSw d4
        have d5' := keepcell hSw d5
        have d6' := keepcell hSw d6
        have d7' := keepcell hSw d7
        go_simp
        try (with_reducible rfl)
      try simp only [Act.put, List.setIfInBounds_toArray, List.set_cons_zero, List.set_cons_succ]
      refine wpM_take (i := 6) (oi := ⟨some 36, _, _, _, _, _⟩) (v := ?_) rfl (by decide +kernel) (by decide +kernel) (by decide +kernel) (fun _ _ _ h => h) (Or.inl ⟨by rfl, ?_⟩) hb ?_
      case refine_2 =>
        intro w' hSw
        have k0' := keepcell hSw k0
        have k7' := keepcell hSw k7
        have c0' := keepcell hSw c0
        have c1' := keepcell hSw c1
        have c2' := keepcell hSw c2
        have c3' := keepcell hSw c3
        have c4' := keepcell hSw c4
        have c5' := keepcell hSw c5
        have c6' := keepcell hSw c6
        have c7' := keepcell hSw c7
        have d0' := keepcell hSw d0
        have d1' := keepcell hSw d1
        have d2' := keepcell hSw d2
        have d3' := keepcell hSw d3
        have d4' := keepcell hSw d4
        have d5' := keepcell hSw d5
        have d6' := keepcell hSw d6
        have d7' := keepcell hSw d7
        go_simp
        try (with_reducible rfl)
      try simp only [Act.put, List.setIfInBounds_toArray, List.set_cons_zero, List.set_cons_succ]
      refine wpM_take (i := 7) (oi := ⟨some 37, _, _, _, _, _⟩) (v := ?_) rfl (by decide +kernel) (by decide +kernel) (by decide +kernel) (fun _ _ _ h => h) (Or.inl ⟨by rfl, ?_⟩) hb ?_
      case refine_2 =>
        intro w' hSw
        have k0' := keepcell hSw k0
        have k7' := keepcell hSw k7
        have c0' := keepcell hSw c0
        have c1' := keepcell hSw c1
        have c2' := keepcell hSw c2
        have c3' := keepcell hSw c3
        have c4' := keepcell hSw c4
        have c5' := keepcell hSw c5
        have c6' := keepcell hSw c6
        have c7' := keepcell hSw c7
        have d0' := keepcell hSw d0
        have d1' := keepcell hSw d1
        have d2' := keepcell hSw d2
        have d3' := keepcell hSw d3
        have d4' := keepcell hSw d4
        have d5' := keepcell hSw d5
        have d6' := keepcell hSw d6
        have d7' := keepcell hSw d7
        go_simp
        try (with_reducible rfl)
      try simp only [Act.put, List.setIfInBounds_toArray, List.set_cons_zero, List.set_cons_succ]
      refine wpM_take (i := 8) (oi := ⟨some 38, _, _, _, _, _⟩) (v := ?_) rfl (by decide +kernel) (by decide +kernel) (by decide +kernel) (fun _ _ _ h => h) (Or.inl ⟨by rfl, ?_⟩) hb ?_
      case refine_2 =>
        intro w' hSw
        have k0' := keepcell hSw k0
        have k7' := keepcell hSw k7
        have c0' := keepcell hSw c0
        have c1' := keepcell hSw c1
        have c2' := keepcell hSw c2
        have c3' := keepcell hSw c3
        have c4' := keepcell hSw c4
        have c5' := keepcell hSw c5
        have c6' := keepcell hSw c6
        have c7' := keepcell hSw c7
        have d0' := keepcell hSw d0
        have d1' := keepcell hSw d1
        have d2' := keepcell hSw d2
        have d3' := keepcell hSw d3
        have d4' := keepcell hSw d4
        have d5' := keepcell hSw d5
        have d6' := keepcell hSw d6
        have d7' := keepcell hSw d7
        go_simp
        try (with_reducible rfl)
      try simp only [Act.put, List.setIfInBounds_toArray, List.set_cons_zero, List.set_cons_succ]
      refine wpM_take (i := 9) (oi := ⟨some 39, _, _, _, _, _⟩) (v := ?_) rfl (by decide +kernel) (by decide +kernel) (by decide +kernel) (fun _ _ _ h => h) (Or.inl ⟨by rfl, ?_⟩) hb ?_
      case refine_2 =>
        intro w' hSw
        have k0' := keepcell hSw k0
        have k7' := keepcell hSw k7
        have c0' := keepcell hSw c0
        have c1' := keepcell hSw c1
        have c2' := keepcell hSw c2
        have c3' := keepcell hSw c3
        have c4' := keepcell hSw c4
        have c5' := keepcell hSw c5
        have c6' := keepcell hSw c6
        have c7' := keepcell hSw c7
        have d0' := keepcell hSw d0
        have d1' := keepcell hSw d1
        have d2' := keepcell hSw d2
        have d3' := keepcell hSw d3
        have d4' := keepcell hSw d4
        have d5' := keepcell hSw d5
        have d6' := keepcell hSw d6
        have d7' := keepcell hSw d7
        go_simp
        try (with_reducible rfl)
      try simp only [Act.put, List.setIfInBounds_toArray, List.set_cons_zero, List.set_cons_succ]
      refine wpM_take (i := 10) (oi := ⟨some 40, _, _, _, _, _⟩) (v := ?_) rfl (by decide +kernel) (by decide +kernel) (by decide +kernel) (fun _ _ _ h => h) (Or.inl ⟨by rfl, ?_⟩) hb ?_
      case refine_2 =>
        intro w' hSw
        have k0' := keepcell hSw k0
        have k7' := keepcell hSw k7
        have c0' := keepcell hSw c0
        have c1' := keepcell hSw c1
        have c2' := keepcell hSw c2
        have c3' := keepcell hSw c3
        have c4' := keepcell hSw c4
        have c5' := keepcell hSw c5
        have c6' := keepcell hSw c6
        have c7' := keepcell hSw c7
        have d0' := keepcell hSw d0
        have d1' := keepcell hSw d1
        have d2' := keepcell hSw d2
        have d3' := keepcell hSw d3
        have d4' := keepcell hSw d4
        have d5' := keepcell hSw d5
        have d6' := keepcell hSw d6
        have d7' := keepcell hSw d7
        go_simp
        try (with_reducible rfl)
      try simp only [Act.put, List.setIfInBounds_toArray, List.set_cons_zero, List.set_cons_succ]
      refine wpM_step (i := 5) (o := ⟨some 35, _, _, _, _, _⟩) rfl (by decide +kernel) (by decide) (fun K hK => ?_)
      go_simp
      refine (CI.out y0 (HB.out.trans (hb.mono HB.out.size))).mono ?_
      rintro e y1 ⟨rfl, h1⟩
      have b1 : Below W0.heap.size W0 y1 := hb.trans (h1.mono hb.size)
      clear h1
      refine hK.out _ _ b1 ?_
      clear hK K
      try simp only [Act.put, List.setIfInBounds_toArray, List.set_cons_zero, List.set_cons_succ]
      refine wpM_step (i := 11) (o := ⟨some 41, _, _, _, _, _⟩) rfl (by decide +kernel) (by decide) (fun K hK => ?_)
      go_simp
      refine (CI1.out y1 (HB.out.trans (b1.mono HB.out.size))).mono ?_
      rintro e y2 ⟨rfl, h2⟩
      have b2 : Below W0.heap.size W0 y2 := b1.trans (h2.mono b1.size)
      clear h2
      refine hK.out _ _ b2 ?_
      clear hK K
      try simp only [Act.put, List.setIfInBounds_toArray, List.set_cons_zero, List.set_cons_succ]
      refine wpM_done (by decide +kernel) ?_
      simp only [List.drop_succ_cons, List.drop_zero]
      have HB1 := Lib.hid (HB.out.trans (b2.mono HB.out.size))
      have k0' : y2.cell? ⟨w.heap.size, 0, none⟩ = some (.int .i64 18) := keepcell b2 k0
      clear k0 k7 c0 c1 c2 c3 c4 c5 c6 c7 d0 d1 d2 d3 d4 d5 d6 d7
      rcases H3.out with h3 | h3 | h3 <;> rcases H4.out with h4 | h4 | h4
      all_goals
        subst h3 h4
        go_wp2
        go_ret
        exact ⟨by rw [HE.out]; rfl, HB1.out⟩
    · go_enter Try.func16, Try.ntmps16
      go_wp2_with fail
      rw [← hW0]
      clear hW0
      have hb : Below W0.heap.size W0 W0.drew := below_drew (Below.refl _ _)
      refine wp_region_mix 12 (fun w' => Below W0.heap.size W0 w') (by kernel_rfl) (by decide) ?_
      generalize W0.drew = y0 at hb ⊢
      refine wpM_take (i := 0) (oi := ⟨some 30, _, _, _, _, _⟩) (v := ?_) rfl (by decide +kernel) (by decide +kernel) (by decide +kernel) (fun _ _ _ h => h) (Or.inl ⟨by rfl, ?_⟩) hb ?_
      case refine_2 =>
        intro w' hSw
        have k0' := keepcell hSw k0
        have k7' := keepcell hSw k7
        have c0' := keepcell hSw c0
        have c1' := keepcell hSw c1
        have c2' := keepcell hSw c2
        have c3' := keepcell hSw c3
        have c4' := keepcell hSw c4
        have c5' := keepcell hSw c5
        have c6' := keepcell hSw c6
        have c7' := keepcell hSw c7
        have d0' := keepcell hSw d0
        have d1' := keepcell hSw d1
        have d2' := keepcell hSw d2
        have d3' := keepcell hSw d3
        have d4' := keepcell hSw d4
        have d5' := keepcell hSw d5
        have d6' := keepcell hSw d6
        have d7' := keepcell hSw d7
        go_simp
        try (with_reducible rfl)
      try simp only [Act.put, List.setIfInBounds_toArray, List.set_cons_zero, List.set_cons_succ]
      refine wpM_take (i := 1) (oi := ⟨some 31, _, _, _, _, _⟩) (v := ?_) rfl (by decide +kernel) (by decide +kernel) (by decide +kernel) (fun _ _ _ h => h) (Or.inl ⟨by rfl, ?_⟩) hb ?_
      case refine_2 =>
        intro w' hSw
        have k0' := keepcell hSw k0
        have k7' := keepcell hSw k7
        have c0' := keepcell hSw c0
        have c1' := keepcell hSw c1
        have c2' := keepcell hSw c2
        have c3' := keepcell hSw c3
        have c4' := keepcell hSw c4
        have c5' := keepcell hSw c5
        have c6' := keepcell hSw c6
        have c7' := keepcell hSw c7
        have d0' := keepcell hSw d0
        have d1' := keepcell hSw d1
        have d2' := keepcell hSw d2
        have d3' := keepcell hSw d3
        have d4' := keepcell hSw d4
        have d5' := keepcell hSw d5
        have d6' := keepcell hSw d6
        have d7' := keepcell hSw d7
        go_simp
        try (with_reducible rfl)
      try simp only [Act.put, List.setIfInBounds_toArray, List.set_cons_zero, List.set_cons_succ]
      refine wpM_take (i := 2) (oi := ⟨some 32, _, _, _, _, _⟩) (v := ?_) rfl (by decide +kernel) (by decide +kernel) (by decide +kernel) (fun _ _ _ h => h) (Or.inl ⟨by rfl, ?_⟩) hb ?_
      case refine_2 =>
        intro w' hSw
        have k0' := keepcell hSw k0
        have k7' := keepcell hSw k7
        have c0' := keepcell hSw c0
        have c1' := keepcell hSw c1
        have c2' := keepcell hSw c2
        have c3' := keepcell hSw c3
        have c4' := keepcell hSw c4
        have c5' := keepcell hSw c5
        have c6' := keepcell hSw c6
        have c7' := keepcell hSw c7
        have d0' := keepcell hSw d0
        have d1' := keepcell hSw d1
        have d2' := keepcell hSw d2
        have d3' := keepcell hSw d3
        have d4' := keepcell hSw d4
        have d5' := keepcell hSw d5
        have d6' := keepcell hSw d6
        have d7' := keepcell hSw d7
        go_simp
        try (with_reducible rfl)
      try simp only [Act.put, List.setIfInBounds_toArray, List.set_cons_zero, List.set_cons_succ]
      refine wpM_take (i := 3) (oi := ⟨some 33, _, _, _, _, _⟩) (v := ?_) rfl (by decide +kernel) (by decide +kernel) (by decide +kernel) (fun _ _ _ h => h) (Or.inl ⟨by rfl, ?_⟩) hb ?_
      case refine_2 =>
        intro w' hSw
        have k0' := keepcell hSw k0
        have k7' := keepcell hSw k7
        have c0' := keepcell hSw c0
        have c1' := keepcell hSw c1
        have c2' := keepcell hSw c2
        have c3' := keepcell hSw c3
        have c4' := keepcell hSw c4
        have c5' := keepcell hSw c5
        have c6' := keepcell hSw c6
        have c7' := keepcell hSw c7
        have d0' := keepcell hSw d0
        have d1' := keepcell hSw d1
        have d2' := keepcell hSw d2
        have d3' := keepcell hSw d3
        have d4' := keepcell hSw d4
        have d5' := keepcell hSw d5
        have d6' := keepcell hSw d6
        have d7' := keepcell hSw d7
        go_simp
        try (with_reducible rfl)
      try simp only [Act.put, List.setIfInBounds_toArray, List.set_cons_zero, List.set_cons_succ]
      refine wpM_take (i := 4) (oi := ⟨some 34, _, _, _, _, _⟩) (v := ?_) rfl (by decide +kernel) (by decide +kernel) (by decide +kernel) (fun _ _ _ h => h) (Or.inl ⟨by rfl, ?_⟩) hb ?_
      case refine_2 =>
        intro w' hSw
        have k0' := keepcell hSw k0
        have k7' := keepcell hSw k7
        have c0' := keepcell hSw c0
        have c1' := keepcell hSw c1
        have c2' := keepcell hSw c2
        have c3' := keepcell hSw c3
        have c4' := keepcell hSw c4
        have c5' := keepcell hSw c5
        have c6' := keepcell hSw c6
        have c7' := keepcell hSw c7
        have d0' := keepcell hSw d0
        have d1' := keepcell hSw d1
        have d2' := keepcell hSw d2
        have d3' := keepcell hSw d3
        have d4' := keepcell hSw d4
        have d5' := keepcell hSw d5
        have d6' := keepcell hSw d6
        have d7' := keepcell hSw d7
        go_simp
        try (with_reducible rfl)
      try simp only [Act.put, List.setIfInBounds_toArray, List.set_cons_zero, List.set_cons_succ]
      refine wpM_take (i := 6) (oi := ⟨some 36, _, _, _, _, _⟩) (v := ?_) rfl (by decide +kernel) (by decide +kernel) (by decide +kernel) (fun _ _ _ h => h) (Or.inl ⟨by rfl, ?_⟩) hb ?_
      case refine_2 =>
        intro w' hSw
        have k0' := keepcell hSw k0
        have k7' := keepcell hSw k7
        have c0' := keepcell hSw c0
        have c1' := keepcell hSw c1
        have c2' := keepcell hSw c2
        have c3' := keepcell hSw c3
        have c4' := keepcell hSw c4
        have c5' := keepcell hSw c5
        have c6' := keepcell hSw c6
        have c7' := keepcell hSw c7
        have d0' := keepcell hSw d0
        have d1' := keepcell hSw d1
        have d2' := keepcell hSw d2
        have d3' := keepcell hSw d3
        have d4' := keepcell hSw d4
        have d5' := keepcell hSw d5
        have d6' := keepcell hSw d6
        have d7' := keepcell hSw d7
        go_simp
        try (with_reducible rfl)
      try simp only [Act.put, List.setIfInBounds_toArray, List.set_cons_zero, List.set_cons_succ]
      refine wpM_take (i := 7) (oi := ⟨some 37, _, _, _, _, _⟩) (v := ?_) rfl (by decide +kernel) (by decide +kernel) (by decide +kernel) (fun _ _ _ h => h) (Or.inl ⟨by rfl, ?_⟩) hb ?_
      case refine_2 =>
        intro w' hSw
        have k0' := keepcell hSw k0
        have k7' := keepcell hSw k7
        have c0' := keepcell hSw c0
        have c1' := keepcell hSw c1
        have c2' := keepcell hSw c2
        have c3' := keepcell hSw c3
        have c4' := keepcell hSw c4
        have c5' := keepcell hSw c5
        have c6' := keepcell hSw c6
        have c7' := keepcell hSw c7
        have d0' := keepcell hSw d0
        have d1' := keepcell hSw d1
        have d2' := keepcell hSw d2
        have d3' := keepcell hSw d3
        have d4' := keepcell hSw d4
        have d5' := keepcell hSw d5
        have d6' := keepcell hSw d6
        have d7' := keepcell hSw d7
        go_simp
        try (with_reducible rfl)
      try simp only [Act.put, List.setIfInBounds_toArray, List.set_cons_zero, List.set_cons_succ]
      refine wpM_take (i := 8) (oi := ⟨some 38, _, _, _, _, _⟩) (v := ?_) rfl (by decide +kernel) (by decide +kernel) (by decide +kernel) (fun _ _ _ h => h) (Or.inl ⟨by rfl, ?_⟩) hb ?_
      case refine_2 =>
        intro w' hSw
        have k0' := keepcell hSw k0
        have k7' := keepcell hSw k7
        have c0' := keepcell hSw c0
        have c1' := keepcell hSw c1
        have c2' := keepcell hSw c2
        have c3' := keepcell hSw c3
        have c4' := keepcell hSw c4
        have c5' := keepcell hSw c5
        have c6' := keepcell hSw c6
        have c7' := keepcell hSw c7
        have d0' := keepcell hSw d0
        have d1' := keepcell hSw d1
        have d2' := keepcell hSw d2
        have d3' := keepcell hSw d3
        have d4' := keepcell hSw d4
        have d5' := keepcell hSw d5
        have d6' := keepcell hSw d6
        have d7' := keepcell hSw d7
        go_simp
        try (with_reducible rfl)
      try simp only [Act.put, List.setIfInBounds_toArray, List.set_cons_zero, List.set_cons_succ]
      refine wpM_take (i := 9) (oi := ⟨some 39, _, _, _, _, _⟩) (v := ?_) rfl (by decide +kernel) (by decide +kernel) (by decide +kernel) (fun _ _ _ h => h) (Or.inl ⟨by rfl, ?_⟩) hb ?_
      case refine_2 =>
        intro w' hSw
        have k0' := keepcell hSw k0
        have k7' := keepcell hSw k7
        have c0' := keepcell hSw c0
        have c1' := keepcell hSw c1
        have c2' := keepcell hSw c2
        have c3' := keepcell hSw c3
        have c4' := keepcell hSw c4
        have c5' := keepcell hSw c5
        have c6' := keepcell hSw c6
        have c7' := keepcell hSw c7
        have d0' := keepcell hSw d0
        have d1' := keepcell hSw d1
        have d2' := keepcell hSw d2
        have d3' := keepcell hSw d3
        have d4' := keepcell hSw d4
        have d5' := keepcell hSw d5
        have d6' := keepcell hSw d6
        have d7' := keepcell hSw d7
        go_simp
        try (with_reducible rfl)
      try simp only [Act.put, List.setIfInBounds_toArray, List.set_cons_zero, List.set_cons_succ]
      refine wpM_take (i := 10) (oi := ⟨some 40, _, _, _, _, _⟩) (v := ?_) rfl (by decide +kernel) (by decide +kernel) (by decide +kernel) (fun _ _ _ h => h) (Or.inl ⟨by rfl, ?_⟩) hb ?_
      case refine_2 =>
        intro w' hSw
        have k0' := keepcell hSw k0
        have k7' := keepcell hSw k7
        have c0' := keepcell hSw c0
        have c1' := keepcell hSw c1
        have c2' := keepcell hSw c2
        have c3' := keepcell hSw c3
        have c4' := keepcell hSw c4
        have c5' := keepcell hSw c5
        have c6' := keepcell hSw c6
        have c7' := keepcell hSw c7
        have d0' := keepcell hSw d0
        have d1' := keepcell hSw d1
        have d2' := keepcell hSw d2
        have d3' := keepcell hSw d3
        have d4' := keepcell hSw d4
        have d5' := keepcell hSw d5
        have d6' := keepcell hSw d6
        have d7' := keepcell hSw d7
        go_simp
        try (with_reducible rfl)
      try simp only [Act.put, List.setIfInBounds_toArray, List.set_cons_zero, List.set_cons_succ]
      refine wpM_step (i := 5) (o := ⟨some 35, _, _, _, _, _⟩) rfl (by decide +kernel) (by decide) (fun K hK => ?_)
      go_simp
      refine (CI.out y0 (HB.out.trans (hb.mono HB.out.size))).mono ?_
      rintro e y1 ⟨rfl, h1⟩
      have b1 : Below W0.heap.size W0 y1 := hb.trans (h1.mono hb.size)
      clear h1
      refine hK.out _ _ b1 ?_
      clear hK K
      try simp only [Act.put, List.setIfInBounds_toArray, List.set_cons_zero, List.set_cons_succ]
      refine wpM_step (i := 11) (o := ⟨some 41, _, _, _, _, _⟩) rfl (by decide +kernel) (by decide) (fun K hK => ?_)
      go_simp
      refine (CI1.out y1 (HB.out.trans (b1.mono HB.out.size))).mono ?_
      rintro e y2 ⟨rfl, h2⟩
      have b2 : Below W0.heap.size W0 y2 := b1.trans (h2.mono b1.size)
      clear h2
      refine hK.out _ _ b2 ?_
      clear hK K
      try simp only [Act.put, List.setIfInBounds_toArray, List.set_cons_zero, List.set_cons_succ]
      refine wpM_done (by decide +kernel) ?_
      simp only [List.drop_succ_cons, List.drop_zero]
      have HB1 := Lib.hid (HB.out.trans (b2.mono HB.out.size))
      have k0' : y2.cell? ⟨w.heap.size, 0, none⟩ = some (.int .i64 19) := keepcell b2 k0
      clear k0 k7 c0 c1 c2 c3 c4 c5 c6 c7 d0 d1 d2 d3 d4 d5 d6 d7
      rcases H3.out with h3 | h3 | h3 <;> rcases H4.out with h4 | h4 | h4
      all_goals
        subst h3 h4
        go_wp2
        go_ret
        exact ⟨by rw [HE.out]; rfl, HB1.out⟩
  | cmp x a d t hop hargs ha hd hta htd =>
    intro w A n c h hrow hok
    have hm : a ∈ x.args := by rw [hargs]; simp
    have hm2 : d ∈ x.args := by rw [hargs]; simp
    have hx0 : 0 < x.args.length := by rw [hargs]; exact Nat.zero_lt_succ _
    have hx1 : 1 < x.args.length := by rw [hargs]; exact Nat.lt_succ_self _
    have hx1i : (1 : Int) < (x.args.length : Int) := by omega
    obtain ⟨b, off, hA, hbl, hc⟩ := h.at' hx0
    have HC := Lib.hid (fun W hW => hc W hW 0 a (by rw [hargs]; rfl))
    have HD := Lib.hid (fun W hW => hc W hW 1 d (by rw [hargs]; rfl))
    simp only [Nat.zero_mul, Nat.add_zero, Nat.one_mul, Nat.add_assoc, Nat.reduceAdd] at HC HD
    have CV := Lib.hid (fun W (hW : Below w.heap.size w W) => RValue_any R a ha W A n c ((h.arg a hm).keep hW) (hrow.below hW) hok)
    have CV1 := Lib.hid (fun W (hW : Below w.heap.size w W) => RValue_any R d hd W A n c ((h.arg d hm2).keep hW) (hrow.below hW) hok)
    have HOA := Lib.hid (evM_ok R hok a (h.arg a hm))
    have HOD := Lib.hid (evM_ok R hok d (h.arg d hm2))
    have HE := Lib.hid (show condM R x = if (evM R a).k = 0 then 2 else if (evM R d).k = 0 then 2 else rcmpM x.op (ordM (evM R a) (evM R d)) (evM R a) (evM R d) by
      rw [condM_eq, hargs]
      simp only [condL, evL, comC]
      rw [if_neg (by omega), if_neg (by omega)]
      exact rcmp_eq hop hta htd)
    obtain ⟨r, hr⟩ : ∃ r, condM R x = r := ⟨_, rfl⟩
    rw [hr] at HE ⊢
    have hbw : b < w.heap.size := hbl
    unfold Ex.agg at *
    obtain ⟨op, hop2⟩ : ∃ op, x.op = op := ⟨_, rfl⟩
    rw [hop2] at hop HE ⊢
    clear hc hbl hr h hrow hok hm hop2 hargs hm2
    obtain ⟨W0, hW0⟩ : ∃ W, W = w.alloc (.cells #[.int .i64 op, .string x.tb, .string x.nm, .int .i64 x.ix, .int .i64 x.v.k, .int .i64 x.v.n, .string x.v.s, .slice (some ⟨b, off, none⟩) x.args.length x.c] 26) := ⟨_, rfl⟩
    have HB := Lib.hid (show Below w.heap.size w W0 by rw [hW0]; exact (Below.refl _ w).alloc (Nat.le_refl _) _)
    have HK := Lib.hid (show Blk W0 w.heap.size 26 #[.int .i64 op, .string x.tb, .string x.nm, .int .i64 x.ix, .int .i64 x.v.k, .int .i64 x.v.n, .string x.v.s, .slice (some ⟨b, off, none⟩) x.args.length x.c] by rw [hW0]; exact Blk.new _ _ _)
    rw [hA]
    clear hA
    obtain ⟨c0, c1, c2, c3, c4, c5, c6, c7⟩ := HC.out _ HB.out
    obtain ⟨d0, d1, d2, d3, d4, d5, d6, d7⟩ := HD.out _ HB.out
    have k0 : W0.cell? ⟨w.heap.size, 0, none⟩ = some (.int .i64 op) := HK.out.cell 0
    have k7 : W0.cell? ⟨w.heap.size, 7, none⟩ = some (.slice (some ⟨b, off, none⟩) x.args.length x.c) := HK.out.cell 7
    obtain ⟨u, hu⟩ : ∃ u, evM R a = u := ⟨_, rfl⟩
    obtain ⟨v, hv⟩ : ∃ u, evM R d = u := ⟨_, rfl⟩
    rw [hu] at HE HOA hta
    rw [hv] at HE HOD htd
    simp only [hu] at CV
    simp only [hv] at CV1
    clear hu hv
    have HTA := Lib.hid hta
    have HTD := Lib.hid htd
    clear hta htd
    unfold V3.agg at CV CV1
    have e1 : (op == 1) = false := by simp; omega
    have e17 : (op == 17) = false := by simp; omega
    have e18 : (op == 18) = false := by simp; omega
    have e19 : (op == 19) = false := by simp; omega
    have e20 : (op == 20) = false := by simp; omega
    go_enter Try.func16, Try.ntmps16
    go_wp2_with fail
    rw [← hW0]
    clear hW0
    have hb : Below W0.heap.size W0 W0.drew := below_drew (Below.refl _ _)
    refine wp_region_mix 14 (fun w' => Below W0.heap.size W0 w') (by kernel_rfl) (by decide) ?_
    generalize W0.drew = y0 at hb ⊢
    refine wpM_take (i := 0) (oi := ⟨some 74, _, _, _, _, _⟩) (v := ?_) rfl (by decide +kernel) (by decide +kernel) (by decide +kernel) (fun _ _ _ h => h) (Or.inl ⟨by rfl, ?_⟩) hb ?_
    case refine_2 =>
      intro w' hSw
      have k0' := keepcell hSw k0
      have k7' := keepcell hSw k7
      have c0' := keepcell hSw c0
      have c1' := keepcell hSw c1
      have c2' := keepcell hSw c2
      have c3' := keepcell hSw c3
      have c4' := keepcell hSw c4
      have c5' := keepcell hSw c5
      have c6' := keepcell hSw c6
      have c7' := keepcell hSw c7
      have d0' := keepcell hSw d0
      have d1' := keepcell hSw d1
      have d2' := keepcell hSw d2
      have d3' := keepcell hSw d3
      have d4' := keepcell hSw d4
      have d5' := keepcell hSw d5
      have d6' := keepcell hSw d6
      have d7' := keepcell hSw d7
      go_simp
      try (with_reducible rfl)
    try simp only [Act.put, List.setIfInBounds_toArray, List.set_cons_zero, List.set_cons_succ]
    refine wpM_take (i := 1) (oi := ⟨some 75, _, _, _, _, _⟩) (v := ?_) rfl (by decide +kernel) (by decide +kernel) (by decide +kernel) (fun _ _ _ h => h) (Or.inl ⟨by rfl, ?_⟩) hb ?_
    case refine_2 =>
      intro w' hSw
      have k0' := keepcell hSw k0
      have k7' := keepcell hSw k7
      have c0' := keepcell hSw c0
      have c1' := keepcell hSw c1
      have c2' := keepcell hSw c2
      have c3' := keepcell hSw c3
      have c4' := keepcell hSw c4
      have c5' := keepcell hSw c5
      have c6' := keepcell hSw c6
      have c7' := keepcell hSw c7
      have d0' := keepcell hSw d0
      have d1' := keepcell hSw d1
      have d2' := keepcell hSw d2
      have d3' := keepcell hSw d3
      have d4' := keepcell hSw d4
      have d5' := keepcell hSw d5
      have d6' := keepcell hSw d6
      have d7' := keepcell hSw d7
      go_simp
      try (with_reducible rfl)
    try simp only [Act.put, List.setIfInBounds_toArray, List.set_cons_zero, List.set_cons_succ]
    refine wpM_take (i := 2) (oi := ⟨some 76, _, _, _, _, _⟩) (v := ?_) rfl (by decide +kernel) (by decide +kernel) (by decide +kernel) (fun _ _ _ h => h) (Or.inl ⟨by rfl, ?_⟩) hb ?_
    case refine_2 =>
      intro w' hSw
      have k0' := keepcell hSw k0
      have k7' := keepcell hSw k7
      have c0' := keepcell hSw c0
      have c1' := keepcell hSw c1
      have c2' := keepcell hSw c2
      have c3' := keepcell hSw c3
      have c4' := keepcell hSw c4
      have c5' := keepcell hSw c5
      have c6' := keepcell hSw c6
      have c7' := keepcell hSw c7
      have d0' := keepcell hSw d0
      have d1' := keepcell hSw d1
      have d2' := keepcell hSw d2
      have d3' := keepcell hSw d3
      have d4' := keepcell hSw d4
      have d5' := keepcell hSw d5
      have d6' := keepcell hSw d6
      have d7' := keepcell hSw d7
      go_simp
      try (with_reducible rfl)
    try simp only [Act.put, List.setIfInBounds_toArray, List.set_cons_zero, List.set_cons_succ]
    refine wpM_take (i := 3) (oi := ⟨some 77, _, _, _, _, _⟩) (v := ?_) rfl (by decide +kernel) (by decide +kernel) (by decide +kernel) (fun _ _ _ h => h) (Or.inl ⟨by rfl, ?_⟩) hb ?_
    case refine_2 =>
      intro w' hSw
      have k0' := keepcell hSw k0
      have k7' := keepcell hSw k7
      have c0' := keepcell hSw c0
      have c1' := keepcell hSw c1
      have c2' := keepcell hSw c2
      have c3' := keepcell hSw c3
      have c4' := keepcell hSw c4
      have c5' := keepcell hSw c5
      have c6' := keepcell hSw c6
      have c7' := keepcell hSw c7
      have d0' := keepcell hSw d0
      have d1' := keepcell hSw d1
      have d2' := keepcell hSw d2
      have d3' := keepcell hSw d3
      have d4' := keepcell hSw d4
      have d5' := keepcell hSw d5
      have d6' := keepcell hSw d6
      have d7' := keepcell hSw d7
      go_simp
      try (with_reducible rfl)
    try simp only [Act.put, List.setIfInBounds_toArray, List.set_cons_zero, List.set_cons_succ]
    refine wpM_take (i := 4) (oi := ⟨some 78, _, _, _, _, _⟩) (v := ?_) rfl (by decide +kernel) (by decide +kernel) (by decide +kernel) (fun _ _ _ h => h) (Or.inl ⟨by rfl, ?_⟩) hb ?_
    case refine_2 =>
      intro w' hSw
      have k0' := keepcell hSw k0
      have k7' := keepcell hSw k7
      have c0' := keepcell hSw c0
      have c1' := keepcell hSw c1
      have c2' := keepcell hSw c2
      have c3' := keepcell hSw c3
      have c4' := keepcell hSw c4
      have c5' := keepcell hSw c5
      have c6' := keepcell hSw c6
      have c7' := keepcell hSw c7
      have d0' := keepcell hSw d0
      have d1' := keepcell hSw d1
      have d2' := keepcell hSw d2
      have d3' := keepcell hSw d3
      have d4' := keepcell hSw d4
      have d5' := keepcell hSw d5
      have d6' := keepcell hSw d6
      have d7' := keepcell hSw d7
      go_simp
      try (with_reducible rfl)
    try simp only [Act.put, List.setIfInBounds_toArray, List.set_cons_zero, List.set_cons_succ]
    refine wpM_take (i := 6) (oi := ⟨some 80, _, _, _, _, _⟩) (v := ?_) rfl (by decide +kernel) (by decide +kernel) (by decide +kernel) (fun _ _ _ h => h) (Or.inl ⟨by rfl, ?_⟩) hb ?_
    case refine_2 =>
      intro w' hSw
      have k0' := keepcell hSw k0
      have k7' := keepcell hSw k7
      have c0' := keepcell hSw c0
      have c1' := keepcell hSw c1
      have c2' := keepcell hSw c2
      have c3' := keepcell hSw c3
      have c4' := keepcell hSw c4
      have c5' := keepcell hSw c5
      have c6' := keepcell hSw c6
      have c7' := keepcell hSw c7
      have d0' := keepcell hSw d0
      have d1' := keepcell hSw d1
      have d2' := keepcell hSw d2
      have d3' := keepcell hSw d3
      have d4' := keepcell hSw d4
      have d5' := keepcell hSw d5
      have d6' := keepcell hSw d6
      have d7' := keepcell hSw d7
      go_simp
      try (with_reducible rfl)
    try simp only [Act.put, List.setIfInBounds_toArray, List.set_cons_zero, List.set_cons_succ]
    refine wpM_take (i := 7) (oi := ⟨some 81, _, _, _, _, _⟩) (v := ?_) rfl (by decide +kernel) (by decide +kernel) (by decide +kernel) (fun _ _ _ h => h) (Or.inl ⟨by rfl, ?_⟩) hb ?_
    case refine_2 =>
      intro w' hSw
      have k0' := keepcell hSw k0
      have k7' := keepcell hSw k7
      have c0' := keepcell hSw c0
      have c1' := keepcell hSw c1
      have c2' := keepcell hSw c2
      have c3' := keepcell hSw c3
      have c4' := keepcell hSw c4
      have c5' := keepcell hSw c5
      have c6' := keepcell hSw c6
      have c7' := keepcell hSw c7
      have d0' := keepcell hSw d0
      have d1' := keepcell hSw d1
      have d2' := keepcell hSw d2
      have d3' := keepcell hSw d3
      have d4' := keepcell hSw d4
      have d5' := keepcell hSw d5
      have d6' := keepcell hSw d6
      have d7' := keepcell hSw d7
      go_simp
      try (with_reducible rfl)
    try simp only [Act.put, List.setIfInBounds_toArray, List.set_cons_zero, List.set_cons_succ]
    refine wpM_take (i := 8) (oi := ⟨some 82, _, _, _, _, _⟩) (v := ?_) rfl (by decide +kernel) (by decide +kernel) (by decide +kernel) (fun _ _ _ h => h) (Or.inl ⟨by rfl, ?_⟩) hb ?_
    case refine_2 =>
      intro w' hSw
      have k0' := keepcell hSw k0
      have k7' := keepcell hSw k7
      have c0' := keepcell hSw c0
      have c1' := keepcell hSw c1
      have c2' := keepcell hSw c2
      have c3' := keepcell hSw c3
      have c4' := keepcell hSw c4
      have c5' := keepcell hSw c5
      have c6' := keepcell hSw c6
      have c7' := keepcell hSw c7
      have d0' := keepcell hSw d0
      have d1' := keepcell hSw d1
      have d2' := keepcell hSw d2
      have d3' := keepcell hSw d3
      have d4' := keepcell hSw d4
      have d5' := keepcell hSw d5
      have d6' := keepcell hSw d6
      have d7' := keepcell hSw d7
      go_simp
      try (with_reducible rfl)
    try simp only [Act.put, List.setIfInBounds_toArray, List.set_cons_zero, List.set_cons_succ]
    refine wpM_take (i := 9) (oi := ⟨some 83, _, _, _, _, _⟩) (v := ?_) rfl (by decide +kernel) (by decide +kernel) (by decide +kernel) (fun _ _ _ h => h) (Or.inl ⟨by rfl, ?_⟩) hb ?_
    case refine_2 =>
      intro w' hSw
      have k0' := keepcell hSw k0
      have k7' := keepcell hSw k7
      have c0' := keepcell hSw c0
      have c1' := keepcell hSw c1
      have c2' := keepcell hSw c2
      have c3' := keepcell hSw c3
      have c4' := keepcell hSw c4
      have c5' := keepcell hSw c5
      have c6' := keepcell hSw c6
      have c7' := keepcell hSw c7
      have d0' := keepcell hSw d0
      have d1' := keepcell hSw d1
      have d2' := keepcell hSw d2
      have d3' := keepcell hSw d3
      have d4' := keepcell hSw d4
      have d5' := keepcell hSw d5
      have d6' := keepcell hSw d6
      have d7' := keepcell hSw d7
      go_simp
      try (with_reducible rfl)
    try simp only [Act.put, List.setIfInBounds_toArray, List.set_cons_zero, List.set_cons_succ]
    refine wpM_take (i := 10) (oi := ⟨some 84, _, _, _, _, _⟩) (v := ?_) rfl (by decide +kernel) (by decide +kernel) (by decide +kernel) (fun _ _ _ h => h) (Or.inl ⟨by rfl, ?_⟩) hb ?_
    case refine_2 =>
      intro w' hSw
      have k0' := keepcell hSw k0
      have k7' := keepcell hSw k7
      have c0' := keepcell hSw c0
      have c1' := keepcell hSw c1
      have c2' := keepcell hSw c2
      have c3' := keepcell hSw c3
      have c4' := keepcell hSw c4
      have c5' := keepcell hSw c5
      have c6' := keepcell hSw c6
      have c7' := keepcell hSw c7
      have d0' := keepcell hSw d0
      have d1' := keepcell hSw d1
      have d2' := keepcell hSw d2
      have d3' := keepcell hSw d3
      have d4' := keepcell hSw d4
      have d5' := keepcell hSw d5
      have d6' := keepcell hSw d6
      have d7' := keepcell hSw d7
      go_simp
      try (with_reducible rfl)
    try simp only [Act.put, List.setIfInBounds_toArray, List.set_cons_zero, List.set_cons_succ]
    refine wpM_inv (fun i => if i < 12 then i + 74 else i - 3) [5, 11, 12, 13] (fun d vs W => Below W0.heap.size W0 W ∧ (d 5 = true → vs 5 = .agg #[.int .i64 u.k, .int .i64 u.n, .string u.s]) ∧ (d 11 = true → vs 11 = .agg #[.int .i64 v.k, .int .i64 v.n, .string v.s]) ∧ (d 12 = true → ∃ g, vs 12 = .pointer (some ⟨g, 0, none⟩) ∧ W0.heap.size ≤ g ∧ Blk W g 23 #[.int .i64 0, .int .i64 0, .string ⟨#[]⟩]) ∧ (d 13 = true → ∃ g, vs 13 = .pointer (some ⟨g, 0, none⟩) ∧ W0.heap.size ≤ g ∧ Blk W g 23 #[.int .i64 0, .int .i64 0, .string ⟨#[]⟩]) ∧ (d 12 = true → d 13 = true → vs 12 ≠ vs 13)) (by decide +kernel) (fun d vs W h => h.1) ⟨hb, fun h => (by cases h), fun h => (by cases h), fun h => (by cases h), fun h => (by cases h), fun h => (by cases h)⟩ ?_ ?_
    · refine List.forall_mem_cons.2 ⟨?_, List.forall_mem_cons.2 ⟨?_, List.forall_mem_cons.2 ⟨?_, List.forall_mem_cons.2 ⟨?_, List.forall_mem_nil _⟩⟩⟩⟩
      · refine ⟨⟨some 79, _, _, _, _, _⟩, rfl, rfl, fun d vs W K hI hd hdep hK => ?_⟩
        obtain ⟨hbI, i5, i11, i12, i13, ine⟩ := hI
        simp only [puts, List.foldl_cons, List.foldl_nil, Act.put, List.setIfInBounds_toArray, List.set_cons_zero, List.set_cons_succ, Nat.reduceAdd, Nat.reduceSub, Nat.reduceLT, if_true, if_false, reduceIte] at hK ⊢
        go_simp
        refine (CV.out _ (HB.out.trans (hbI.mono HB.out.size))).mono ?_
        rintro e W' ⟨rfl, hw⟩
        exact hK _ W' ⟨hbI.trans (hw.mono hbI.size), fun _ => rfl, i11, fun h => let ⟨g, e, hg, hk⟩ := i12 h; ⟨g, e, hg, hk.below hw⟩, fun h => let ⟨g, e, hg, hk⟩ := i13 h; ⟨g, e, hg, hk.below hw⟩, ine⟩
      · refine ⟨⟨some 85, _, _, _, _, _⟩, rfl, rfl, fun d vs W K hI hd hdep hK => ?_⟩
        obtain ⟨hbI, i5, i11, i12, i13, ine⟩ := hI
        simp only [puts, List.foldl_cons, List.foldl_nil, Act.put, List.setIfInBounds_toArray, List.set_cons_zero, List.set_cons_succ, Nat.reduceAdd, Nat.reduceSub, Nat.reduceLT, if_true, if_false, reduceIte] at hK ⊢
        go_simp
        refine (CV1.out _ (HB.out.trans (hbI.mono HB.out.size))).mono ?_
        rintro e W' ⟨rfl, hw⟩
        exact hK _ W' ⟨hbI.trans (hw.mono hbI.size), i5, fun _ => rfl, fun h => let ⟨g, e, hg, hk⟩ := i12 h; ⟨g, e, hg, hk.below hw⟩, fun h => let ⟨g, e, hg, hk⟩ := i13 h; ⟨g, e, hg, hk.below hw⟩, ine⟩
      · refine ⟨⟨some 9, _, _, _, _, _⟩, rfl, rfl, fun d vs W K hI hd hdep hK => ?_⟩
        obtain ⟨hbI, i5, i11, i12, i13, ine⟩ := hI
        simp only [puts, List.foldl_cons, List.foldl_nil, Act.put, List.setIfInBounds_toArray, List.set_cons_zero, List.set_cons_succ, Nat.reduceAdd, Nat.reduceSub, Nat.reduceLT, if_true, if_false, reduceIte] at hK ⊢
        go_simp
        refine hK (.pointer (some ⟨W.heap.size, 0, none⟩)) _ ⟨hbI.alloc hbI.size _, i5, i11, fun _ => ⟨_, rfl, hbI.size, Blk.new _ _ _⟩, fun h => let ⟨g, e, hg, hk⟩ := i13 h; ⟨g, e, hg, hk.alloc _⟩, ?_⟩
        exact fun _ h => by
          obtain ⟨g, e, hg, hk⟩ := i13 h
          intro he
          have he2 : Value.pointer (some ⟨W.heap.size, 0, none⟩) = vs 13 := he
          rw [e] at he2
          injection he2 with he2
          injection he2 with he2
          injection he2 with he2
          have := hk.lt
          omega
      · refine ⟨⟨some 10, _, _, _, _, _⟩, rfl, rfl, fun d vs W K hI hd hdep hK => ?_⟩
        obtain ⟨hbI, i5, i11, i12, i13, ine⟩ := hI
        simp only [puts, List.foldl_cons, List.foldl_nil, Act.put, List.setIfInBounds_toArray, List.set_cons_zero, List.set_cons_succ, Nat.reduceAdd, Nat.reduceSub, Nat.reduceLT, if_true, if_false, reduceIte] at hK ⊢
        go_simp
        refine hK (.pointer (some ⟨W.heap.size, 0, none⟩)) _ ⟨hbI.alloc hbI.size _, i5, i11, fun h => let ⟨g, e, hg, hk⟩ := i12 h; ⟨g, e, hg, hk.alloc _⟩, fun _ => ⟨_, rfl, hbI.size, Blk.new _ _ _⟩, ?_⟩
        exact fun h _ => by
          obtain ⟨g, e, hg, hk⟩ := i12 h
          intro he
          have he2 : vs 12 = Value.pointer (some ⟨W.heap.size, 0, none⟩) := he
          rw [e] at he2
          injection he2 with he2
          injection he2 with he2
          injection he2 with he2
          have := hk.lt
          omega
    · intro d vs W hd hI
      obtain ⟨hbI, i5, i11, i12, i13, ine⟩ := hI
      have v5 := i5 (hd 5 (by decide))
      have v11 := i11 (hd 11 (by decide))
      obtain ⟨g1, v12, hg1, q1⟩ := i12 (hd 12 (by decide))
      obtain ⟨g2, v13, hg2, q2⟩ := i13 (hd 13 (by decide))
      have hne : g1 ≠ g2 := fun e => ine (hd 12 (by decide)) (hd 13 (by decide)) (by rw [v12, v13, e])
      clear ine i5 i11 i12 i13 hd
      simp only [puts, List.foldl_cons, List.foldl_nil, Act.put, List.setIfInBounds_toArray, List.set_cons_zero, List.set_cons_succ, Nat.reduceAdd, Nat.reduceSub, Nat.reduceLT, if_true, if_false, reduceIte]
      simp only [v5, v11, v12, v13]
      clear v5 v11 v12 v13
      have HBW := Lib.hid (HB.out.trans (hbI.mono HB.out.size))
      have HKW := Lib.hid (HK.out.below hbI)
      have hw0 : w.heap.size < W0.heap.size := HK.out.lt
      clear hbI hb k0 k7 c0 c1 c2 c3 c4 c5 c6 c7 d0 d1 d2 d3 d4 d5 d6 d7 HC HD CV CV1
      have Q1 := Lib.hid (q1.setRow (ds := #[.int .i64 u.k, .int .i64 u.n, .string u.s]))
      have gr1 := grown_row W g1 #[.int .i64 u.k, .int .i64 u.n, .string u.s]
      have Q2 := Lib.hid (show Blk (W.setRow g1 #[.int .i64 u.k, .int .i64 u.n, .string u.s]) g2 23 #[.int .i64 0, .int .i64 0, .string ⟨#[]⟩] from (gr1.block _ q2.lt (by simp; omega)).trans q2)
      have HK1 := Lib.hid (show Blk (W.setRow g1 #[.int .i64 u.k, .int .i64 u.n, .string u.s]) w.heap.size 26 #[.int .i64 op, .string x.tb, .string x.nm, .int .i64 x.ix, .int .i64 x.v.k, .int .i64 x.v.n, .string x.v.s, .slice (some ⟨b, off, none⟩) x.args.length x.c] from (gr1.block _ HKW.out.lt (by simp; omega)).trans HKW.out)
      have HB1 := Lib.hid (HBW.out.grown gr1 HBW.out.size (fun j hj => by injection hj with hj; omega))
      have Q3 := Lib.hid (Q2.out.setRow (ds := #[.int .i64 v.k, .int .i64 v.n, .string v.s]))
      have gr2 := grown_row (W.setRow g1 #[.int .i64 u.k, .int .i64 u.n, .string u.s]) g2 #[.int .i64 v.k, .int .i64 v.n, .string v.s]
      have Q4 := Lib.hid (show Blk ((W.setRow g1 #[.int .i64 u.k, .int .i64 u.n, .string u.s]).setRow g2 #[.int .i64 v.k, .int .i64 v.n, .string v.s]) g1 23 #[.int .i64 u.k, .int .i64 u.n, .string u.s] from (gr2.block _ Q1.out.lt (by simp; omega)).trans Q1.out)
      have HK2 := Lib.hid (show Blk ((W.setRow g1 #[.int .i64 u.k, .int .i64 u.n, .string u.s]).setRow g2 #[.int .i64 v.k, .int .i64 v.n, .string v.s]) w.heap.size 26 #[.int .i64 op, .string x.tb, .string x.nm, .int .i64 x.ix, .int .i64 x.v.k, .int .i64 x.v.n, .string x.v.s, .slice (some ⟨b, off, none⟩) x.args.length x.c] from (gr2.block _ HK1.out.lt (by simp; omega)).trans HK1.out)
      have HB2 := Lib.hid (HB1.out.grown gr2 HB1.out.size (fun j hj => by injection hj with hj; omega))
      clear gr1 gr2
      refine wpList_store_row (o := ⟨none, _, _, _, _, _⟩) rfl 23 _ _ rfl g1 #[.int .i64 u.k, .int .i64 u.n, .string u.s] rfl rfl 23 _ q1 (by kernel_rfl) rfl (by simp [Value.oneCell']) ?_
      refine wpList_store_row (o := ⟨none, _, _, _, _, _⟩) rfl 23 _ _ rfl g2 #[.int .i64 v.k, .int .i64 v.n, .string v.s] rfl rfl 23 _ Q2.out (by kernel_rfl) rfl (by simp [Value.oneCell']) ?_
      generalize (W.setRow g1 #[.int .i64 u.k, .int .i64 u.n, .string u.s]).setRow g2 #[.int .i64 v.k, .int .i64 v.n, .string v.s] = y at *
      clear Q1 Q2 HK1 HB1 HBW HKW q1 q2 HB HK hg1 hg2 hne
      have p0 : y.cell? ⟨g1, 0, none⟩ = some (.int .i64 u.k) := Q4.out.cell 0
      have p1 : y.cell? ⟨g1, 1, none⟩ = some (.int .i64 u.n) := Q4.out.cell 1
      have p2 : y.cell? ⟨g1, 2, none⟩ = some (.string u.s) := Q4.out.cell 2
      have q0 : y.cell? ⟨g2, 0, none⟩ = some (.int .i64 v.k) := Q3.out.cell 0
      have q1 : y.cell? ⟨g2, 1, none⟩ = some (.int .i64 v.n) := Q3.out.cell 1
      have q2 : y.cell? ⟨g2, 2, none⟩ = some (.string v.s) := Q3.out.cell 2
      have k0 : y.cell? ⟨w.heap.size, 0, none⟩ = some (.int .i64 op) := HK2.out.cell 0
      have CO := Lib.hid (fun W => order_any u v W)
      unfold V3.agg at CO
      have H3 := Lib.hid (ordM_three u v)
      have HS := Lib.hid (show u.k ≠ 0 → v.k ≠ 0 → u.s.size ≤ 1000 ∧ v.s.size ≤ 4611686018427387904 from fun _ _ => ⟨by rcases HTA.out with h | h | h <;> omega, HOD.out.2.2.2.2⟩)
      obtain ⟨uk, huk⟩ : ∃ k, u.k = k := ⟨_, rfl⟩
      obtain ⟨vk, hvk⟩ : ∃ k, v.k = k := ⟨_, rfl⟩
      rw [huk] at HE HS p0 ⊢
      rw [hvk] at HE HS q0 ⊢
      rw [huk, hvk] at CO
      clear huk hvk HTA HTD HOA HOD Q3 Q4
      by_cases hz : uk = 0
      · subst hz
        go_wp2
        go_ret
        exact ⟨by rw [HE.out]; rfl, HB2.out⟩
      have ez : (uk == 0) = false := by simpa using hz
      by_cases hz2 : vk = 0
      · subst hz2
        have HF := Lib.hid (show r = 2 by rw [HE.out, if_neg hz]; rfl)
        go_wp2
        go_ret
        exact ⟨by rw [HF.out]; rfl, HB2.out⟩
      have ez2 : (vk == 0) = false := by simpa using hz2
      have hss := Lib.hid (HS.out hz hz2)
      have HF := Lib.hid (show r = rcmpM op (ordM u v) u v by rw [HE.out, if_neg hz, if_neg hz2])
      clear HE hz hz2 HS
      obtain ⟨c', hc'⟩ : ∃ c', ordM u v = c' := ⟨_, rfl⟩
      rw [hc'] at H3 HF
      simp only [hc'] at CO
      clear hc'
      go_wp2_with fail
      refine (CO.out _).mono ?_
      rintro e y2 ⟨rfl, hy⟩
      have HB3 := Lib.hid (HB2.out.trans (hy.mono HB2.out.size))
      have k0' : y2.cell? ⟨w.heap.size, 0, none⟩ = some (.int .i64 op) := keepcell hy k0
      have p2' : y2.cell? ⟨g1, 2, none⟩ = some (.string u.s) := keepcell hy p2
      have q2' : y2.cell? ⟨g2, 2, none⟩ = some (.string v.s) := keepcell hy q2
      clear hy p0 p1 p2 q0 q1 q2 k0 CO HK2 HB2
      by_cases h10 : op = 10
      · subst h10
        rcases H3.out with h3 | h3 | h3
        all_goals
          subst h3
          go_wp2_with fail
          refine (of_any _ _).mono ?_
          rintro e y3 ⟨rfl, rfl⟩
          go_wp2
          go_ret
          exact ⟨by rw [HF.out]; rfl, HB3.out⟩
      have e10 : (op == 10) = false := by simpa using h10
      by_cases h11 : op = 11
      · subst h11
        rcases H3.out with h3 | h3 | h3
        all_goals
          subst h3
          go_wp2_with fail
          refine (of_any _ _).mono ?_
          rintro e y3 ⟨rfl, rfl⟩
          go_wp2
          go_ret
          exact ⟨by rw [HF.out]; rfl, HB3.out⟩
      have e11 : (op == 11) = false := by simpa using h11
      by_cases h12 : op = 12
      · subst h12
        rcases H3.out with h3 | h3 | h3
        all_goals
          subst h3
          go_wp2_with fail
          refine (of_any _ _).mono ?_
          rintro e y3 ⟨rfl, rfl⟩
          go_wp2
          go_ret
          exact ⟨by rw [HF.out]; rfl, HB3.out⟩
      have e12 : (op == 12) = false := by simpa using h12
      by_cases h13 : op = 13
      · subst h13
        rcases H3.out with h3 | h3 | h3
        all_goals
          subst h3
          go_wp2_with fail
          refine (of_any _ _).mono ?_
          rintro e y3 ⟨rfl, rfl⟩
          go_wp2
          go_ret
          exact ⟨by rw [HF.out]; rfl, HB3.out⟩
      have e13 : (op == 13) = false := by simpa using h13
      by_cases h14 : op = 14
      · subst h14
        rcases H3.out with h3 | h3 | h3
        all_goals
          subst h3
          go_wp2_with fail
          refine (of_any _ _).mono ?_
          rintro e y3 ⟨rfl, rfl⟩
          go_wp2
          go_ret
          exact ⟨by rw [HF.out]; rfl, HB3.out⟩
      have e14 : (op == 14) = false := by simpa using h14
      by_cases h15 : op = 15
      · subst h15
        rcases H3.out with h3 | h3 | h3
        all_goals
          subst h3
          go_wp2_with fail
          refine (of_any _ _).mono ?_
          rintro e y3 ⟨rfl, rfl⟩
          go_wp2
          go_ret
          exact ⟨by rw [HF.out]; rfl, HB3.out⟩
      have e15 : (op == 15) = false := by simpa using h15
      obtain rfl : op = 16 := by omega
      go_wp2_with fail
      refine (RLike_any u.s v.s _ hss.out.1 hss.out.2).mono ?_
      rintro e y3 ⟨rfl, hy⟩
      have HB4 := Lib.hid (HB3.out.trans (hy.mono HB3.out.size))
      clear hy
      have HG := Lib.hid (show r = ofM (likeM v.s.data.toList u.s.data.toList) by rw [HF.out]; rfl)
      generalize likeM v.s.data.toList u.s.data.toList = lb at *
      go_wp2_with fail
      refine (of_any _ _).mono ?_
      rintro e y4 ⟨rfl, rfl⟩
      go_wp2
      go_ret
      exact ⟨by rw [HG.out]; rfl, HB4.out⟩
end Go.Proofs.Ytfhbffgnpedaeaa
