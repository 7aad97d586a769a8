/- The reference: a bound of the values of an expression. -/
import Derived.Test.YtfhbffgnpedaeaaEcd
namespace Go.Proofs.Ytfhbffgnpedaeaa
open Go.ChangeShapes Go.WideShapes Go.ChangeAt Go.RowKit Go.ChangeMaps

def mx3 (n a b : Int) : Int := if (if n < a then a else n) < b then b else (if n < a then a else n)
def bd2 (op a b : Int) : Int := if a > 1152921504606846976 then 1152921504606846976 + 1 else if b > 1152921504606846976 then 1152921504606846976 + 1 else if op = 4 ∨ op = 5 then mx3 (wrap64 (a + b)) a b else if op = 6 then (if b ≠ 0 ∧ a > Int.tdiv 1152921504606846976 b then 1152921504606846976 + 1 else mx3 (wrap64 (a * b)) a b) else mx3 (wrap64 (a + 1000)) a b
def bdC (op n : Int) (l : List Int) : Int := if op = 1 then n else if op = 2 then 2147483648 else if op = 9 then 16 else match l with
  | [a] => a
  | [a, b] => bd2 op a b
  | _ => 0
mutual
def bdM : Ex → Int
  | .mk op _ _ _ v _ _ args => bdC op v.n (bdL args)
def bdL : List Ex → List Int
  | [] => []
  | a :: l => bdM a :: bdL l
end
theorem bdM_eq (x : Ex) : bdM x = bdC x.op x.v.n (bdL x.args) := by cases x; rw [bdM]; rfl
inductive BOk : Ex → Prop
  | one (x : Ex) : x.op = 1 ∨ x.op = 2 ∨ x.op = 9 → BOk x
  | neg (x a : Ex) : x.op = 3 → x.args = [a] → BOk a → BOk x
  | two (x a b : Ex) : x.op ≠ 1 ∧ x.op ≠ 2 ∧ x.op ≠ 9 ∧ x.op ≠ 3 → x.args = [a, b] → BOk a → BOk b → BOk x
set_option maxRecDepth 100000 in
set_option maxHeartbeats 4000000 in
theorem Bound_any (V : Value) (x : Ex) (hx : BOk x) : ∀ (w : World), ExAt w x → Calls Try.prog 53 #[x.agg, V] w fun e w' => e = .returned (.int .i64 (bdM x)) ∧ Below w.heap.size w w' := by
  induction hx with
  | one x h1 =>
    intro w h
    have HE := Lib.hid (show bdM x = if x.op = 1 then x.v.n else if x.op = 2 then 2147483648 else 16 by
      rw [bdM_eq]
      rcases h1 with h1 | h1 | h1 <;> simp [bdC, h1])
    unfold Ex.agg
    rw [HE.out]
    rcases h1 with h1 | h1 | h1
    all_goals
      rw [h1]
      go_enter Try.func53, Try.ntmps53
      go_wp2
      go_ret
      exact ⟨rfl, (Below.refl _ w).alloc (Nat.le_refl _) _⟩
  | neg x a hop hargs ha ih =>
    intro w h
    have hm : a ∈ x.args := by rw [hargs]; simp
    have CA := Lib.hid (fun W (hW : Below w.heap.size w W) => ih W ((h.arg a hm).keep hW))
    have hx0 : 0 < x.args.length := by rw [hargs]; exact Nat.zero_lt_one
    obtain ⟨b, off, hA, hbl, hc⟩ := h.at' hx0
    have HC := Lib.hid (fun W hW => hc W hW 0 a (by rw [hargs]; rfl))
    simp only [Nat.zero_mul, Nat.add_zero] at HC
    have HE := Lib.hid (show bdM x = bdM a by rw [bdM_eq, hargs, hop]; simp [bdC, bdL])
    rw [HE.out]
    unfold Ex.agg at *
    rw [hop, hA]
    have hbw : b < w.heap.size := hbl
    have HB := Lib.hid (show Below w.heap.size w (w.alloc (.cells #[.int .i64 3, .string x.tb, .string x.nm, .int .i64 x.ix, .int .i64 x.v.k, .int .i64 x.v.n, .string x.v.s, .slice (some ⟨b, off, none⟩) x.args.length x.c] 26)) from (Below.refl _ w).alloc (Nat.le_refl _) _)
    obtain ⟨c0, c1, c2, c3, c4, c5, c6, c7⟩ := HC.out _ HB.out
    clear hc hbl h ih hargs hm hop hA HE
    go_enter Try.func53, Try.ntmps53
    go_wp2_with fail
    refine (CA.out _ HB.out).mono ?_
    rintro e w1 ⟨rfl, hb⟩
    replace HB := Lib.hid (HB.out.trans (hb.mono HB.out.size))
    clear hb
    go_wp2
    go_ret
    exact ⟨rfl, HB.out⟩
  | two x a d hop hargs ha hd iha ihd =>
    intro w h
    obtain ⟨n1, n2, n9, n3⟩ := hop
    have hm : a ∈ x.args := by rw [hargs]; simp
    have hm2 : d ∈ x.args := by rw [hargs]; simp
    have CA := Lib.hid (fun W (hW : Below w.heap.size w W) => iha W ((h.arg a hm).keep hW))
    have CD := Lib.hid (fun W (hW : Below w.heap.size w W) => ihd W ((h.arg d hm2).keep hW))
    have hx0 : 0 < x.args.length := by rw [hargs]; exact Nat.zero_lt_succ _
    have hx1 : 1 < x.args.length := by rw [hargs]; exact Nat.lt_succ_self _
    have hx1i : (1 : Int) < (x.args.length : Int) := by omega
    obtain ⟨b, off, hA, hbl, hc⟩ := h.at' hx0
    have HC := Lib.hid (fun W hW => hc W hW 0 a (by rw [hargs]; rfl))
    have HD := Lib.hid (fun W hW => hc W hW 1 d (by rw [hargs]; rfl))
    simp only [Nat.zero_mul, Nat.add_zero, Nat.one_mul, Nat.add_assoc, Nat.reduceAdd] at HC HD
    have HE := Lib.hid (show bdM x = bd2 x.op (bdM a) (bdM d) by rw [bdM_eq, hargs]; simp [bdC, bdL, n1, n2, n9])
    obtain ⟨op, hop2⟩ : ∃ op, x.op = op := ⟨_, rfl⟩
    rw [hop2] at HE n1 n2 n3 n9
    unfold Ex.agg at *
    rw [hop2, hA]
    obtain ⟨u, hu⟩ : ∃ u, bdM a = u := ⟨_, rfl⟩
    obtain ⟨v, hv⟩ : ∃ u, bdM d = u := ⟨_, rfl⟩
    rw [hu, hv] at HE
    simp only [hu] at CA
    simp only [hv] at CD
    obtain ⟨r, hr⟩ : ∃ r, bdM x = r := ⟨_, rfl⟩
    rw [hr] at HE ⊢
    have hbw : b < w.heap.size := hbl
    clear hc hbl hu hv hr h iha ihd hargs hm hm2 hop2 hA
    obtain ⟨W0, hW0⟩ : ∃ W, W = w.alloc (.cells #[.int .i64 op, .string x.tb, .string x.nm, .int .i64 x.ix, .int .i64 x.v.k, .int .i64 x.v.n, .string x.v.s, .slice (some ⟨b, off, none⟩) x.args.length x.c] 26) := ⟨_, rfl⟩
    have HB := Lib.hid (show Below w.heap.size w W0 by rw [hW0]; exact (Below.refl _ w).alloc (Nat.le_refl _) _)
    have K2 := Lib.hid (show Blk W0 w.heap.size 26 #[.int .i64 op, .string x.tb, .string x.nm, .int .i64 x.ix, .int .i64 x.v.k, .int .i64 x.v.n, .string x.v.s, .slice (some ⟨b, off, none⟩) x.args.length x.c] by rw [hW0]; exact Blk.new _ _ _)
    obtain ⟨c0, c1, c2, c3, c4, c5, c6, c7⟩ := HC.out _ HB.out
    obtain ⟨d0, d1, d2, d3, d4, d5, d6, d7⟩ := HD.out _ HB.out
    have k0 : W0.cell? ⟨w.heap.size, 0, none⟩ = some (.int .i64 op) := K2.out.cell 0
    have k7 : W0.cell? ⟨w.heap.size, 7, none⟩ = some (.slice (some ⟨b, off, none⟩) x.args.length x.c) := K2.out.cell 7
    have e1 : (op == 1) = false := by simpa using n1
    have e2 : (op == 2) = false := by simpa using n2
    have e3 : (op == 3) = false := by simpa using n3
    have e9 : (op == 9) = false := by simpa using n9
    have HE2 := Lib.hid (show r = bd2 op u v from HE.out)
    unfold bd2 at HE
    clear n1 n2 n3 n9
    go_enter Try.func53, Try.ntmps53
    go_wp2_with fail
    rw [← hW0]
    clear hW0
    have hb : Below W0.heap.size W0 W0.drew := below_drew (Below.refl _ _)
    refine wp_region_mix 12 (fun w' => Below W0.heap.size W0 w') (by kernel_rfl) (by decide) ?_
    generalize W0.drew = y0 at hb ⊢
    refine wpM_take (i := 0) (oi := ⟨some 28, _, _, _, _, _⟩) (v := ?_) rfl (by decide +kernel) (by decide +kernel) (by decide +kernel) (fun _ _ _ h => h) (Or.inl ⟨by rfl, ?_⟩) hb ?_
    case refine_2 =>
      intro w' hSw
      have k0' := keepcell hSw k0
      have k7' := keepcell hSw k7
      have c0' := keepcell hSw c0
      have c1' := keepcell hSw c1
      have c2' := keepcell hSw c2
      have c3' := keepcell hSw c3
      have c4' := keepcell hSw c4
      have c5' := keepcell hSw c5
      have c6' := keepcell hSw c6
      have c7' := keepcell hSw c7
      have d0' := keepcell hSw d0
      have d1' := keepcell hSw d1
      have d2' := keepcell hSw d2
      have d3' := keepcell hSw d3
      have d4' := keepcell hSw d4
      have d5' := keepcell hSw d5
      have d6' := keepcell hSw d6
      have d7' := keepcell hSw d7
      go_simp
      try (with_reducible rfl)
    try simp only [Act.put, List.setIfInBounds_toArray, List.set_cons_zero, List.set_cons_succ]
    refine wpM_take (i := 1) (oi := ⟨some 29, _, _, _, _, _⟩) (v := ?_) rfl (by decide +kernel) (by decide +kernel) (by decide +kernel) (fun _ _ _ h => h) (Or.inl ⟨by rfl, ?_⟩) hb ?_
    case refine_2 =>
      intro w' hSw
      have k0' := keepcell hSw k0
      have k7' := keepcell hSw k7
      have c0' := keepcell hSw c0
      have c1' := keepcell hSw c1
      have c2' := keepcell hSw c2
      have c3' := keepcell hSw c3
      have c4' := keepcell hSw c4
      have c5' := keepcell hSw c5
      have c6' := keepcell hSw c6
      have c7' := keepcell hSw c7
      have d0' := keepcell hSw d0
      have d1' := keepcell hSw d1
      have d2' := keepcell hSw d2
      have d3' := keepcell hSw d3
      have d4' := keepcell hSw d4
      have d5' := keepcell hSw d5
      have d6' := keepcell hSw d6
      have d7' := keepcell hSw d7
      go_simp
      try (with_reducible rfl)
    try simp only [Act.put, List.setIfInBounds_toArray, List.set_cons_zero, List.set_cons_succ]
    refine wpM_take (i := 2) (oi := ⟨some 30, _, _, _, _, _⟩) (v := ?_) rfl (by decide +kernel) (by decide +kernel) (by decide +kernel) (fun _ _ _ h => h) (Or.inl ⟨by rfl, ?_⟩) hb ?_
    case refine_2 =>
      intro w' hSw
      have k0' := keepcell hSw k0
      have k7' := keepcell hSw k7
      have c0' := keepcell hSw c0
      have c1' := keepcell hSw c1
      have c2' := keepcell hSw c2
      have c3' := keepcell hSw c3
      have c4' := keepcell hSw c4
      have c5' := keepcell hSw c5
      have c6' := keepcell hSw c6
      have c7' := keepcell hSw c7
      have d0' := keepcell hSw d0
      have d1' := keepcell hSw d1
      have d2' := keepcell hSw d2
      have d3' := keepcell hSw d3
      have d4' := keepcell hSw d4
      have d5' := keepcell hSw d5
      have d6' := keepcell hSw d6
      have d7' := keepcell hSw d7
      go_simp
      try (with_reducible rfl)
    try simp only [Act.put, List.setIfInBounds_toArray, List.set_cons_zero, List.set_cons_succ]
    refine wpM_take (i := 3) (oi := ⟨some 31, _, _, _, _, _⟩) (v := ?_) rfl (by decide +kernel) (by decide +kernel) (by decide +kernel) (fun _ _ _ h => h) (Or.inl ⟨by rfl, ?_⟩) hb ?_
    case refine_2 =>
      intro w' hSw
      have k0' := keepcell hSw k0
      have k7' := keepcell hSw k7
      have c0' := keepcell hSw c0
      have c1' := keepcell hSw c1
      have c2' := keepcell hSw c2
      have c3' := keepcell hSw c3
      have c4' := keepcell hSw c4
      have c5' := keepcell hSw c5
      have c6' := keepcell hSw c6
      have c7' := keepcell hSw c7
      have d0' := keepcell hSw d0
      have d1' := keepcell hSw d1
      have d2' := keepcell hSw d2
      have d3' := keepcell hSw d3
      have d4' := keepcell hSw d4
      have d5' := keepcell hSw d5
      have d6' := keepcell hSw d6
      have d7' := keepcell hSw d7
      go_simp
      try (with_reducible rfl)
    try simp only [Act.put, List.setIfInBounds_toArray, List.set_cons_zero, List.set_cons_succ]
    refine wpM_take (i := 4) (oi := ⟨some 32, _, _, _, _, _⟩) (v := ?_) rfl (by decide +kernel) (by decide +kernel) (by decide +kernel) (fun _ _ _ h => h) (Or.inl ⟨by rfl, ?_⟩) hb ?_
    case refine_2 =>
      intro w' hSw
      have k0' := keepcell hSw k0
      have k7' := keepcell hSw k7
      have c0' := keepcell hSw c0
      have c1' := keepcell hSw c1
      have c2' := keepcell hSw c2
      have c3' := keepcell hSw c3
      have c4' := keepcell hSw c4
      have c5' := keepcell hSw c5
      have c6' := keepcell hSw c6
      have c7' := keepcell hSw c7
      have d0' := keepcell hSw d0
      have d1' := keepcell hSw d1
      have d2' := keepcell hSw d2
      have d3' := keepcell hSw d3
      have d4' := keepcell hSw d4
      have d5' := keepcell hSw d5
      have d6' := keepcell hSw d6
      have d7' := keepcell hSw d7
      go_simp
      try (with_reducible rfl)
    try simp only [Act.put, List.setIfInBounds_toArray, List.set_cons_zero, List.set_cons_succ]
    refine wpM_take (i := 6) (oi := ⟨some 34, _, _, _, _, _⟩) (v := ?_) rfl (by decide +kernel) (by decide +kernel) (by decide +kernel) (fun _ _ _ h => h) (Or.inl ⟨by rfl, ?_⟩) hb ?_
    case refine_2 =>
      intro w' hSw
      have k0' := keepcell hSw k0
      have k7' := keepcell hSw k7
      have c0' := keepcell hSw c0
      have c1' := keepcell hSw c1
      have c2' := keepcell hSw c2
      have c3' := keepcell hSw c3
      have c4' := keepcell hSw c4
      have c5' := keepcell hSw c5
      have c6' := keepcell hSw c6
      have c7' := keepcell hSw c7
      have d0' := keepcell hSw d0
      have d1' := keepcell hSw d1
      have d2' := keepcell hSw d2
      have d3' := keepcell hSw d3
      have d4' := keepcell hSw d4
      have d5' := keepcell hSw d5
      have d6' := keepcell hSw d6
      have d7' := keepcell hSw d7
      go_simp
      try (with_reducible rfl)
    try simp only [Act.put, List.setIfInBounds_toArray, List.set_cons_zero, List.set_cons_succ]
    refine wpM_take (i := 7) (oi := ⟨some 35, _, _, _, _, _⟩) (v := ?_) rfl (by decide +kernel) (by decide +kernel) (by decide +kernel) (fun _ _ _ h => h) (Or.inl ⟨by rfl, ?_⟩) hb ?_
    case refine_2 =>
      intro w' hSw
      have k0' := keepcell hSw k0
      have k7' := keepcell hSw k7
      have c0' := keepcell hSw c0
      have c1' := keepcell hSw c1
      have c2' := keepcell hSw c2
      have c3' := keepcell hSw c3
      have c4' := keepcell hSw c4
      have c5' := keepcell hSw c5
      have c6' := keepcell hSw c6
      have c7' := keepcell hSw c7
      have d0' := keepcell hSw d0
      have d1' := keepcell hSw d1
      have d2' := keepcell hSw d2
      have d3' := keepcell hSw d3
      have d4' := keepcell hSw d4
      have d5' := keepcell hSw d5
      have d6' := keepcell hSw d6
      have d7' := keepcell hSw d7
      go_simp
      try (with_reducible rfl)
    try simp only [Act.put, List.setIfInBounds_toArray, List.set_cons_zero, List.set_cons_succ]
    refine wpM_take (i := 8) (oi := ⟨some 36, _, _, _, _, _⟩) (v := ?_) rfl (by decide +kernel) (by decide +kernel) (by decide +kernel) (fun _ _ _ h => h) (Or.inl ⟨by rfl, ?_⟩) hb ?_
    case refine_2 =>
      intro w' hSw
      have k0' := keepcell hSw k0
      have k7' := keepcell hSw k7
      have c0' := keepcell hSw c0
      have c1' := keepcell hSw c1
      have c2' := keepcell hSw c2
      have c3' := keepcell hSw c3
      have c4' := keepcell hSw c4
      have c5' := keepcell hSw c5
      have c6' := keepcell hSw c6
      have c7' := keepcell hSw c7
      have d0' := keepcell hSw d0
      have d1' := keepcell hSw d1
      have d2' := keepcell hSw d2
      have d3' := keepcell hSw d3
      have d4' := keepcell hSw d4
      have d5' := keepcell hSw d5
      have d6' := keepcell hSw d6
      have d7' := keepcell hSw d7
      go_simp
      try (with_reducible rfl)
    try simp only [Act.put, List.setIfInBounds_toArray, List.set_cons_zero, List.set_cons_succ]
    refine wpM_take (i := 9) (oi := ⟨some 37, _, _, _, _, _⟩) (v := ?_) rfl (by decide +kernel) (by decide +kernel) (by decide +kernel) (fun _ _ _ h => h) (Or.inl ⟨by rfl, ?_⟩) hb ?_
    case refine_2 =>
      intro w' hSw
      have k0' := keepcell hSw k0
      have k7' := keepcell hSw k7
      have c0' := keepcell hSw c0
      have c1' := keepcell hSw c1
      have c2' := keepcell hSw c2
      have c3' := keepcell hSw c3
      have c4' := keepcell hSw c4
      have c5' := keepcell hSw c5
      have c6' := keepcell hSw c6
      have c7' := keepcell hSw c7
      have d0' := keepcell hSw d0
      have d1' := keepcell hSw d1
      have d2' := keepcell hSw d2
      have d3' := keepcell hSw d3
      have d4' := keepcell hSw d4
      have d5' := keepcell hSw d5
      have d6' := keepcell hSw d6
      have d7' := keepcell hSw d7
      go_simp
      try (with_reducible rfl)
    try simp only [Act.put, List.setIfInBounds_toArray, List.set_cons_zero, List.set_cons_succ]
    refine wpM_take (i := 10) (oi := ⟨some 38, _, _, _, _, _⟩) (v := ?_) rfl (by decide +kernel) (by decide +kernel) (by decide +kernel) (fun _ _ _ h => h) (Or.inl ⟨by rfl, ?_⟩) hb ?_
    case refine_2 =>
      intro w' hSw
      have k0' := keepcell hSw k0
      have k7' := keepcell hSw k7
      have c0' := keepcell hSw c0
      have c1' := keepcell hSw c1
      have c2' := keepcell hSw c2
      have c3' := keepcell hSw c3
      have c4' := keepcell hSw c4
      have c5' := keepcell hSw c5
      have c6' := keepcell hSw c6
      have c7' := keepcell hSw c7
      have d0' := keepcell hSw d0
      have d1' := keepcell hSw d1
      have d2' := keepcell hSw d2
      have d3' := keepcell hSw d3
      have d4' := keepcell hSw d4
      have d5' := keepcell hSw d5
      have d6' := keepcell hSw d6
      have d7' := keepcell hSw d7
      go_simp
      try (with_reducible rfl)
    try simp only [Act.put, List.setIfInBounds_toArray, List.set_cons_zero, List.set_cons_succ]
    refine wpM_step (i := 5) (o := ⟨some 33, _, _, _, _, _⟩) rfl (by decide +kernel) (by decide) (fun K hK => ?_)
    go_simp
    refine (CA.out y0 (HB.out.trans (hb.mono HB.out.size))).mono ?_
    rintro e y1 ⟨rfl, h1⟩
    have b1 : Below W0.heap.size W0 y1 := hb.trans (h1.mono hb.size)
    clear h1
    refine hK.out _ _ b1 ?_
    clear hK K
    try simp only [Act.put, List.setIfInBounds_toArray, List.set_cons_zero, List.set_cons_succ]
    refine wpM_step (i := 11) (o := ⟨some 39, _, _, _, _, _⟩) rfl (by decide +kernel) (by decide) (fun K hK => ?_)
    go_simp
    refine (CD.out y1 (HB.out.trans (b1.mono HB.out.size))).mono ?_
    rintro e y2 ⟨rfl, h2⟩
    have b2 : Below W0.heap.size W0 y2 := b1.trans (h2.mono b1.size)
    clear h2
    refine hK.out _ _ b2 ?_
    clear hK K
    try simp only [Act.put, List.setIfInBounds_toArray, List.set_cons_zero, List.set_cons_succ]
    refine wpM_done (by decide +kernel) ?_
    simp only [List.drop_succ_cons, List.drop_zero]
    have HB2 := Lib.hid (HB.out.trans (b2.mono HB.out.size))
    have q0 : y2.cell? ⟨w.heap.size, 0, none⟩ = some (.int .i64 op) := keepcell b2 k0
    clear k0 k7 c0 c1 c2 c3 c4 c5 c6 c7 d0 d1 d2 d3 d4 d5 d6 d7
    by_cases ha : u > 1152921504606846976
    · have HF := Lib.hid (show (1152921504606846976 + 1 : Int) = r by rw [HE.out, if_pos ha])
      clear HE
      go_wp2
      go_ret
      exact ⟨ret_int HF.out, HB2.out⟩
    by_cases hd : v > 1152921504606846976
    · have HF := Lib.hid (show (1152921504606846976 + 1 : Int) = r by rw [HE.out, if_neg ha, if_pos hd])
      clear HE
      go_wp2
      go_ret
      exact ⟨ret_int HF.out, HB2.out⟩
    by_cases h4 : op = 4
    · subst h4
      have HF := Lib.hid (show mx3 (wrap64 (u + v)) u v = r by rw [HE.out, if_neg ha, if_neg hd, if_pos (.inl rfl)])
      clear HE
      unfold mx3 at HF
      go_wp2
      all_goals
        go_ret
        refine ⟨ret_int ?_, HB2.out⟩
        rw [← HF.out]
        first | rfl | (simp_all; done) | (split <;> simp_all <;> omega) | (split <;> split <;> omega) | omega
    have e4 : (op == 4) = false := by simpa using h4
    by_cases h5 : op = 5
    · subst h5
      have HF := Lib.hid (show mx3 (wrap64 (u + v)) u v = r by rw [HE.out, if_neg ha, if_neg hd, if_pos (.inr rfl)])
      clear HE
      unfold mx3 at HF
      go_wp2
      all_goals
        go_ret
        refine ⟨ret_int ?_, HB2.out⟩
        rw [← HF.out]
        first | rfl | (simp_all; done) | (split <;> simp_all <;> omega) | (split <;> split <;> omega) | omega
    have e5 : (op == 5) = false := by simpa using h5
    by_cases h6 : op = 6
    · subst h6
      by_cases hz : v = 0
      · subst hz
        have HF := Lib.hid (show mx3 (wrap64 (u * 0)) u 0 = r by rw [HE.out, if_neg ha, if_neg hd, if_neg (by decide), if_pos rfl, if_neg (by simp)])
        simp only [Int.mul_zero, show wrap64 0 = 0 from IntWalk.wrap64_in 0 (by decide)] at HF
        clear HE
        unfold mx3 at HF
        go_wp2
        all_goals
          go_ret
          refine ⟨ret_int ?_, HB2.out⟩
          rw [← HF.out]
          first | rfl | (simp_all; done) | (split <;> simp_all <;> omega) | (split <;> split <;> omega) | omega
      · have ez : (v != 0) = true := by simpa using hz
        have ez2 : (v == 0) = false := by simpa using hz
        have hdq : Int.tdiv 1152921504606846976 v = wrap64 (Int.tdiv 1152921504606846976 v) := by
          refine (IntWalk.wrap64_in _ ?_).symm
          rcases Int.lt_trichotomy v 0 with g | g | g
          · have h1 := tdiv_bd 1152921504606846976 (-v) (by omega) (by decide)
            have h2 := Int.tdiv_nonneg (by decide : (0 : Int) ≤ 1152921504606846976) (by omega : 0 ≤ -v)
            rw [Int.tdiv_neg] at h1 h2
            omega
          · exact absurd g hz
          · exact tdiv_bd 1152921504606846976 v (by omega) (by decide)
        rw [hdq] at HE
        clear hdq
        by_cases hq : u > wrap64 (Int.tdiv 1152921504606846976 v)
        · have HF := Lib.hid (show (1152921504606846976 + 1 : Int) = r by rw [HE.out, if_neg ha, if_neg hd, if_neg (by decide), if_pos rfl, if_pos ⟨hz, hq⟩])
          clear HE
          go_wp2
          go_ret
          exact ⟨ret_int HF.out, HB2.out⟩
        · have HF := Lib.hid (show mx3 (wrap64 (u * v)) u v = r by rw [HE.out, if_neg ha, if_neg hd, if_neg (by decide), if_pos rfl, if_neg (fun h => hq h.2)])
          clear HE
          unfold mx3 at HF
          go_wp2
          all_goals
            go_ret
            refine ⟨ret_int ?_, HB2.out⟩
            rw [← HF.out]
            first | rfl | (simp_all; done) | (split <;> simp_all <;> omega) | (split <;> split <;> omega) | omega
    have e6 : (op == 6) = false := by simpa using h6
    have HF := Lib.hid (show mx3 (wrap64 (u + 1000)) u v = r by rw [HE.out, if_neg ha, if_neg hd, if_neg (by simp [h4, h5]), if_neg h6])
    clear HE
    unfold mx3 at HF
    go_wp2
    all_goals
      go_ret
      refine ⟨ret_int ?_, HB2.out⟩
      rw [← HF.out]
      first | rfl | (simp_all; done) | (split <;> simp_all <;> omega) | (split <;> split <;> omega) | omega
end Go.Proofs.Ytfhbffgnpedaeaa
