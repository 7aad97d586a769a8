/- The quotient rounded down; a domain narrowed by one coefficient. -/
import Derived.Test.YtnoddkbpdfimmaaIvr
import Derived.Test.YtnoddkbpdfimmaaMix
namespace Go.Proofs.Ytnoddkbpdfimmaa
open Go.ChangeShapes Go.WideShapes Go.ChangeAt Go.RowKit Go.ChangeMaps

set_option maxRecDepth 100000 in
set_option maxHeartbeats 1000000 in
theorem floor_any (a b : Int) (w : World) (hb : 0 < b) (hb2 : b ≤ 4611686018427387904) (ha : -4611686018427387904 ≤ a ∧ a ≤ 4611686018427387904) : Calls Try.prog 67 #[.int .i64 a, .int .i64 b] w fun e w' => e = .returned (.int .i64 (a / b)) ∧ w' = w := by
  obtain ⟨q, hq⟩ : ∃ q, a.tdiv b = q := ⟨_, rfl⟩
  obtain ⟨r, hr⟩ : ∃ r, a.tmod b = r := ⟨_, rfl⟩
  obtain ⟨z, hz⟩ : ∃ z, a / b = z := ⟨_, rfl⟩
  have hqb : -4611686018427387904 ≤ q ∧ q ≤ 4611686018427387904 := by
    rw [← hq]
    have h1 := Int.natAbs_tdiv_le_natAbs a b
    omega
  have hrb : -4611686018427387904 ≤ r ∧ r ≤ 4611686018427387904 := by
    have h1 := Int.tmod_lt_of_pos a hb
    have h2 := Int.lt_tmod_of_pos a hb
    omega
  have HZ := Lib.hid (show z = if r < 0 then q - 1 else q by
    rw [← hz, ← hr, ← hq, Int.tdiv_eq_ediv, Int.tmod_eq_emod]
    have h1 := Int.emod_nonneg a (show b ≠ 0 by omega)
    have h2 := Int.emod_lt_of_pos a hb
    have hs : b.sign = 1 := Int.sign_eq_one_of_pos hb
    by_cases h0 : 0 ≤ a ∨ b ∣ a
    · rw [if_pos h0, if_pos h0, if_neg (by simpa using h1)]; simp
    · rw [if_neg h0, if_neg h0, if_pos (by have : (b.natAbs : Int) = b := by omega
                                           omega), hs]; omega)
  rw [hz]
  have hbz : b ≠ 0 := by omega
  have hbm : b ≠ -1 := by omega
  clear hz hb ha hb2
  go_enter Try.func67, Try.ntmps67
  by_cases h0 : r < 0
  · have HF := Lib.hid (HZ.out.trans (if_pos h0))
    go_wp2
    go_ret
    exact ⟨ret_int HF.out.symm, rfl⟩
  · have HF := Lib.hid (HZ.out.trans (if_neg h0))
    go_wp2
    go_ret
    exact ⟨ret_int HF.out.symm, rfl⟩
def nrwP (d : Iv) (a : Int) (r : Iv) (eq : Bool) : Iv := ⟨if eq then max d.lo (-(r.hi / a)) else d.lo, min d.hi ((-r.lo) / a)⟩
def nrw (d : Iv) (a : Int) (r : Iv) (eq : Bool) : Iv := if a < 0 then ⟨-(nrwP ⟨-d.hi, -d.lo⟩ (-a) r eq).hi, -(nrwP ⟨-d.hi, -d.lo⟩ (-a) r eq).lo⟩ else nrwP d a r eq
def Iv.bd (x : Iv) (B : Int) : Prop := (-B ≤ x.lo ∧ x.lo ≤ B) ∧ (-B ≤ x.hi ∧ x.hi ≤ B)
theorem ediv_bd {x a B : Int} (h : -B ≤ x ∧ x ≤ B) (ha : 0 < a) : -B ≤ x / a ∧ x / a ≤ B := by
  constructor
  · rw [Int.le_ediv_iff_mul_le ha]
    have h2 : 0 ≤ B := by omega
    have := Int.mul_le_mul_of_nonneg_left (show (1 : Int) ≤ a by omega) h2
    rw [Int.neg_mul]
    omega
  · rcases Int.lt_or_le x 0 with h3 | h3
    · have := Int.ediv_neg_of_neg_of_pos h3 ha
      omega
    · exact Int.le_trans (Int.ediv_le_self a h3) h.2
theorem grown_set (w : World) (g i : Nat) (u : Value) : w.grownBy (w.setCell ⟨g, i, none⟩ u) (some g) := ⟨rfl, rfl, rfl, by simp [World.setCell], fun k _ hk => Below.heap_setCell w _ u k (fun e => hk (by rw [e]))⟩
theorem grown_row (w : World) (g : Nat) (cs : Array Value) : w.grownBy (w.setRow g cs) (some g) := ⟨rfl, rfl, rfl, by simp, fun k _ hk => setRow_other w g k _ (fun e => hk (by rw [e]))⟩
theorem Blk.setRow {w : World} {g : Nat} {t : TypeId} {cs ds : Array Value} (h : Blk w g t cs) : Blk (w.setRow g ds) g t ds := setRow_heap w g cs ds t _ h
theorem results_c1 {fn : Func} {p : Tmp} {ty : TypeId} (h : fn.results = #[.cell p ty]) (tmps : Array Value) (P : Program) (w : World) (g : Nat) (X : Value)
    (hp : tmps.getD p undef = .pointer (some ⟨g, 0, none⟩)) (h1 : (loadVar ty ⟨g, 0, none⟩).run P w = .ok X w) : (results fn tmps).run P w = .ok X w := by
  have hp' : tmps[p]?.getD undef = .pointer (some ⟨g, 0, none⟩) := by simpa using hp
  simp [results, h, hp', asAddr, h1]
theorem load39 {w : World} {g : Nat} {cs : Array Value} (h : Blk w g 39 cs) (hs : cs.size = 2) : (loadVar 39 ⟨g, 0, none⟩).run Try.prog w = .ok (.agg cs) w :=
  run_loadVar_row w g 39 39 cs (0, 0) _ h Try.underlying39 rfl (by rw [hs]; kernel_rfl)
theorem store_step {W : World} {g : Nat} {T : TypeId} {cs : Array Value} (h : Blk W g T cs) (j : Nat) (v : Value) : Blk (W.setCell ⟨g, j, none⟩ v) g T (cs.setIfInBounds j v) ∧ (∀ g' T' cs', g' ≠ g → Blk W g' T' cs' → Blk (W.setCell ⟨g, j, none⟩ v) g' T' cs') ∧ (∀ B w0, Below B w0 W → B ≤ g → Below B w0 (W.setCell ⟨g, j, none⟩ v)) := by
  have gs := grown_set W g j v
  exact ⟨Joins.block_setCell h _, fun g' T' cs' hne hb => (gs.block _ hb.lt (by simp; omega)).trans hb, fun B w0 hb hg => hb.grown gs (Nat.le_trans hg (Nat.le_of_lt h.lt)) (fun j hj => by injection hj with hj; omega)⟩
set_option maxRecDepth 100000 in
set_option maxHeartbeats 1000000 in
theorem nrwP_any (d : Iv) (a : Int) (r : Iv) (eq : Bool) (w : World) (ha : 0 < a) (ha2 : a ≤ 1048576) (hd : d.bd 4294967296) (hr : r.bd 1152921504606846976) : Calls Try.prog 55 #[d.agg, .int .i64 a, r.agg, .bool eq] w fun e w' => e = .returned (nrwP d a r eq).agg ∧ Below w.heap.size w w' := by
  obtain ⟨d0, d1⟩ := d
  obtain ⟨r0, r1⟩ := r
  obtain ⟨⟨hd1, hd2⟩, hd3, hd4⟩ := hd
  obtain ⟨⟨hr1, hr2⟩, hr3, hr4⟩ := hr
  simp only at hd1 hd2 hd3 hd4 hr1 hr2 hr3 hr4
  have hq0 := ediv_bd (x := -r0) (B := 1152921504606846976) (a := a) ⟨by omega, by omega⟩ ha
  have hq1 := ediv_bd (x := r1) (B := 1152921504606846976) (a := a) ⟨by omega, by omega⟩ ha
  have CF0 := Lib.hid (fun W => floor_any (-r0) a W ha (by omega) ⟨by omega, by omega⟩)
  have CF1 := Lib.hid (fun W => floor_any r1 a W ha (by omega) ⟨by omega, by omega⟩)
  have HRES : Hid (nrwP ⟨d0, d1⟩ a ⟨r0, r1⟩ eq = ⟨if eq then max d0 (-(r1 / a)) else d0, min d1 ((-r0) / a)⟩) := Lib.hid rfl
  generalize nrwP ⟨d0, d1⟩ a ⟨r0, r1⟩ eq = res at *
  generalize (-r0) / a = q0 at *
  generalize r1 / a = q1 at *
  unfold Iv.agg
  obtain ⟨W0, hW0⟩ : ∃ W, W = ((w.alloc (.cells #[.int .i64 d0, .int .i64 d1] 39)).alloc (.cells #[.int .i64 r0, .int .i64 r1] 39)).alloc (.cells #[.int .i64 0, .int .i64 0] 39) := ⟨_, rfl⟩
  have HB := Lib.hid (show Below w.heap.size w W0 by rw [hW0]; exact (((Below.refl _ w).alloc (Nat.le_refl _) _).alloc (by simp) _).alloc (by simp; omega) _)
  have K4 := Lib.hid (show Blk W0 w.heap.size 39 #[.int .i64 d0, .int .i64 d1] by rw [hW0]; exact ((Blk.new _ _ _).alloc _).alloc _)
  have K6 := Lib.hid (show Blk W0 (w.heap.size + 1) 39 #[.int .i64 r0, .int .i64 r1] by rw [hW0]; exact (Blk.new_ (by simp) rfl : Blk ((w.alloc _).alloc _) _ _ _).alloc _)
  have K8 := Lib.hid (show Blk W0 (w.heap.size + 1 + 1) 39 #[.int .i64 0, .int .i64 0] by rw [hW0]; exact Blk.new_ (by simp) rfl)
  obtain ⟨mn, hmn⟩ : ∃ z, (if q0 < d1 then q0 else d1) = z := ⟨_, rfl⟩
  obtain ⟨mx, hmx⟩ : ∃ z, (if d0 < -q1 then -q1 else d0) = z := ⟨_, rfl⟩
  have hmx2 : max d0 (-q1) = mx := by rw [← hmx, Int.max_def]; split <;> split <;> omega
  have hmn2 : min d1 q0 = mn := by rw [← hmn, Int.min_def]; split <;> split <;> omega
  have HRS := Lib.hid (show res = ⟨if eq = true then mx else d0, mn⟩ by rw [HRES.out, hmx2, hmn2])
  clear hmx2 hmn2 HRES
  have hneg : ¬ a < 0 := by omega
  have hw0 : IntKind.i64.wrap (-r0) = -r0 := by rw [IntKind.wrap_i64]; omega
  have hw1 : IntKind.i64.wrap (-q1) = -q1 := by rw [IntKind.wrap_i64]; omega
  go_enter Try.func55, Try.ntmps55
  go_upto_region 4 with fail
  rw [← hW0]
  clear hW0
  have e0 : W0.cell? ⟨w.heap.size, 0, none⟩ = some (.int .i64 d0) := K4.out.cell 0
  have e1 : W0.cell? ⟨w.heap.size, 1, none⟩ = some (.int .i64 d1) := K4.out.cell 1
  have e2 : W0.cell? ⟨w.heap.size + 1, 0, none⟩ = some (.int .i64 r0) := K6.out.cell 0
  have e3 : W0.cell? ⟨w.heap.size + 1, 1, none⟩ = some (.int .i64 r1) := K6.out.cell 1
  have hy0 : Below W0.heap.size W0 W0.drew := below_drew (Below.refl _ _)
  refine wp_region_mix 9 (fun w' => Below W0.heap.size W0 w') (by kernel_rfl) (by decide) ?_
  generalize W0.drew = y0 at hy0 ⊢
  refine wpM_take (i := 0) (oi := ⟨some 31, _, _, _, _, _⟩) (v := ?_) rfl (by decide +kernel) (by decide +kernel) (by decide +kernel) (fun _ _ _ h => h) (Or.inl ⟨by rfl, ?_⟩) hy0 ?_
  case refine_2 =>
    intro w' hSw
    have e0' := keepcell hSw e0
    have e1' := keepcell hSw e1
    have e2' := keepcell hSw e2
    have e3' := keepcell hSw e3
    go_simp
    try (with_reducible rfl)
  try simp only [Act.put, List.setIfInBounds_toArray, List.set_cons_zero, List.set_cons_succ]
  refine wpM_take (i := 1) (oi := ⟨some 32, _, _, _, _, _⟩) (v := ?_) rfl (by decide +kernel) (by decide +kernel) (by decide +kernel) (fun _ _ _ h => h) (Or.inl ⟨by rfl, ?_⟩) hy0 ?_
  case refine_2 =>
    intro w' hSw
    have e0' := keepcell hSw e0
    have e1' := keepcell hSw e1
    have e2' := keepcell hSw e2
    have e3' := keepcell hSw e3
    go_simp
    try (with_reducible rfl)
  try simp only [Act.put, List.setIfInBounds_toArray, List.set_cons_zero, List.set_cons_succ]
  refine wpM_take (i := 2) (oi := ⟨some 33, _, _, _, _, _⟩) (v := ?_) rfl (by decide +kernel) (by decide +kernel) (by decide +kernel) (fun _ _ _ h => h) (Or.inl ⟨by rfl, ?_⟩) hy0 ?_
  case refine_2 =>
    intro w' hSw
    have e0' := keepcell hSw e0
    have e1' := keepcell hSw e1
    have e2' := keepcell hSw e2
    have e3' := keepcell hSw e3
    go_simp
    try (with_reducible rfl)
  try simp only [Act.put, List.setIfInBounds_toArray, List.set_cons_zero, List.set_cons_succ]
  refine wpM_take (i := 3) (oi := ⟨some 34, _, _, _, _, _⟩) (v := ?_) rfl (by decide +kernel) (by decide +kernel) (by decide +kernel) (fun _ _ _ h => h) (Or.inl ⟨by rfl, ?_⟩) hy0 ?_
  case refine_2 =>
    intro w' hSw
    have e0' := keepcell hSw e0
    have e1' := keepcell hSw e1
    have e2' := keepcell hSw e2
    have e3' := keepcell hSw e3
    go_simp
    try (with_reducible rfl)
  try simp only [Act.put, List.setIfInBounds_toArray, List.set_cons_zero, List.set_cons_succ]
  refine wpM_take (i := 4) (oi := ⟨some 35, _, _, _, _, _⟩) (v := ?_) rfl (by decide +kernel) (by decide +kernel) (by decide +kernel) (fun _ _ _ h => h) (Or.inl ⟨by rfl, ?_⟩) hy0 ?_
  case refine_2 =>
    intro w' hSw
    have e0' := keepcell hSw e0
    have e1' := keepcell hSw e1
    have e2' := keepcell hSw e2
    have e3' := keepcell hSw e3
    go_simp
    try (with_reducible rfl)
  try simp only [Act.put, List.setIfInBounds_toArray, List.set_cons_zero, List.set_cons_succ]
  refine wpM_take (i := 5) (oi := ⟨some 36, _, _, _, _, _⟩) (v := ?_) rfl (by decide +kernel) (by decide +kernel) (by decide +kernel) (fun _ _ _ h => h) (Or.inl ⟨by rfl, ?_⟩) hy0 ?_
  case refine_2 =>
    intro w' hSw
    have e0' := keepcell hSw e0
    have e1' := keepcell hSw e1
    have e2' := keepcell hSw e2
    have e3' := keepcell hSw e3
    go_simp
    try (with_reducible rfl)
  try simp only [Act.put, List.setIfInBounds_toArray, List.set_cons_zero, List.set_cons_succ]
  refine wpM_step (i := 6) (o := ⟨some 37, _, _, _, _, _⟩) rfl (by decide +kernel) (by decide) (fun K hK => ?_)
  go_simp
  refine (CF0.out y0).mono ?_
  rintro e y_ ⟨rfl, hy⟩
  replace hy := hy.symm
  subst hy
  refine hK.out _ _ hy0 ?_
  clear hK K
  try simp only [Act.put, List.setIfInBounds_toArray, List.set_cons_zero, List.set_cons_succ]
  refine wpM_step (i := 7) (o := ⟨some 38, _, _, _, _, _⟩) rfl (by decide +kernel) (by decide) (fun K hK => ?_)
  go_simp
  try rw [hmn]
  refine hK.out _ _ hy0 ?_
  clear hK K
  try simp only [Act.put, List.setIfInBounds_toArray, List.set_cons_zero, List.set_cons_succ]
  refine wpM_take (i := 8) (oi := ⟨some 39, _, _, _, _, _⟩) (v := ?_) rfl (by decide +kernel) (by decide +kernel) (by decide +kernel) (fun _ _ _ h => h) (Or.inl ⟨by rfl, ?_⟩) hy0 ?_
  case refine_2 =>
    intro w' hSw
    have e0' := keepcell hSw e0
    have e1' := keepcell hSw e1
    have e2' := keepcell hSw e2
    have e3' := keepcell hSw e3
    go_simp
    try (with_reducible rfl)
  try simp only [Act.put, List.setIfInBounds_toArray, List.set_cons_zero, List.set_cons_succ]
  refine wpM_done (by decide +kernel) ?_
  simp only [List.drop_succ_cons, List.drop_zero]
  have F0 := Lib.hid (K4.out.below hy0)
  have F6 := Lib.hid (K6.out.below hy0)
  have F8 := Lib.hid (K8.out.below hy0)
  have FB := Lib.hid (HB.out.trans (hy0.mono HB.out.size))
  clear e0 e1 e2 e3 hy0
  have z0 : ∀ j, y0.frozen? ⟨w.heap.size, j, none⟩ = false := fun j => Joins.unfrozen_of_block F0.out _
  have c1 : y0.cell? ⟨w.heap.size, 1, none⟩ = some (.int .i64 d1) := F0.out.cell 1
  obtain ⟨W1, hW1⟩ : ∃ W, W = y0.setCell ⟨w.heap.size, 1, none⟩ (.int .i64 mn) := ⟨_, rfl⟩
  have G4 : Hid (Blk W1 w.heap.size 39 #[.int .i64 d0, .int .i64 mn]) := Lib.hid (by rw [hW1]; exact (store_step F0.out 1 (.int .i64 mn)).1)
  have G6 : Hid (Blk W1 (w.heap.size + 1) 39 #[.int .i64 r0, .int .i64 r1]) := Lib.hid (by rw [hW1]; exact (store_step F0.out 1 (.int .i64 mn)).2.1 _ _ _ (by omega) F6.out)
  have G8 : Hid (Blk W1 (w.heap.size + 1 + 1) 39 #[.int .i64 0, .int .i64 0]) := Lib.hid (by rw [hW1]; exact (store_step F0.out 1 (.int .i64 mn)).2.1 _ _ _ (by omega) F8.out)
  have GB : Hid (Below w.heap.size w W1) := Lib.hid (by rw [hW1]; exact (store_step F0.out 1 (.int .i64 mn)).2.2 _ _ FB.out (Nat.le_refl _))
  cases eq
  · go_upto_region 7 with fail
    rw [← hW1]
    clear hW1 z0 c1
    have e0 : W1.cell? ⟨w.heap.size, 0, none⟩ = some (.int .i64 d0) := G4.out.cell 0
    have e1 : W1.cell? ⟨w.heap.size, 1, none⟩ = some (.int .i64 mn) := G4.out.cell 1
    have e2 : W1.cell? ⟨w.heap.size + 1 + 1, 0, none⟩ = some (.int .i64 0) := G8.out.cell 0
    have e3 : W1.cell? ⟨w.heap.size + 1 + 1, 1, none⟩ = some (.int .i64 0) := G8.out.cell 1
    have z8 : ∀ j, W1.frozen? ⟨w.heap.size + 1 + 1, j, none⟩ = false := fun j => Joins.unfrozen_of_block G8.out _
    go_wp2
    have s1 := store_step G8.out 0 (.int .i64 d0)
    have s2 := store_step s1.1 1 (.int .i64 mn)
    have HX := s2.2.2 _ _ (s1.2.2 _ _ GB.out (by omega)) (show w.heap.size ≤ w.heap.size + 1 + 1 by omega)
    refine bodyPost_ret (results_c1 rfl _ _ _ (w.heap.size + 1 + 1) _ rfl (load39 s2.1 rfl)) rfl ?_
    rw [HRS.out]
    exact ⟨rfl, HX⟩
  · have z4 : ∀ j, W1.frozen? ⟨w.heap.size, j, none⟩ = false := fun j => Joins.unfrozen_of_block G4.out _
    go_upto_region 6 with fail
    rw [← hW1]
    clear hW1 z0 c1
    have e0 : W1.cell? ⟨w.heap.size, 0, none⟩ = some (.int .i64 d0) := G4.out.cell 0
    have e3 : W1.cell? ⟨w.heap.size + 1, 1, none⟩ = some (.int .i64 r1) := G6.out.cell 1
    have hx0 : Below W1.heap.size W1 W1.drew := below_drew (Below.refl _ _)
    refine wp_region_mix 9 (fun w' => Below W1.heap.size W1 w') (by kernel_rfl) (by decide) ?_
    generalize W1.drew = x0 at hx0 ⊢
    refine wpM_take (i := 0) (oi := ⟨some 41, _, _, _, _, _⟩) (v := ?_) rfl (by decide +kernel) (by decide +kernel) (by decide +kernel) (fun _ _ _ h => h) (Or.inl ⟨by rfl, ?_⟩) hx0 ?_
    case refine_2 =>
      intro w' hSw
      have e0' := keepcell hSw e0
      have e3' := keepcell hSw e3
      go_simp
      try (with_reducible rfl)
    try simp only [Act.put, List.setIfInBounds_toArray, List.set_cons_zero, List.set_cons_succ]
    refine wpM_take (i := 1) (oi := ⟨some 42, _, _, _, _, _⟩) (v := ?_) rfl (by decide +kernel) (by decide +kernel) (by decide +kernel) (fun _ _ _ h => h) (Or.inl ⟨by rfl, ?_⟩) hx0 ?_
    case refine_2 =>
      intro w' hSw
      have e0' := keepcell hSw e0
      have e3' := keepcell hSw e3
      go_simp
      try (with_reducible rfl)
    try simp only [Act.put, List.setIfInBounds_toArray, List.set_cons_zero, List.set_cons_succ]
    refine wpM_take (i := 2) (oi := ⟨some 43, _, _, _, _, _⟩) (v := ?_) rfl (by decide +kernel) (by decide +kernel) (by decide +kernel) (fun _ _ _ h => h) (Or.inl ⟨by rfl, ?_⟩) hx0 ?_
    case refine_2 =>
      intro w' hSw
      have e0' := keepcell hSw e0
      have e3' := keepcell hSw e3
      go_simp
      try (with_reducible rfl)
    try simp only [Act.put, List.setIfInBounds_toArray, List.set_cons_zero, List.set_cons_succ]
    refine wpM_take (i := 3) (oi := ⟨some 44, _, _, _, _, _⟩) (v := ?_) rfl (by decide +kernel) (by decide +kernel) (by decide +kernel) (fun _ _ _ h => h) (Or.inl ⟨by rfl, ?_⟩) hx0 ?_
    case refine_2 =>
      intro w' hSw
      have e0' := keepcell hSw e0
      have e3' := keepcell hSw e3
      go_simp
      try (with_reducible rfl)
    try simp only [Act.put, List.setIfInBounds_toArray, List.set_cons_zero, List.set_cons_succ]
    refine wpM_take (i := 4) (oi := ⟨some 45, _, _, _, _, _⟩) (v := ?_) rfl (by decide +kernel) (by decide +kernel) (by decide +kernel) (fun _ _ _ h => h) (Or.inl ⟨by rfl, ?_⟩) hx0 ?_
    case refine_2 =>
      intro w' hSw
      have e0' := keepcell hSw e0
      have e3' := keepcell hSw e3
      go_simp
      try (with_reducible rfl)
    try simp only [Act.put, List.setIfInBounds_toArray, List.set_cons_zero, List.set_cons_succ]
    refine wpM_step (i := 5) (o := ⟨some 46, _, _, _, _, _⟩) rfl (by decide +kernel) (by decide) (fun K hK => ?_)
    go_simp
    refine (CF1.out x0).mono ?_
    rintro e y_ ⟨rfl, hy⟩
    replace hy := hy.symm
    subst hy
    refine hK.out _ _ hx0 ?_
    clear hK K
    try simp only [Act.put, List.setIfInBounds_toArray, List.set_cons_zero, List.set_cons_succ]
    refine wpM_take (i := 6) (oi := ⟨some 47, _, _, _, _, _⟩) (v := ?_) rfl (by decide +kernel) (by decide +kernel) (by decide +kernel) (fun _ _ _ h => h) (Or.inl ⟨by rfl, ?_⟩) hx0 ?_
    case refine_2 =>
      intro w' hSw
      have e0' := keepcell hSw e0
      have e3' := keepcell hSw e3
      go_simp
      try (with_reducible rfl)
    try simp only [Act.put, List.setIfInBounds_toArray, List.set_cons_zero, List.set_cons_succ]
    refine wpM_step (i := 7) (o := ⟨some 48, _, _, _, _, _⟩) rfl (by decide +kernel) (by decide) (fun K hK => ?_)
    go_simp
    try rw [hmx]
    refine hK.out _ _ hx0 ?_
    clear hK K
    try simp only [Act.put, List.setIfInBounds_toArray, List.set_cons_zero, List.set_cons_succ]
    refine wpM_take (i := 8) (oi := ⟨some 49, _, _, _, _, _⟩) (v := ?_) rfl (by decide +kernel) (by decide +kernel) (by decide +kernel) (fun _ _ _ h => h) (Or.inl ⟨by rfl, ?_⟩) hx0 ?_
    case refine_2 =>
      intro w' hSw
      have e0' := keepcell hSw e0
      have e3' := keepcell hSw e3
      go_simp
      try (with_reducible rfl)
    try simp only [Act.put, List.setIfInBounds_toArray, List.set_cons_zero, List.set_cons_succ]
    refine wpM_done (by decide +kernel) ?_
    simp only [List.drop_succ_cons, List.drop_zero]
    have H4 := Lib.hid (G4.out.below hx0)
    have H8 := Lib.hid (G8.out.below hx0)
    have HB2 := Lib.hid (GB.out.trans (hx0.mono GB.out.size))
    clear e0 e3 hx0 z4
    have z5 : ∀ j, x0.frozen? ⟨w.heap.size, j, none⟩ = false := fun j => Joins.unfrozen_of_block H4.out _
    have c1 : x0.cell? ⟨w.heap.size, 0, none⟩ = some (.int .i64 d0) := H4.out.cell 0
    obtain ⟨W2, hW2⟩ : ∃ W, W = x0.setCell ⟨w.heap.size, 0, none⟩ (.int .i64 mx) := ⟨_, rfl⟩
    have I4 : Hid (Blk W2 w.heap.size 39 #[.int .i64 mx, .int .i64 mn]) := Lib.hid (by rw [hW2]; exact (store_step H4.out 0 (.int .i64 mx)).1)
    have I8 : Hid (Blk W2 (w.heap.size + 1 + 1) 39 #[.int .i64 0, .int .i64 0]) := Lib.hid (by rw [hW2]; exact (store_step H4.out 0 (.int .i64 mx)).2.1 _ _ _ (by omega) H8.out)
    have IB : Hid (Below w.heap.size w W2) := Lib.hid (by rw [hW2]; exact (store_step H4.out 0 (.int .i64 mx)).2.2 _ _ HB2.out (Nat.le_refl _))
    go_upto_region 7 with fail
    rw [← hW2]
    clear hW2 z5 c1
    have e0 : W2.cell? ⟨w.heap.size, 0, none⟩ = some (.int .i64 mx) := I4.out.cell 0
    have e1 : W2.cell? ⟨w.heap.size, 1, none⟩ = some (.int .i64 mn) := I4.out.cell 1
    have e2 : W2.cell? ⟨w.heap.size + 1 + 1, 0, none⟩ = some (.int .i64 0) := I8.out.cell 0
    have e3 : W2.cell? ⟨w.heap.size + 1 + 1, 1, none⟩ = some (.int .i64 0) := I8.out.cell 1
    have z8 : ∀ j, W2.frozen? ⟨w.heap.size + 1 + 1, j, none⟩ = false := fun j => Joins.unfrozen_of_block I8.out _
    go_wp2
    have s1 := store_step I8.out 0 (.int .i64 mx)
    have s2 := store_step s1.1 1 (.int .i64 mn)
    have HX := s2.2.2 _ _ (s1.2.2 _ _ IB.out (by omega)) (show w.heap.size ≤ w.heap.size + 1 + 1 by omega)
    refine bodyPost_ret (results_c1 rfl _ _ _ (w.heap.size + 1 + 1) _ rfl (load39 s2.1 rfl)) rfl ?_
    rw [HRS.out]
    exact ⟨rfl, HX⟩
theorem nrwP_bd {d r : Iv} {a : Int} {eq : Bool} (ha : 0 < a) (hd : d.bd 4294967296) (hr : r.bd 1152921504606846976) : (nrwP d a r eq).bd 1152921504606846976 := by
  obtain ⟨d0, d1⟩ := d
  obtain ⟨r0, r1⟩ := r
  obtain ⟨⟨hd1, hd2⟩, hd3, hd4⟩ := hd
  obtain ⟨⟨hr1, hr2⟩, hr3, hr4⟩ := hr
  simp only at hd1 hd2 hd3 hd4 hr1 hr2 hr3 hr4
  have hq0 := ediv_bd (x := -r0) (B := 1152921504606846976) (a := a) ⟨by omega, by omega⟩ ha
  have hq1 := ediv_bd (x := r1) (B := 1152921504606846976) (a := a) ⟨by omega, by omega⟩ ha
  unfold nrwP
  simp only
  generalize (-r0) / a = q0 at *
  generalize r1 / a = q1 at *
  refine ⟨?_, ?_⟩
  · cases eq
    · simp only [Bool.false_eq_true, if_false]
      omega
    · simp only [if_true]
      omega
  · simp only
    omega
set_option maxRecDepth 100000 in
set_option maxHeartbeats 1000000 in
theorem nrw_any (d : Iv) (a : Int) (r : Iv) (eq : Bool) (w : World) (ha : a ≠ 0) (ha2 : -1048576 ≤ a ∧ a ≤ 1048576) (hd : d.bd 4294967296) (hr : r.bd 1152921504606846976) : Calls Try.prog 55 #[d.agg, .int .i64 a, r.agg, .bool eq] w fun e w' => e = .returned (nrw d a r eq).agg ∧ Below w.heap.size w w' := by
  rcases Int.lt_or_le 0 a with hp | hp
  · unfold nrw
    rw [if_neg (by omega)]
    exact nrwP_any d a r eq w hp ha2.2 hd hr
  · have hneg : a < 0 := by omega
    obtain ⟨d0, d1⟩ := d
    obtain ⟨r0, r1⟩ := r
    have hdn : (Iv.mk (-d1) (-d0)).bd 4294967296 := by
      obtain ⟨⟨hd1, hd2⟩, hd3, hd4⟩ := hd
      simp only at hd1 hd2 hd3 hd4
      exact ⟨⟨by simp only; omega, by simp only; omega⟩, by simp only; omega, by simp only; omega⟩
    have CP := Lib.hid (fun W => nrwP_any ⟨-d1, -d0⟩ (-a) ⟨r0, r1⟩ eq W (by omega) (by omega) hdn hr)
    have HM := Lib.hid (nrwP_bd (eq := eq) (show 0 < -a by omega) hdn hr)
    have HR := Lib.hid (show nrw ⟨d0, d1⟩ a ⟨r0, r1⟩ eq = ⟨-(nrwP ⟨-d1, -d0⟩ (-a) ⟨r0, r1⟩ eq).hi, -(nrwP ⟨-d1, -d0⟩ (-a) ⟨r0, r1⟩ eq).lo⟩ by unfold nrw; rw [if_pos hneg])
    have hwa : IntKind.i64.wrap (-a) = -a := by rw [IntKind.wrap_i64]; omega
    have hw0 : IntKind.i64.wrap (-d0) = -d0 := by have := hd.1.1; have := hd.1.2; simp only at *; rw [IntKind.wrap_i64]; omega
    have hw1 : IntKind.i64.wrap (-d1) = -d1 := by have := hd.2.1; have := hd.2.2; simp only at *; rw [IntKind.wrap_i64]; omega
    generalize nrw ⟨d0, d1⟩ a ⟨r0, r1⟩ eq = res at *
    generalize nrwP ⟨-d1, -d0⟩ (-a) ⟨r0, r1⟩ eq = m at *
    obtain ⟨m0, m1⟩ := m
    have hm0 : IntKind.i64.wrap (-m0) = -m0 := by have := HM.out.1.1; have := HM.out.1.2; simp only at *; rw [IntKind.wrap_i64]; omega
    have hm1 : IntKind.i64.wrap (-m1) = -m1 := by have := HM.out.2.1; have := HM.out.2.2; simp only at *; rw [IntKind.wrap_i64]; omega
    clear hd hr hdn ha2 hp
    unfold Iv.agg
    obtain ⟨W0, hW0⟩ : ∃ W, W = ((w.alloc (.cells #[.int .i64 d0, .int .i64 d1] 39)).alloc (.cells #[.int .i64 r0, .int .i64 r1] 39)).alloc (.cells #[.int .i64 0, .int .i64 0] 39) := ⟨_, rfl⟩
    have HB := Lib.hid (show Below w.heap.size w W0 by rw [hW0]; exact (((Below.refl _ w).alloc (Nat.le_refl _) _).alloc (by simp) _).alloc (by simp; omega) _)
    have K4 := Lib.hid (show Blk W0 w.heap.size 39 #[.int .i64 d0, .int .i64 d1] by rw [hW0]; exact ((Blk.new _ _ _).alloc _).alloc _)
    have K6 := Lib.hid (show Blk W0 (w.heap.size + 1) 39 #[.int .i64 r0, .int .i64 r1] by rw [hW0]; exact (Blk.new_ (by simp) rfl : Blk ((w.alloc _).alloc _) _ _ _).alloc _)
    have K8 := Lib.hid (show Blk W0 (w.heap.size + 1 + 1) 39 #[.int .i64 0, .int .i64 0] by rw [hW0]; exact Blk.new_ (by simp) rfl)
    have e0 : W0.cell? ⟨w.heap.size, 0, none⟩ = some (.int .i64 d0) := K4.out.cell 0
    have e1 : W0.cell? ⟨w.heap.size, 1, none⟩ = some (.int .i64 d1) := K4.out.cell 1
    have e2 : W0.cell? ⟨w.heap.size + 1, 0, none⟩ = some (.int .i64 r0) := K6.out.cell 0
    have e3 : W0.cell? ⟨w.heap.size + 1, 1, none⟩ = some (.int .i64 r1) := K6.out.cell 1
    go_enter Try.func55, Try.ntmps55
    go_upto_region 1 with fail
    rw [← hW0]
    clear hW0
    go_upto_region 2 with fail
    go_wp2_with fail
    refine (CP.out _).mono ?_
    rintro e y0 ⟨rfl, hy0⟩
    have F8 := Lib.hid (K8.out.below hy0)
    have FB := Lib.hid (HB.out.trans (hy0.mono HB.out.size))
    have HS := Lib.hid (show w.heap.size + 1 + 1 < y0.heap.size from F8.out.lt)
    clear e0 e1 e2 e3 hy0 hw0 hw1 hwa CP
    unfold Iv.agg
    obtain ⟨W1, hW1⟩ : ∃ W, W = y0.alloc (.cells #[.int .i64 m0, .int .i64 m1] 39) := ⟨_, rfl⟩
    have G8 := Lib.hid (show Blk W1 (w.heap.size + 1 + 1) 39 #[.int .i64 0, .int .i64 0] by rw [hW1]; exact F8.out.alloc _)
    have G9 := Lib.hid (show Blk W1 y0.heap.size 39 #[.int .i64 m0, .int .i64 m1] by rw [hW1]; exact Blk.new _ _ _)
    have GB := Lib.hid (show Below w.heap.size w W1 by rw [hW1]; exact FB.out.alloc FB.out.size _)
    have e0 : W1.cell? ⟨y0.heap.size, 0, none⟩ = some (.int .i64 m0) := G9.out.cell 0
    have e1 : W1.cell? ⟨y0.heap.size, 1, none⟩ = some (.int .i64 m1) := G9.out.cell 1
    have e2 : W1.cell? ⟨w.heap.size + 1 + 1, 0, none⟩ = some (.int .i64 0) := G8.out.cell 0
    have e3 : W1.cell? ⟨w.heap.size + 1 + 1, 1, none⟩ = some (.int .i64 0) := G8.out.cell 1
    have z8 : ∀ j, W1.frozen? ⟨w.heap.size + 1 + 1, j, none⟩ = false := fun j => Joins.unfrozen_of_block G8.out _
    go_upto_region 3 with fail
    rw [← hW1]
    clear hW1
    go_wp2
    have s1 := store_step G8.out 0 (.int .i64 (-m1))
    have s2 := store_step s1.1 1 (.int .i64 (-m0))
    have HX := s2.2.2 _ _ (s1.2.2 _ _ GB.out (by omega)) (show w.heap.size ≤ w.heap.size + 1 + 1 by omega)
    refine bodyPost_ret (results_c1 rfl _ _ _ (w.heap.size + 1 + 1) _ rfl (load39 s2.1 rfl)) rfl ?_
    rw [HR.out]
    exact ⟨rfl, HX⟩
end Go.Proofs.Ytnoddkbpdfimmaa
