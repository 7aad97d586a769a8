/- Law BoxContains: for every input the call returns true, and its arguments read afterwards as before. -/
import Derived.Test.YtcocdhndhlegiaaAwk
import Derived.Test.YtcocdhndhlegiaaOpn
import Derived.Test.YtcocdhndhlegiaaChn
import Derived.Test.YtcocdhndhlegiaaApf
import Derived.Test.YtcocdhndhlegiaaSrg
import Derived.Test.YtcocdhndhlegiaaSpv
namespace Go.Proofs.Ytcocdhndhlegiaa
open Go.ChangeShapes Go.WideShapes Go.ChangeAt Go.RowKit Go.ChangeMaps

set_option maxRecDepth 100000 in
set_option maxHeartbeats 4000000 in
theorem boxContains_walk (t0 : Int) (A0 : Option Addr) (n0 c0 : Nat) (R0 : List Sd) (A1 : Option Addr) (n1 c1 : Nat) (R1 : List V3) (w : World) (h0 : Sds w A0 n0 R0 ∧ n0 ≤ c0 ∧ c0 ≤ 9223372036854775807 ∧ ∀ x ∈ R0, x.in) (k1 : Vls w A1 n1 R1) (l1 : n1 ≤ 9223372036854775807) (g1 : ∀ x ∈ R1, x.in) : Calls Try.prog 3 #[.agg #[.int .i64 t0, .slice A0 n0 c0], .slice A1 n1 c1] w fun e w' => e = .returned (.bool true) ∧ Below w.heap.size w w' := by
  obtain ⟨cb, hcb⟩ : ∃ x, contB R0 R1 = x := ⟨_, rfl⟩
  have HM := Lib.hid (fun W X Y x y (hX : Sds W X n0 R0) (hY : Vls W Y n1 R1) (h0 : n0 ≤ 1000) => Contains_any t0 X n0 x R0 Y n1 y R1 W hX hY h0 l1)
  have HR := Lib.hid (fun W X Y x y (hX : Sds W X n0 R0) (hY : Vls W Y n1 R1) (h0 : n0 ≤ 1000) => RContains_any t0 X n0 x R0 Y n1 y R1 W hX hY h0 l1)
  simp only [hcb] at HM HR
  clear hcb
  have L0 := Lib.hid h0.1.len
  have L1 := Lib.hid k1.len
  obtain ⟨h0, p0, q0, r0⟩ := h0
  obtain ⟨o0, ho0⟩ : ∃ x, boxOk R0 = x := ⟨_, rfl⟩
  have HO0 := Lib.hid ho0
  have C0 := Lib.hid (fun W (hW : Below w.heap.size w W) => Right_any t0 A0 n0 c0 R0 W (h0.below hW) (by omega) (fun x hx => by have := r0 x hx; unfold Sd.in at this; omega))
  simp only [ho0] at C0
  have H0 := Lib.hid (fun W (hW : Below w.heap.size w W) => h0.below hW)
  clear h0 p0 q0 r0 ho0
  obtain ⟨o1, ho1⟩ : ∃ x, rowOk R1 = x := ⟨_, rfl⟩
  have HO1 := Lib.hid ho1
  have C1 := Lib.hid (fun W (hW : Below w.heap.size w W) => valid_any A1 n1 c1 R1 W (k1.below hW) (fun x hx => by have := g1 x hx; unfold V3.in at this; unfold V3.ok; omega) l1)
  simp only [ho1] at C1
  have H1 := Lib.hid (fun W (hW : Below w.heap.size w W) => k1.below hW)
  clear k1 l1 g1 ho1
  obtain ⟨w0, hw0⟩ : ∃ W, W = (w.alloc (.cells #[.int .i64 t0, .slice A0 n0 c0] 24)) := ⟨_, rfl⟩
  have HB := Lib.hid (show Below w.heap.size w w0 by rw [hw0]; exact ((Below.refl _ w).alloc (Nat.le_refl _) _))
  have K0 := Lib.hid (show Blk w0 (w.heap.size + 0) 24 #[.int .i64 t0, .slice A0 n0 c0] by rw [hw0]; exact Blk.new _ _ _)
  go_enter Try.func3, Try.ntmps3
  go_wp2_with fail
  rw [← hw0]
  clear hw0
  refine (awake_any _).mono ?_
  rintro e x1 ⟨rfl, hb⟩
  replace HB := Lib.hid (HB.out.trans (hb.mono HB.out.size))
  replace K0 := Lib.hid (K0.out.below hb)
  clear hb
  have c0_0 : x1.cell? ⟨w.heap.size, 0, none⟩ = some (.int .i64 t0) := K0.out.cell 0
  have c0_1 : x1.cell? ⟨w.heap.size, 1, none⟩ = some (.slice A0 n0 c0) := K0.out.cell 1
  go_wp2_with fail
  clear c0_0 c0_1
  refine (C0.out _ HB.out).mono ?_
  rintro e x2 ⟨rfl, hb⟩
  replace HB := Lib.hid (HB.out.trans (hb.mono HB.out.size))
  replace K0 := Lib.hid (K0.out.below hb)
  clear hb
  cases o0
  · go_wp2_with fail
    refine (awake_any _).mono ?_
    rintro e y1 ⟨rfl, hb⟩
    replace HB := Lib.hid (HB.out.trans (hb.mono HB.out.size))
    clear hb
    go_wp2
    go_ret
    exact ⟨rfl, HB.out⟩
  have c0_0 : x2.cell? ⟨w.heap.size, 0, none⟩ = some (.int .i64 t0) := K0.out.cell 0
  have c0_1 : x2.cell? ⟨w.heap.size, 1, none⟩ = some (.slice A0 n0 c0) := K0.out.cell 1
  go_wp2_with fail
  clear c0_0 c0_1
  refine (C1.out _ HB.out).mono ?_
  rintro e x3 ⟨rfl, hb⟩
  replace HB := Lib.hid (HB.out.trans (hb.mono HB.out.size))
  replace K0 := Lib.hid (K0.out.below hb)
  clear hb
  cases o1
  · go_wp2_with fail
    refine (awake_any _).mono ?_
    rintro e y1 ⟨rfl, hb⟩
    replace HB := Lib.hid (HB.out.trans (hb.mono HB.out.size))
    clear hb
    go_wp2
    go_ret
    exact ⟨rfl, HB.out⟩
  have c0_0 : x3.cell? ⟨w.heap.size, 0, none⟩ = some (.int .i64 t0) := K0.out.cell 0
  have c0_1 : x3.cell? ⟨w.heap.size, 1, none⟩ = some (.slice A0 n0 c0) := K0.out.cell 1
  go_wp2_with fail
  have hn0 : n0 ≤ 1000 := by have := boxOk_len HO0.out; have := L0.out; omega
  have hn1 : n1 ≤ 1000 := by have := rowOk_len HO1.out; have := L1.out; omega
  have hb : Below x3.heap.size x3 x3.drew := below_drew (Below.refl _ _)
  refine wp_region_mix 10 (fun w' => Below x3.heap.size x3 w') (by kernel_rfl) (by decide) ?_
  generalize x3.drew = y0 at hb ⊢
  refine wpM_take (i := 0) (oi := ⟨some 18, _, _, _, _, _⟩) (v := ?_) rfl (by decide +kernel) (by decide +kernel) (by decide +kernel) (fun _ _ _ h => h) (Or.inl ⟨by rfl, ?_⟩) hb ?_
  case refine_2 =>
    intro w' hSw
    have c0_0' := keepcell hSw c0_0
    have c0_1' := keepcell hSw c0_1
    go_simp
    try (with_reducible rfl)
  try simp only [Act.put, List.setIfInBounds_toArray, List.set_cons_zero, List.set_cons_succ]
  refine wpM_take (i := 3) (oi := ⟨some 21, _, _, _, _, _⟩) (v := ?_) rfl (by decide +kernel) (by decide +kernel) (by decide +kernel) (fun _ _ _ h => h) (Or.inl ⟨by rfl, ?_⟩) hb ?_
  case refine_2 =>
    intro w' hSw
    have c0_0' := keepcell hSw c0_0
    have c0_1' := keepcell hSw c0_1
    go_simp
    try (with_reducible rfl)
  try simp only [Act.put, List.setIfInBounds_toArray, List.set_cons_zero, List.set_cons_succ]
  refine wpM_take (i := 6) (oi := ⟨some 24, _, _, _, _, _⟩) (v := ?_) rfl (by decide +kernel) (by decide +kernel) (by decide +kernel) (fun _ _ _ h => h) (Or.inl ⟨by rfl, ?_⟩) hb ?_
  case refine_2 =>
    intro w' hSw
    have c0_0' := keepcell hSw c0_0
    have c0_1' := keepcell hSw c0_1
    go_simp
    try (with_reducible rfl)
  try simp only [Act.put, List.setIfInBounds_toArray, List.set_cons_zero, List.set_cons_succ]
  refine wpM_take (i := 7) (oi := ⟨some 25, _, _, _, _, _⟩) (v := ?_) rfl (by decide +kernel) (by decide +kernel) (by decide +kernel) (fun _ _ _ h => h) (Or.inl ⟨by rfl, ?_⟩) hb ?_
  case refine_2 =>
    intro w' hSw
    have c0_0' := keepcell hSw c0_0
    have c0_1' := keepcell hSw c0_1
    go_simp
    try (with_reducible rfl)
  try simp only [Act.put, List.setIfInBounds_toArray, List.set_cons_zero, List.set_cons_succ]
  have HO1x := Lib.hid (v3_one R1)
  obtain ⟨i0, hi, hz0, hz1, hz2⟩ := info_parts (show (Try.prog.info? 47).map (fun i => (i.zero, i.size, i.bytes)) = some (some (.agg #[.int .i64 0, .int .i64 0, .string ⟨#[]⟩]), 3, 32) by kernel_rfl)
  refine wpM_chains (fun i => 18 + i) [1, 2, 4, 5, 8, 9] (fun i v W => (i = 1 → ∃ D d, v = Value.agg #[.int .i64 t0, .slice D n0 d] ∧ Sds W D n0 R0) ∧ (i = 2 → ∃ g, v = Value.slice (some ⟨g, 0, none⟩) 0 0 ∧ Blk W g 47 #[]) ∧ (i = 4 → ∃ D d, v = Value.slice D n1 d ∧ Vls W D n1 R1) ∧ (i = 5 → v = Value.bool cb) ∧ (i = 8 → v = Value.bool cb) ∧ (i = 9 → v = Value.bool true) ∧ True) (by decide +kernel) (fun i v W W' h0 hb => ⟨fun e => (fun h => let ⟨D, d, e, s⟩ := h; ⟨D, d, e, s.below hb⟩) (h0.1 e), fun e => (fun h => let ⟨g, e, s⟩ := h; ⟨g, e, s.below hb⟩) (h0.2.1 e), fun e => (fun h => let ⟨D, d, e, s⟩ := h; ⟨D, d, e, s.below hb⟩) (h0.2.2.1 e), fun e => (fun h => h) (h0.2.2.2.1 e), fun e => (fun h => h) (h0.2.2.2.2.1 e), fun e => (fun h => h) (h0.2.2.2.2.2.1 e), trivial⟩) hb ?_ ?_
  · refine List.forall_mem_cons.2 ⟨?_, List.forall_mem_cons.2 ⟨?_, List.forall_mem_cons.2 ⟨?_, List.forall_mem_cons.2 ⟨?_, List.forall_mem_cons.2 ⟨?_, List.forall_mem_cons.2 ⟨?_, List.forall_mem_nil _⟩⟩⟩⟩⟩⟩
    · refine ⟨⟨some 19, _, _, _, _, _⟩, rfl, rfl, fun vs W K hS hd hK => ?_⟩
      simp only [puts, List.foldl_cons, List.foldl_nil, Act.put, List.setIfInBounds_toArray, List.set_cons_zero, List.set_cons_succ, Nat.reduceAdd, Nat.reduceSub] at hK ⊢
      go_simp
      refine (own_any t0 A0 n0 c0 R0 W (H0.out _ (HB.out.trans (hS.mono HB.out.size))) hn0).mono ?_
      rintro e W' ⟨D, d, rfl, s, hb⟩
      exact hK _ _ (hS.trans (hb.mono hS.size)) hb ⟨fun _ => ⟨D, d, rfl, s⟩, fun e => absurd e (by decide), fun e => absurd e (by decide), fun e => absurd e (by decide), fun e => absurd e (by decide), fun e => absurd e (by decide), trivial⟩
    · refine ⟨⟨some 20, _, _, _, _, _⟩, rfl, rfl, fun vs W K hS hd hK => ?_⟩
      simp only [puts, List.foldl_cons, List.foldl_nil, Act.put, List.setIfInBounds_toArray, List.set_cons_zero, List.set_cons_succ, Nat.reduceAdd, Nat.reduceSub] at hK ⊢
      go_simp
      exact hK _ _ (hS.alloc hS.size _) ((Below.refl _ _).alloc (Nat.le_refl _) _) ⟨fun e => absurd e (by decide), fun _ => ⟨_, rfl, Blk.new _ _ _⟩, fun e => absurd e (by decide), fun e => absurd e (by decide), fun e => absurd e (by decide), fun e => absurd e (by decide), trivial⟩
    · refine ⟨⟨some 22, _, _, _, _, _⟩, rfl, rfl, fun vs W K hS hd hK => ?_⟩
      obtain ⟨g, e2, s2⟩ := (hd 2 (by decide) (by decide +kernel)).2.1 rfl
      simp only [puts, List.foldl_cons, List.foldl_nil, Act.put, List.setIfInBounds_toArray, List.set_cons_zero, List.set_cons_succ, Nat.reduceAdd, Nat.reduceSub] at hK ⊢
      simp only [e2] at hK ⊢
      refine ite_pos (by rfl) ?_
      refine wp_append_fresh W _ _ 26 26 rfl 47 i0 _ 3 32 Try.underlying26 hi hz0 hz1 hz2 rfl g rfl s2 _ n1 _ rfl (At.src Try.underlying26 (H1.out _ (HB.out.trans (hS.mono HB.out.size))) HO1x.out (by decide)) (by unfold maxLen; omega) (by omega) (fun A c W' hA _ _ hb => ?_)
      exact hK _ _ (hS.trans (hb.mono hS.size)) hb ⟨fun e => absurd e (by decide), fun e => absurd e (by decide), fun _ => ⟨A, c, rfl, hA⟩, fun e => absurd e (by decide), fun e => absurd e (by decide), fun e => absurd e (by decide), trivial⟩
    · refine ⟨⟨some 23, _, _, _, _, _⟩, rfl, rfl, fun vs W K hS hd hK => ?_⟩
      obtain ⟨D1, d1, e1, s1⟩ := (hd 1 (by decide) (by decide +kernel)).1 rfl
      obtain ⟨D2, d2, e2, s2⟩ := (hd 4 (by decide) (by decide +kernel)).2.2.1 rfl
      simp only [puts, List.foldl_cons, List.foldl_nil, Act.put, List.setIfInBounds_toArray, List.set_cons_zero, List.set_cons_succ, Nat.reduceAdd, Nat.reduceSub] at hK ⊢
      simp only [e1, e2] at hK ⊢
      go_simp
      refine (HM.out W _ _ _ _ s1 s2 hn0).mono ?_
      rintro e W' ⟨rfl, hb⟩
      exact hK _ _ (hS.trans (hb.mono hS.size)) hb ⟨fun e => absurd e (by decide), fun e => absurd e (by decide), fun e => absurd e (by decide), fun _ => rfl, fun e => absurd e (by decide), fun e => absurd e (by decide), trivial⟩
    · refine ⟨⟨some 26, _, _, _, _, _⟩, rfl, rfl, fun vs W K hS hd hK => ?_⟩
      simp only [puts, List.foldl_cons, List.foldl_nil, Act.put, List.setIfInBounds_toArray, List.set_cons_zero, List.set_cons_succ, Nat.reduceAdd, Nat.reduceSub] at hK ⊢
      go_simp
      refine (HR.out W _ _ _ _ (H0.out _ (HB.out.trans (hS.mono HB.out.size))) (H1.out _ (HB.out.trans (hS.mono HB.out.size))) hn0).mono ?_
      rintro e W' ⟨rfl, hb⟩
      exact hK _ _ (hS.trans (hb.mono hS.size)) hb ⟨fun e => absurd e (by decide), fun e => absurd e (by decide), fun e => absurd e (by decide), fun e => absurd e (by decide), fun _ => rfl, fun e => absurd e (by decide), trivial⟩
    · refine ⟨⟨some 27, _, _, _, _, _⟩, rfl, rfl, fun vs W K hS hd hK => ?_⟩
      obtain e1 := (hd 5 (by decide) (by decide +kernel)).2.2.2.1 rfl
      obtain e2 := (hd 8 (by decide) (by decide +kernel)).2.2.2.2.1 rfl
      simp only [puts, List.foldl_cons, List.foldl_nil, Act.put, List.setIfInBounds_toArray, List.set_cons_zero, List.set_cons_succ, Nat.reduceAdd, Nat.reduceSub] at hK ⊢
      simp only [e1, e2] at hK ⊢
      go_simp
      exact hK _ _ hS (Below.refl _ _) ⟨fun e => absurd e (by decide), fun e => absurd e (by decide), fun e => absurd e (by decide), fun e => absurd e (by decide), fun e => absurd e (by decide), fun _ => (by simp), trivial⟩
  · intro vs W hS hd
    obtain e1 := (hd 9 (by decide)).2.2.2.2.2.1 rfl
    simp only [puts, List.foldl_cons, List.foldl_nil, Act.put, List.setIfInBounds_toArray, List.set_cons_zero, List.set_cons_succ, Nat.reduceAdd, Nat.reduceSub]
    simp only [e1]
    simp only [List.drop_succ_cons, List.drop_zero]
    go_wp2
    go_ret
    exact ⟨rfl, HB.out.trans (hS.mono HB.out.size)⟩

set_option maxRecDepth 100000 in
theorem boxContains_lifted (os : Os) (started : os.Started) (H : Type) (enc : TypeId × Value → H) :
    ReturnsInHanded {} Try.checked os 3 .any (Rows.boxContainsSpec.pre6 enc Try.prog Try.f3 Rows.boxContainsRow.domain false) (Rows.boxContainsSpec.post enc Try.prog Try.f3 false true false false) := by
  refine law_lifted (C := Try.checked) (B := 4) Try.own started (by kernel_rfl) Try.func3
    (ChangeSpec.witness6 (enc := enc) (C := Try.checked) false ⟨#[], #[.agg #[.int .i64 0, .slice none 0 0], .slice none 0 0], []⟩ 8 (by kernel_rfl) (by kernel_rfl) (by kernel_rfl) (by kernel_rfl))
    Try.laidOut (by kernel_rfl) rfl rfl rfl Try.underlying4 (fun ds h => match ds, h with | [_, _], _ => rfl) ?_
  intro W base args ds ps hval hA hlt hsz
  rw [Try.params3] at hA hval hsz
  obtain ⟨v0, vs0, d0, ds0, p0, q0, hargs, rfl, rfl, h0, r0⟩ := trodAll_cons hA
  obtain ⟨v1, vs1, d1, ds1, p1, q1, rfl, rfl, rfl, h1, r1⟩ := trodAll_cons r0
  obtain ⟨rfl, rfl, rfl⟩ := trodAll_nil r1
  obtain rfl : args = #[v0, v1] := by cases args; simp_all
  obtain ⟨x0, A0, n0, c0, R0, rfl, -, l0⟩ := open_Box (hval 0 24 v0 rfl rfl) h0 (fun x hx => hlt x (by simp [hx])) hsz (j := 0) rfl rfl
  obtain ⟨A1, n1, c1, R1, rfl, k1, l1, g1⟩ := open_row (hval 1 26 v1 rfl rfl) h1 (fun x hx => hlt x (by simp [hx])) hsz (j := 1) rfl rfl
  exact boxContains_walk x0 A0 n0 c0 R0 A1 n1 c1 R1 W l0 k1 l1 g1

theorem boxContains_over : Rows.boxContainsRow.holds Try.pinned (OpenSpec.ofChange Rows.boxContainsSpec) :=
  OpenClaim.holds_of_wide 3 Try.f3 rfl rfl rfl rfl rfl rfl rfl ⟨rfl, rfl, rfl, rfl, rfl⟩ rfl rfl rfl rfl rfl (by kernel_rfl) Try.func3 (by kernel_rfl)
    (of_decide_eq_true (by kernel_rfl)) (by unfold Func.isWrapper; first | (rw [if_pos (by decide +kernel)]; kernel_rfl) | (rw [if_neg (by decide +kernel)]; exact ⟨rfl, rfl⟩))
    (fun os started H enc _ => boxContains_lifted os started H enc)

theorem boxContains_proved : Rows.BoxContainsSaid := boxContains_over
end Go.Proofs.Ytcocdhndhlegiaa
