/- Law EvaluateDivision: for every input the call returns true, and its arguments read afterwards as before. -/
import Derived.Test.YtfhbffgnpedaeaaEaw
import Derived.Test.YtfhbffgnpedaeaaEdv
namespace Go.Proofs.Ytfhbffgnpedaeaa
open Go.ChangeShapes Go.WideShapes Go.ChangeAt Go.RowKit Go.ChangeMaps

theorem i32_bd {n : Int} (h : (Lit.int .i32 n).wf = true) : -2147483648 ≤ n ∧ n ≤ 2147483647 := by
  have h1 : IntKind.i32.min = -2147483648 := rfl
  have h2 : IntKind.i32.max = 2147483647 := rfl
  simp only [Lit.wf, Bool.and_eq_true, decide_eq_true_eq, h1, h2] at h
  exact h
theorem u16_bd {n : Int} (h : (Lit.int .u16 n).wf = true) : 0 ≤ n ∧ n ≤ 65535 := by
  have h1 : IntKind.u16.min = 0 := rfl
  have h2 : IntKind.u16.max = 65535 := rfl
  simp only [Lit.wf, Bool.and_eq_true, decide_eq_true_eq, h1, h2] at h
  exact h
set_option maxRecDepth 100000 in
set_option maxHeartbeats 4000000 in
theorem evaluateDivision_walk (a0 a1 : Int) (w : World) (l0 : -2147483648 ≤ a0) (g0 : a0 ≤ 2147483647) (l1 : 0 ≤ a1) (g1 : a1 ≤ 65535) : Calls Try.prog 10 #[.int .i32 a0, .int .u16 a1] w fun e w' => e = .returned (.bool true) ∧ Below w.heap.size w w' := by
  by_cases h1 : a1 < 1
  · go_enter Try.func10, Try.ntmps10
    go_wp2_with fail
    refine (awake_any _).mono ?_
    rintro e w1 ⟨rfl, hb⟩
    have HB := Lib.hid hb
    clear hb
    go_wp2_with fail
    refine (awake_any _).mono ?_
    rintro e w2 ⟨rfl, hb⟩
    replace HB := Lib.hid (HB.out.trans (hb.mono HB.out.size))
    clear hb
    go_wp2
    go_ret
    exact ⟨rfl, HB.out⟩
  by_cases h2 : a1 > 1000
  · have h1' : 1 ≤ a1 := by omega
    go_enter Try.func10, Try.ntmps10
    go_wp2_with fail
    refine (awake_any _).mono ?_
    rintro e w1 ⟨rfl, hb⟩
    have HB := Lib.hid hb
    clear hb
    go_wp2_with fail
    refine (awake_any _).mono ?_
    rintro e w2 ⟨rfl, hb⟩
    replace HB := Lib.hid (HB.out.trans (hb.mono HB.out.size))
    clear hb
    go_wp2
    go_ret
    exact ⟨rfl, HB.out⟩
  have h1' : 1 ≤ a1 := by omega
  have h2' : a1 ≤ 1000 := by omega
  obtain ⟨q, m, hq, hm, hqm, hm0, hm1, hp0, hp1⟩ := divlaw a0 a1 ⟨l0, g0⟩ ⟨by omega, by omega⟩
  have e5 : (q * a1 + m == a0) = true := by simp; omega
  have HB := Lib.hid (Below.refl w.heap.size w)
  have HQ := Lib.hid hq
  have HM := Lib.hid hm
  clear hq hm hqm
  go_enter Try.func10, Try.ntmps10
  go_wp2_with fail
  refine (awake_any _).mono ?_
  rintro e w1 ⟨rfl, hb⟩
  replace HB := Lib.hid (HB.out.trans (hb.mono HB.out.size))
  clear hb
  go_wp2_with fail
  refine (integer_any a0 _).mono ?_
  rintro e w2 ⟨rfl, hb⟩
  replace HB := Lib.hid (HB.out.trans (hb.mono HB.out.size))
  clear hb
  go_wp2_with fail
  obtain ⟨w3, hw3⟩ : ∃ W, W = w2.alloc (.cells #[.int .i64 1, .int .i64 a0, .string ⟨#[]⟩] 23) := ⟨_, rfl⟩
  rw [← hw3]
  have hb : Below w2.heap.size w2 w3 := by rw [hw3]; exact (Below.refl _ _).alloc (Nat.le_refl _) _
  have N3 := Lib.hid (show Blk w3 w2.heap.size 23 #[.int .i64 1, .int .i64 a0, .string ⟨#[]⟩] by rw [hw3]; exact Blk.new _ _ _)
  have Z3 := Lib.hid (show w3.heap.size = w2.heap.size + 1 by rw [hw3]; simp)
  clear hw3
  replace HB := Lib.hid (HB.out.trans (hb.mono HB.out.size))
  generalize w2.heap.size = g3 at *
  clear hb
  have HV : Hid (Vls w3 (some ⟨g3, 0, none⟩) 1 [iV a0]) := Lib.hid (Vls.blk (t := 23) rfl N3.out)
  clear N3
  refine (column_any 0 _).mono ?_
  rintro e w4 ⟨rfl, hb⟩
  replace HV := Lib.hid (HV.out.below hb)
  replace HB := Lib.hid (HB.out.trans (hb.mono HB.out.size))
  clear hb
  go_wp2_with fail
  refine (number_any a1 _).mono ?_
  rintro e w5 ⟨rfl, hb⟩
  replace HV := Lib.hid (HV.out.below hb)
  replace HB := Lib.hid (HB.out.trans (hb.mono HB.out.size))
  clear hb
  go_wp2_with fail
  obtain ⟨w6, hw6⟩ : ∃ W, W = w5.alloc (.cells #[.int .i64 2, .string ⟨#[]⟩, .string ⟨#[]⟩, .int .i64 0, .int .i64 0, .int .i64 0, .string ⟨#[]⟩, .slice none 0 0, .int .i64 1, .string ⟨#[]⟩, .string ⟨#[]⟩, .int .i64 0, .int .i64 1, .int .i64 a1, .string ⟨#[]⟩, .slice none 0 0] 26) := ⟨_, rfl⟩
  rw [← hw6]
  have hb : Below w5.heap.size w5 w6 := by rw [hw6]; exact (Below.refl _ _).alloc (Nat.le_refl _) _
  have N6 := Lib.hid (show Blk w6 w5.heap.size 26 #[.int .i64 2, .string ⟨#[]⟩, .string ⟨#[]⟩, .int .i64 0, .int .i64 0, .int .i64 0, .string ⟨#[]⟩, .slice none 0 0, .int .i64 1, .string ⟨#[]⟩, .string ⟨#[]⟩, .int .i64 0, .int .i64 1, .int .i64 a1, .string ⟨#[]⟩, .slice none 0 0] by rw [hw6]; exact Blk.new _ _ _)
  have Z6 := Lib.hid (show w6.heap.size = w5.heap.size + 1 by rw [hw6]; simp)
  clear hw6
  replace HV := Lib.hid (HV.out.below hb)
  replace HB := Lib.hid (HB.out.trans (hb.mono HB.out.size))
  generalize w5.heap.size = g6 at *
  clear hb
  have X6 : Hid (ExAt w6 (Ex.mk 7 ⟨#[]⟩ ⟨#[]⟩ 0 nul (some ⟨g6, 0, none⟩) 2 [(Ex.mk 2 ⟨#[]⟩ ⟨#[]⟩ 0 nul none 0 []), (Ex.mk 1 ⟨#[]⟩ ⟨#[]⟩ 0 ⟨1, a1, ⟨#[]⟩⟩ none 0 [])])) := Lib.hid (ExAt.built 7 (args := [(Ex.mk 2 ⟨#[]⟩ ⟨#[]⟩ 0 nul none 0 []), (Ex.mk 1 ⟨#[]⟩ ⟨#[]⟩ 0 ⟨1, a1, ⟨#[]⟩⟩ none 0 [])]) N6.out (show 2 ≤ 1000 by decide) (fun z hz => by simp at hz; rcases hz with rfl | rfl; exact ExAt.leaf 2 0 nul_ok; exact ExAt.leaf 1 0 (iV_ok (n := a1) (by omega))))
  clear N6
  refine (node_any 7 _ _ _ _).mono ?_
  rintro e w7 ⟨rfl, hb⟩
  replace X6 := Lib.hid (X6.out.keep hb)
  replace HV := Lib.hid (HV.out.below hb)
  replace HB := Lib.hid (HB.out.trans (hb.mono HB.out.size))
  clear hb
  go_wp2_with fail
  have cc := Value_any [iV a0] (Ex.mk 7 ⟨#[]⟩ ⟨#[]⟩ 0 nul (some ⟨g6, 0, none⟩) 2 [(Ex.mk 2 ⟨#[]⟩ ⟨#[]⟩ 0 nul none 0 []), (Ex.mk 1 ⟨#[]⟩ ⟨#[]⟩ 0 ⟨1, a1, ⟨#[]⟩⟩ none 0 [])]) w7 (some ⟨g3, 0, none⟩) 1 1 X6.out (ExSm.two ExSm.leaf ExSm.leaf) HV.out (by decide) (fun v hv => by simp at hv; subst hv; exact iV_ok (by omega))
  rw [show evM [iV a0] (Ex.mk 7 ⟨#[]⟩ ⟨#[]⟩ 0 nul (some ⟨g6, 0, none⟩) 2 [(Ex.mk 2 ⟨#[]⟩ ⟨#[]⟩ 0 nul none 0 []), (Ex.mk 1 ⟨#[]⟩ ⟨#[]⟩ 0 ⟨1, a1, ⟨#[]⟩⟩ none 0 [])]) = binM 7 a0 a1 by kernel_rfl, HQ.out] at cc
  dsimp only [V3.agg, iV, nul] at cc
  refine (cc).mono ?_
  rintro e w8 ⟨rfl, hb⟩
  replace X6 := Lib.hid (X6.out.keep hb)
  replace HV := Lib.hid (HV.out.below hb)
  replace HB := Lib.hid (HB.out.trans (hb.mono HB.out.size))
  clear hb
  clear X6
  go_wp2_with fail
  obtain ⟨w9, hw9⟩ : ∃ W, W = w8.alloc (.cells #[.int .i64 1, .int .i64 q, .string ⟨#[]⟩] 23) := ⟨_, rfl⟩
  rw [← hw9]
  have hb : Below w8.heap.size w8 w9 := by rw [hw9]; exact (Below.refl _ _).alloc (Nat.le_refl _) _
  have N9 := Lib.hid (show Blk w9 w8.heap.size 23 #[.int .i64 1, .int .i64 q, .string ⟨#[]⟩] by rw [hw9]; exact Blk.new _ _ _)
  have Z9 := Lib.hid (show w9.heap.size = w8.heap.size + 1 by rw [hw9]; simp)
  clear hw9
  replace HV := Lib.hid (HV.out.below hb)
  replace HB := Lib.hid (HB.out.trans (hb.mono HB.out.size))
  generalize w8.heap.size = g9 at *
  clear hb
  have P7 := N9
  clear N9
  refine (column_any 0 _).mono ?_
  rintro e w10 ⟨rfl, hb⟩
  replace P7 := Lib.hid (P7.out.below hb)
  replace HV := Lib.hid (HV.out.below hb)
  replace HB := Lib.hid (HB.out.trans (hb.mono HB.out.size))
  clear hb
  have P7_l : g9 < w10.heap.size := P7.out.lt
  have P7_0 : w10.cell? ⟨g9, 0, none⟩ = some (.int .i64 1) := P7.out.cell 0
  have P7_1 : w10.cell? ⟨g9, 1, none⟩ = some (.int .i64 q) := P7.out.cell 1
  have P7_2 : w10.cell? ⟨g9, 2, none⟩ = some (.string ⟨#[]⟩) := P7.out.cell 2
  go_wp2_with fail
  clear P7_l P7_0 P7_1 P7_2
  refine (number_any a1 _).mono ?_
  rintro e w11 ⟨rfl, hb⟩
  replace P7 := Lib.hid (P7.out.below hb)
  replace HV := Lib.hid (HV.out.below hb)
  replace HB := Lib.hid (HB.out.trans (hb.mono HB.out.size))
  clear hb
  have P7_l : g9 < w11.heap.size := P7.out.lt
  have P7_0 : w11.cell? ⟨g9, 0, none⟩ = some (.int .i64 1) := P7.out.cell 0
  have P7_1 : w11.cell? ⟨g9, 1, none⟩ = some (.int .i64 q) := P7.out.cell 1
  have P7_2 : w11.cell? ⟨g9, 2, none⟩ = some (.string ⟨#[]⟩) := P7.out.cell 2
  go_wp2_with fail
  clear P7_l P7_0 P7_1 P7_2
  obtain ⟨w12, hw12⟩ : ∃ W, W = w11.alloc (.cells #[.int .i64 2, .string ⟨#[]⟩, .string ⟨#[]⟩, .int .i64 0, .int .i64 0, .int .i64 0, .string ⟨#[]⟩, .slice none 0 0, .int .i64 1, .string ⟨#[]⟩, .string ⟨#[]⟩, .int .i64 0, .int .i64 1, .int .i64 a1, .string ⟨#[]⟩, .slice none 0 0] 26) := ⟨_, rfl⟩
  rw [← hw12]
  have hb : Below w11.heap.size w11 w12 := by rw [hw12]; exact (Below.refl _ _).alloc (Nat.le_refl _) _
  have N12 := Lib.hid (show Blk w12 w11.heap.size 26 #[.int .i64 2, .string ⟨#[]⟩, .string ⟨#[]⟩, .int .i64 0, .int .i64 0, .int .i64 0, .string ⟨#[]⟩, .slice none 0 0, .int .i64 1, .string ⟨#[]⟩, .string ⟨#[]⟩, .int .i64 0, .int .i64 1, .int .i64 a1, .string ⟨#[]⟩, .slice none 0 0] by rw [hw12]; exact Blk.new _ _ _)
  have Z12 := Lib.hid (show w12.heap.size = w11.heap.size + 1 by rw [hw12]; simp)
  clear hw12
  replace P7 := Lib.hid (P7.out.below hb)
  replace HV := Lib.hid (HV.out.below hb)
  replace HB := Lib.hid (HB.out.trans (hb.mono HB.out.size))
  generalize w11.heap.size = g12 at *
  clear hb
  have X12 : Hid (ExAt w12 (Ex.mk 8 ⟨#[]⟩ ⟨#[]⟩ 0 nul (some ⟨g12, 0, none⟩) 2 [(Ex.mk 2 ⟨#[]⟩ ⟨#[]⟩ 0 nul none 0 []), (Ex.mk 1 ⟨#[]⟩ ⟨#[]⟩ 0 ⟨1, a1, ⟨#[]⟩⟩ none 0 [])])) := Lib.hid (ExAt.built 8 (args := [(Ex.mk 2 ⟨#[]⟩ ⟨#[]⟩ 0 nul none 0 []), (Ex.mk 1 ⟨#[]⟩ ⟨#[]⟩ 0 ⟨1, a1, ⟨#[]⟩⟩ none 0 [])]) N12.out (show 2 ≤ 1000 by decide) (fun z hz => by simp at hz; rcases hz with rfl | rfl; exact ExAt.leaf 2 0 nul_ok; exact ExAt.leaf 1 0 (iV_ok (n := a1) (by omega))))
  clear N12
  refine (node_any 8 _ _ _ _).mono ?_
  rintro e w13 ⟨rfl, hb⟩
  replace P7 := Lib.hid (P7.out.below hb)
  replace X12 := Lib.hid (X12.out.keep hb)
  replace HV := Lib.hid (HV.out.below hb)
  replace HB := Lib.hid (HB.out.trans (hb.mono HB.out.size))
  clear hb
  have P7_l : g9 < w13.heap.size := P7.out.lt
  have P7_0 : w13.cell? ⟨g9, 0, none⟩ = some (.int .i64 1) := P7.out.cell 0
  have P7_1 : w13.cell? ⟨g9, 1, none⟩ = some (.int .i64 q) := P7.out.cell 1
  have P7_2 : w13.cell? ⟨g9, 2, none⟩ = some (.string ⟨#[]⟩) := P7.out.cell 2
  go_wp2_with fail
  clear P7_l P7_0 P7_1 P7_2
  have cc := Value_any [iV a0] (Ex.mk 8 ⟨#[]⟩ ⟨#[]⟩ 0 nul (some ⟨g12, 0, none⟩) 2 [(Ex.mk 2 ⟨#[]⟩ ⟨#[]⟩ 0 nul none 0 []), (Ex.mk 1 ⟨#[]⟩ ⟨#[]⟩ 0 ⟨1, a1, ⟨#[]⟩⟩ none 0 [])]) w13 (some ⟨g3, 0, none⟩) 1 1 X12.out (ExSm.two ExSm.leaf ExSm.leaf) HV.out (by decide) (fun v hv => by simp at hv; subst hv; exact iV_ok (by omega))
  rw [show evM [iV a0] (Ex.mk 8 ⟨#[]⟩ ⟨#[]⟩ 0 nul (some ⟨g12, 0, none⟩) 2 [(Ex.mk 2 ⟨#[]⟩ ⟨#[]⟩ 0 nul none 0 []), (Ex.mk 1 ⟨#[]⟩ ⟨#[]⟩ 0 ⟨1, a1, ⟨#[]⟩⟩ none 0 [])]) = binM 8 a0 a1 by kernel_rfl, HM.out] at cc
  dsimp only [V3.agg, iV, nul] at cc
  refine (cc).mono ?_
  rintro e w14 ⟨rfl, hb⟩
  replace P7 := Lib.hid (P7.out.below hb)
  replace X12 := Lib.hid (X12.out.keep hb)
  replace HV := Lib.hid (HV.out.below hb)
  replace HB := Lib.hid (HB.out.trans (hb.mono HB.out.size))
  clear hb
  clear X12
  have P7_l : g9 < w14.heap.size := P7.out.lt
  have P7_0 : w14.cell? ⟨g9, 0, none⟩ = some (.int .i64 1) := P7.out.cell 0
  have P7_1 : w14.cell? ⟨g9, 1, none⟩ = some (.int .i64 q) := P7.out.cell 1
  have P7_2 : w14.cell? ⟨g9, 2, none⟩ = some (.string ⟨#[]⟩) := P7.out.cell 2
  go_wp2_with fail
  clear P7_l P7_0 P7_1 P7_2
  obtain ⟨w15, hw15⟩ : ∃ W, W = w14.alloc (.cells #[.int .i64 1, .int .i64 m, .string ⟨#[]⟩] 23) := ⟨_, rfl⟩
  rw [← hw15]
  have hb : Below w14.heap.size w14 w15 := by rw [hw15]; exact (Below.refl _ _).alloc (Nat.le_refl _) _
  have N15 := Lib.hid (show Blk w15 w14.heap.size 23 #[.int .i64 1, .int .i64 m, .string ⟨#[]⟩] by rw [hw15]; exact Blk.new _ _ _)
  have Z15 := Lib.hid (show w15.heap.size = w14.heap.size + 1 by rw [hw15]; simp)
  clear hw15
  replace P7 := Lib.hid (P7.out.below hb)
  replace HV := Lib.hid (HV.out.below hb)
  replace HB := Lib.hid (HB.out.trans (hb.mono HB.out.size))
  generalize w14.heap.size = g15 at *
  clear hb
  have P8 := N15
  clear N15
  have P7_0 : w15.cell? ⟨g9, 0, none⟩ = some (.int .i64 1) := P7.out.cell 0
  have P7_1 : w15.cell? ⟨g9, 1, none⟩ = some (.int .i64 q) := P7.out.cell 1
  have P7_2 : w15.cell? ⟨g9, 2, none⟩ = some (.string ⟨#[]⟩) := P7.out.cell 2
  have P8_0 : w15.cell? ⟨g15, 0, none⟩ = some (.int .i64 1) := P8.out.cell 0
  have P8_1 : w15.cell? ⟨g15, 1, none⟩ = some (.int .i64 m) := P8.out.cell 1
  have P8_2 : w15.cell? ⟨g15, 2, none⟩ = some (.string ⟨#[]⟩) := P8.out.cell 2
  go_wp2
  go_ret
  exact ⟨rfl, HB.out⟩

set_option maxRecDepth 100000 in
theorem evaluateDivision_lifted (os : Os) (started : os.Started) (H : Type) (enc : TypeId × Value → H) :
    ReturnsInHanded {} Try.checked os 10 .any (Rows.evaluateDivisionSpec.pre6 enc Try.prog Try.f10 Rows.evaluateDivisionRow.domain false) (Rows.evaluateDivisionSpec.post enc Try.prog Try.f10 false true false false) := by
  refine law_lifted (C := Try.checked) (B := 4) Try.own started (by kernel_rfl) Try.func10
    (ChangeSpec.witness6 (enc := enc) (C := Try.checked) false ⟨#[], #[.int .i32 0, .int .u16 0], []⟩ 8 (by kernel_rfl) (by kernel_rfl) (by kernel_rfl) (by kernel_rfl))
    Try.laidOut (by kernel_rfl) rfl rfl rfl Try.underlying4 (fun ds h => match ds, h with | [_, _], _ => rfl) ?_
  intro W base args ds ps hval hA hlt hsz
  rw [Try.params10] at hA hval hsz
  obtain ⟨v0, vs0, d0, ds0, p0, q0, hargs, rfl, rfl, h0, r0⟩ := trodAll_cons hA
  obtain ⟨v1, vs1, d1, ds1, p1, q1, rfl, rfl, rfl, h1, r1⟩ := trodAll_cons r0
  obtain ⟨rfl, rfl, rfl⟩ := trodAll_nil r1
  obtain rfl : args = #[v0, v1] := by cases args; simp_all
  obtain ⟨a0, rfl, rfl, rfl, w0⟩ := open_int Try.underlying21 (hval 0 21 v0 rfl rfl) h0
  obtain ⟨l0, g0⟩ := i32_bd w0
  obtain ⟨a1, rfl, rfl, rfl, w1⟩ := open_int Try.underlying54 (hval 1 54 v1 rfl rfl) h1
  obtain ⟨l1, g1⟩ := u16_bd w1
  clear hlt hsz
  exact evaluateDivision_walk a0 a1 W l0 g0 l1 g1

theorem evaluateDivision_over : Rows.evaluateDivisionRow.holds Try.pinned (OpenSpec.ofChange Rows.evaluateDivisionSpec) :=
  OpenClaim.holds_of_wide 10 Try.f10 rfl rfl rfl rfl rfl rfl rfl ⟨rfl, rfl, rfl, rfl, rfl⟩ rfl rfl rfl rfl rfl (by kernel_rfl) Try.func10 (by kernel_rfl)
    (of_decide_eq_true (by kernel_rfl)) (by unfold Func.isWrapper; first | (rw [if_pos (by decide +kernel)]; kernel_rfl) | (rw [if_neg (by decide +kernel)]; exact ⟨rfl, rfl⟩))
    (fun os started H enc _ => evaluateDivision_lifted os started H enc)

theorem evaluateDivision_proved : Rows.EvaluateDivisionSaid := evaluateDivision_over
end Go.Proofs.Ytfhbffgnpedaeaa
