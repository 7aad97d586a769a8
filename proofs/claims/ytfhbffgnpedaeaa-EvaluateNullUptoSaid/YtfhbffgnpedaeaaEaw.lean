/- The check of the chapter's examples: it holds. -/
import Derived.Test.YtfhbffgnpedaeaaEco
namespace Go.Proofs.Ytfhbffgnpedaeaa
open Go.ChangeShapes Go.WideShapes Go.ChangeAt Go.RowKit Go.ChangeMaps

theorem ExAt.built {W : World} {g : Nat} (op : Int) {args : List Ex} (h : Blk W g 26 (args.flatMap Ex.cells).toArray) (hn : args.length ≤ 1000) (ha : ∀ y ∈ args, ExAt W y) : ExAt W (.mk op ⟨#[]⟩ ⟨#[]⟩ 0 nul (some ⟨g, 0, none⟩) args.length args) := by
  refine .mk _ ⟨by rw [flat_len Ex.cells 8 (fun _ => rfl)], fun _ => ⟨g, 0, rfl, h.lt, fun j v hj => ?_⟩⟩ (by show args.length ≤ 9223372036854775807; omega) nul_ok ha
  rw [h.cell, Nat.zero_add]
  simpa [Ex.args] using hj
theorem ExAt.leaf {W : World} (op ix : Int) {v : V3} (hv : v.ok) : ExAt W (.mk op ⟨#[]⟩ ⟨#[]⟩ ix v none 0 []) :=
  .mk _ ⟨rfl, fun h => absurd h (Nat.lt_irrefl 0)⟩ (Nat.zero_le _) hv (fun y hy => by cases hy)
theorem ExSm.leaf {op ix : Int} {tb nm : ByteArray} {v : V3} {A : Option Addr} {c : Nat} : ExSm (.mk op tb nm ix v A c []) := .mk _ (Nat.zero_le _) (fun y hy => by cases hy)
theorem ExSm.one {op ix : Int} {tb nm : ByteArray} {v : V3} {A : Option Addr} {c : Nat} {a : Ex} (h : ExSm a) : ExSm (.mk op tb nm ix v A c [a]) := .mk _ (show 1 ≤ 1000 by decide) (fun y hy => by simp [Ex.args] at hy; subst hy; exact h)
theorem ExSm.two {op ix : Int} {tb nm : ByteArray} {v : V3} {A : Option Addr} {c : Nat} {a b : Ex} (h : ExSm a) (g : ExSm b) : ExSm (.mk op tb nm ix v A c [a, b]) := .mk _ (show 2 ≤ 1000 by decide) (fun y hy => by simp [Ex.args] at hy; rcases hy with rfl | rfl; exact h; exact g)
theorem Vls.blk {w : World} {g : Nat} {t : TypeId} {R : List V3} {n : Nat} (hn : R.length = n) (h : Blk w g t (R.flatMap V3.cells).toArray) : Vls w (some ⟨g, 0, none⟩) n R := by
  refine ⟨by rw [flat_len V3.cells 3 (fun _ => rfl), hn], fun _ => ⟨g, 0, rfl, h.lt, fun j v hj => ?_⟩⟩
  rw [h.cell, Nat.zero_add]
  simpa using hj
set_option maxRecDepth 100000 in
set_option maxHeartbeats 8000000 in
theorem awake_any (w : World) : Calls Try.prog 11 #[] w fun e w' => e = .returned (.bool true) ∧ Below w.heap.size w w' := by
  have HB := Lib.hid (Below.refl w.heap.size w)
  go_enter Try.func11, Try.ntmps11
  go_wp2_with fail
  refine (column_any 0 _).mono ?_
  rintro e w1 ⟨rfl, hb⟩
  replace HB := Lib.hid (HB.out.trans (hb.mono HB.out.size))
  clear hb
  go_wp2_with fail
  refine (column_any 1 _).mono ?_
  rintro e w2 ⟨rfl, hb⟩
  replace HB := Lib.hid (HB.out.trans (hb.mono HB.out.size))
  clear hb
  go_wp2_with fail
  obtain ⟨w3, hw3⟩ : ∃ W, W = (w2.alloc (.cells #[.int .i64 2, .string ⟨#[]⟩, .string ⟨#[]⟩, .int .i64 0, .int .i64 0, .int .i64 0, .string ⟨#[]⟩, .slice none 0 0] 26)).alloc (.cells #[.int .i64 2, .string ⟨#[]⟩, .string ⟨#[]⟩, .int .i64 1, .int .i64 0, .int .i64 0, .string ⟨#[]⟩, .slice none 0 0] 26) := ⟨_, rfl⟩
  rw [← hw3]
  have hb : Below w2.heap.size w2 w3 := by rw [hw3]; exact ((Below.refl _ _).alloc (Nat.le_refl _) _).alloc (by simp) _
  have P1 := Lib.hid (show Blk w3 w2.heap.size 26 #[.int .i64 2, .string ⟨#[]⟩, .string ⟨#[]⟩, .int .i64 0, .int .i64 0, .int .i64 0, .string ⟨#[]⟩, .slice none 0 0] by rw [hw3]; exact (Blk.new _ _ _).alloc _)
  have P2 := Lib.hid (show Blk w3 (w2.heap.size + 1) 26 #[.int .i64 2, .string ⟨#[]⟩, .string ⟨#[]⟩, .int .i64 1, .int .i64 0, .int .i64 0, .string ⟨#[]⟩, .slice none 0 0] by rw [hw3]; exact Blk.new_ (by simp) rfl)
  clear hw3
  replace HB := Lib.hid (HB.out.trans (hb.mono HB.out.size))
  generalize w2.heap.size = g3 at *
  clear hb
  have HX := Lib.hid (ExAt.leaf (W := w3) 2 0 nul_ok)
  have HY := Lib.hid (ExAt.leaf (W := w3) 2 1 nul_ok)
  refine (integer_any (-7) _).mono ?_
  rintro e w4 ⟨rfl, hb⟩
  replace P1 := Lib.hid (P1.out.below hb)
  replace P2 := Lib.hid (P2.out.below hb)
  replace HX := Lib.hid (HX.out.keep hb)
  replace HY := Lib.hid (HY.out.keep hb)
  replace HB := Lib.hid (HB.out.trans (hb.mono HB.out.size))
  clear hb
  have P1_l : g3 < w4.heap.size := P1.out.lt
  have P1_0 : w4.cell? ⟨g3, 0, none⟩ = some (.int .i64 2) := P1.out.cell 0
  have P1_1 : w4.cell? ⟨g3, 1, none⟩ = some (.string ⟨#[]⟩) := P1.out.cell 1
  have P1_2 : w4.cell? ⟨g3, 2, none⟩ = some (.string ⟨#[]⟩) := P1.out.cell 2
  have P1_3 : w4.cell? ⟨g3, 3, none⟩ = some (.int .i64 0) := P1.out.cell 3
  have P1_4 : w4.cell? ⟨g3, 4, none⟩ = some (.int .i64 0) := P1.out.cell 4
  have P1_5 : w4.cell? ⟨g3, 5, none⟩ = some (.int .i64 0) := P1.out.cell 5
  have P1_6 : w4.cell? ⟨g3, 6, none⟩ = some (.string ⟨#[]⟩) := P1.out.cell 6
  have P1_7 : w4.cell? ⟨g3, 7, none⟩ = some (.slice none 0 0) := P1.out.cell 7
  have P2_l : g3 + 1 < w4.heap.size := P2.out.lt
  have P2_0 : w4.cell? ⟨g3 + 1, 0, none⟩ = some (.int .i64 2) := P2.out.cell 0
  have P2_1 : w4.cell? ⟨g3 + 1, 1, none⟩ = some (.string ⟨#[]⟩) := P2.out.cell 1
  have P2_2 : w4.cell? ⟨g3 + 1, 2, none⟩ = some (.string ⟨#[]⟩) := P2.out.cell 2
  have P2_3 : w4.cell? ⟨g3 + 1, 3, none⟩ = some (.int .i64 1) := P2.out.cell 3
  have P2_4 : w4.cell? ⟨g3 + 1, 4, none⟩ = some (.int .i64 0) := P2.out.cell 4
  have P2_5 : w4.cell? ⟨g3 + 1, 5, none⟩ = some (.int .i64 0) := P2.out.cell 5
  have P2_6 : w4.cell? ⟨g3 + 1, 6, none⟩ = some (.string ⟨#[]⟩) := P2.out.cell 6
  have P2_7 : w4.cell? ⟨g3 + 1, 7, none⟩ = some (.slice none 0 0) := P2.out.cell 7
  go_wp2_with fail
  clear P1_l P1_0 P1_1 P1_2 P1_3 P1_4 P1_5 P1_6 P1_7 P2_l P2_0 P2_1 P2_2 P2_3 P2_4 P2_5 P2_6 P2_7
  obtain ⟨w5, hw5⟩ : ∃ W, W = w4.alloc (.cells #[.int .i64 1, .int .i64 (-7), .string ⟨#[]⟩, .int .i64 0, .int .i64 0, .string ⟨#[]⟩] 23) := ⟨_, rfl⟩
  rw [← hw5]
  have hb : Below w4.heap.size w4 w5 := by rw [hw5]; exact (Below.refl _ _).alloc (Nat.le_refl _) _
  have N5 := Lib.hid (show Blk w5 w4.heap.size 23 #[.int .i64 1, .int .i64 (-7), .string ⟨#[]⟩, .int .i64 0, .int .i64 0, .string ⟨#[]⟩] by rw [hw5]; exact Blk.new _ _ _)
  have Z5 := Lib.hid (show w5.heap.size = w4.heap.size + 1 by rw [hw5]; simp)
  clear hw5
  replace P1 := Lib.hid (P1.out.below hb)
  replace P2 := Lib.hid (P2.out.below hb)
  replace HX := Lib.hid (HX.out.keep hb)
  replace HY := Lib.hid (HY.out.keep hb)
  replace HB := Lib.hid (HB.out.trans (hb.mono HB.out.size))
  generalize w4.heap.size = g5 at *
  clear hb
  have HV : Hid (Vls w5 (some ⟨g5, 0, none⟩) 2 [iV (-7), nul]) := Lib.hid (Vls.blk (t := 23) rfl N5.out)
  clear N5
  obtain ⟨w6, hw6⟩ : ∃ W, W = w5.alloc (.cells #[.int .i64 2, .string ⟨#[]⟩, .string ⟨#[]⟩, .int .i64 0, .int .i64 0, .int .i64 0, .string ⟨#[]⟩, .slice none 0 0, .int .i64 2, .string ⟨#[]⟩, .string ⟨#[]⟩, .int .i64 1, .int .i64 0, .int .i64 0, .string ⟨#[]⟩, .slice none 0 0] 26) := ⟨_, rfl⟩
  rw [← hw6]
  have hb : Below w5.heap.size w5 w6 := by rw [hw6]; exact (Below.refl _ _).alloc (Nat.le_refl _) _
  have N6 := Lib.hid (show Blk w6 (g5 + 1) 26 #[.int .i64 2, .string ⟨#[]⟩, .string ⟨#[]⟩, .int .i64 0, .int .i64 0, .int .i64 0, .string ⟨#[]⟩, .slice none 0 0, .int .i64 2, .string ⟨#[]⟩, .string ⟨#[]⟩, .int .i64 1, .int .i64 0, .int .i64 0, .string ⟨#[]⟩, .slice none 0 0] by rw [hw6]; exact Blk.new_ Z5.out.symm rfl)
  have Z6 := Lib.hid (show w6.heap.size = g5 + 1 + 1 by rw [hw6]; simp [Z5.out])
  clear hw6
  replace P1 := Lib.hid (P1.out.below hb)
  replace P2 := Lib.hid (P2.out.below hb)
  replace HX := Lib.hid (HX.out.keep hb)
  replace HY := Lib.hid (HY.out.keep hb)
  replace HV := Lib.hid (HV.out.below hb)
  replace HB := Lib.hid (HB.out.trans (hb.mono HB.out.size))
  clear hb
  have X6 : Hid (ExAt w6 (Ex.mk 12 ⟨#[]⟩ ⟨#[]⟩ 0 nul (some ⟨g5 + 1, 0, none⟩) 2 [(Ex.mk 2 ⟨#[]⟩ ⟨#[]⟩ 0 nul none 0 []), (Ex.mk 2 ⟨#[]⟩ ⟨#[]⟩ 1 nul none 0 [])])) := Lib.hid (ExAt.built 12 (args := [(Ex.mk 2 ⟨#[]⟩ ⟨#[]⟩ 0 nul none 0 []), (Ex.mk 2 ⟨#[]⟩ ⟨#[]⟩ 1 nul none 0 [])]) N6.out (show 2 ≤ 1000 by decide) (fun z hz => by simp at hz; rcases hz with rfl | rfl; exact HX.out; exact HY.out))
  clear N6
  refine (node_any 12 _ _ _ _).mono ?_
  rintro e w7 ⟨rfl, hb⟩
  replace P1 := Lib.hid (P1.out.below hb)
  replace P2 := Lib.hid (P2.out.below hb)
  replace HX := Lib.hid (HX.out.keep hb)
  replace HY := Lib.hid (HY.out.keep hb)
  replace X6 := Lib.hid (X6.out.keep hb)
  replace HV := Lib.hid (HV.out.below hb)
  replace HB := Lib.hid (HB.out.trans (hb.mono HB.out.size))
  clear hb
  have P1_l : g3 < w7.heap.size := P1.out.lt
  have P1_0 : w7.cell? ⟨g3, 0, none⟩ = some (.int .i64 2) := P1.out.cell 0
  have P1_1 : w7.cell? ⟨g3, 1, none⟩ = some (.string ⟨#[]⟩) := P1.out.cell 1
  have P1_2 : w7.cell? ⟨g3, 2, none⟩ = some (.string ⟨#[]⟩) := P1.out.cell 2
  have P1_3 : w7.cell? ⟨g3, 3, none⟩ = some (.int .i64 0) := P1.out.cell 3
  have P1_4 : w7.cell? ⟨g3, 4, none⟩ = some (.int .i64 0) := P1.out.cell 4
  have P1_5 : w7.cell? ⟨g3, 5, none⟩ = some (.int .i64 0) := P1.out.cell 5
  have P1_6 : w7.cell? ⟨g3, 6, none⟩ = some (.string ⟨#[]⟩) := P1.out.cell 6
  have P1_7 : w7.cell? ⟨g3, 7, none⟩ = some (.slice none 0 0) := P1.out.cell 7
  have P2_l : g3 + 1 < w7.heap.size := P2.out.lt
  have P2_0 : w7.cell? ⟨g3 + 1, 0, none⟩ = some (.int .i64 2) := P2.out.cell 0
  have P2_1 : w7.cell? ⟨g3 + 1, 1, none⟩ = some (.string ⟨#[]⟩) := P2.out.cell 1
  have P2_2 : w7.cell? ⟨g3 + 1, 2, none⟩ = some (.string ⟨#[]⟩) := P2.out.cell 2
  have P2_3 : w7.cell? ⟨g3 + 1, 3, none⟩ = some (.int .i64 1) := P2.out.cell 3
  have P2_4 : w7.cell? ⟨g3 + 1, 4, none⟩ = some (.int .i64 0) := P2.out.cell 4
  have P2_5 : w7.cell? ⟨g3 + 1, 5, none⟩ = some (.int .i64 0) := P2.out.cell 5
  have P2_6 : w7.cell? ⟨g3 + 1, 6, none⟩ = some (.string ⟨#[]⟩) := P2.out.cell 6
  have P2_7 : w7.cell? ⟨g3 + 1, 7, none⟩ = some (.slice none 0 0) := P2.out.cell 7
  go_wp2_with fail
  clear P1_l P1_0 P1_1 P1_2 P1_3 P1_4 P1_5 P1_6 P1_7 P2_l P2_0 P2_1 P2_2 P2_3 P2_4 P2_5 P2_6 P2_7
  obtain ⟨w8, hw8⟩ : ∃ W, W = w7.alloc (.cells #[.int .i64 12, .string ⟨#[]⟩, .string ⟨#[]⟩, .int .i64 0, .int .i64 0, .int .i64 0, .string ⟨#[]⟩, .slice (some ⟨g5 + 1, 0, none⟩) 2 2] 26) := ⟨_, rfl⟩
  rw [← hw8]
  have hb : Below w7.heap.size w7 w8 := by rw [hw8]; exact (Below.refl _ _).alloc (Nat.le_refl _) _
  have N8 := Lib.hid (show Blk w8 w7.heap.size 26 #[.int .i64 12, .string ⟨#[]⟩, .string ⟨#[]⟩, .int .i64 0, .int .i64 0, .int .i64 0, .string ⟨#[]⟩, .slice (some ⟨g5 + 1, 0, none⟩) 2 2] by rw [hw8]; exact Blk.new _ _ _)
  have Z8 := Lib.hid (show w8.heap.size = w7.heap.size + 1 by rw [hw8]; simp)
  clear hw8
  replace P1 := Lib.hid (P1.out.below hb)
  replace P2 := Lib.hid (P2.out.below hb)
  replace HX := Lib.hid (HX.out.keep hb)
  replace HY := Lib.hid (HY.out.keep hb)
  replace X6 := Lib.hid (X6.out.keep hb)
  replace HV := Lib.hid (HV.out.below hb)
  replace HB := Lib.hid (HB.out.trans (hb.mono HB.out.size))
  generalize w7.heap.size = g8 at *
  clear hb
  have P4 := N8
  clear N8
  refine (number_any 7 _).mono ?_
  rintro e w9 ⟨rfl, hb⟩
  replace P1 := Lib.hid (P1.out.below hb)
  replace P2 := Lib.hid (P2.out.below hb)
  replace P4 := Lib.hid (P4.out.below hb)
  replace HX := Lib.hid (HX.out.keep hb)
  replace HY := Lib.hid (HY.out.keep hb)
  replace X6 := Lib.hid (X6.out.keep hb)
  replace HV := Lib.hid (HV.out.below hb)
  replace HB := Lib.hid (HB.out.trans (hb.mono HB.out.size))
  clear hb
  have X9n := Lib.hid (ExAt.leaf (W := w9) 1 0 (v := ⟨1, 7, ⟨#[]⟩⟩) (show V3.ok ⟨1, 7, ⟨#[]⟩⟩ by refine ⟨by decide, by decide, by decide, by decide, by decide⟩))
  have P1_l : g3 < w9.heap.size := P1.out.lt
  have P1_0 : w9.cell? ⟨g3, 0, none⟩ = some (.int .i64 2) := P1.out.cell 0
  have P1_1 : w9.cell? ⟨g3, 1, none⟩ = some (.string ⟨#[]⟩) := P1.out.cell 1
  have P1_2 : w9.cell? ⟨g3, 2, none⟩ = some (.string ⟨#[]⟩) := P1.out.cell 2
  have P1_3 : w9.cell? ⟨g3, 3, none⟩ = some (.int .i64 0) := P1.out.cell 3
  have P1_4 : w9.cell? ⟨g3, 4, none⟩ = some (.int .i64 0) := P1.out.cell 4
  have P1_5 : w9.cell? ⟨g3, 5, none⟩ = some (.int .i64 0) := P1.out.cell 5
  have P1_6 : w9.cell? ⟨g3, 6, none⟩ = some (.string ⟨#[]⟩) := P1.out.cell 6
  have P1_7 : w9.cell? ⟨g3, 7, none⟩ = some (.slice none 0 0) := P1.out.cell 7
  have P2_l : g3 + 1 < w9.heap.size := P2.out.lt
  have P2_0 : w9.cell? ⟨g3 + 1, 0, none⟩ = some (.int .i64 2) := P2.out.cell 0
  have P2_1 : w9.cell? ⟨g3 + 1, 1, none⟩ = some (.string ⟨#[]⟩) := P2.out.cell 1
  have P2_2 : w9.cell? ⟨g3 + 1, 2, none⟩ = some (.string ⟨#[]⟩) := P2.out.cell 2
  have P2_3 : w9.cell? ⟨g3 + 1, 3, none⟩ = some (.int .i64 1) := P2.out.cell 3
  have P2_4 : w9.cell? ⟨g3 + 1, 4, none⟩ = some (.int .i64 0) := P2.out.cell 4
  have P2_5 : w9.cell? ⟨g3 + 1, 5, none⟩ = some (.int .i64 0) := P2.out.cell 5
  have P2_6 : w9.cell? ⟨g3 + 1, 6, none⟩ = some (.string ⟨#[]⟩) := P2.out.cell 6
  have P2_7 : w9.cell? ⟨g3 + 1, 7, none⟩ = some (.slice none 0 0) := P2.out.cell 7
  have P4_l : g8 < w9.heap.size := P4.out.lt
  have P4_0 : w9.cell? ⟨g8, 0, none⟩ = some (.int .i64 12) := P4.out.cell 0
  have P4_1 : w9.cell? ⟨g8, 1, none⟩ = some (.string ⟨#[]⟩) := P4.out.cell 1
  have P4_2 : w9.cell? ⟨g8, 2, none⟩ = some (.string ⟨#[]⟩) := P4.out.cell 2
  have P4_3 : w9.cell? ⟨g8, 3, none⟩ = some (.int .i64 0) := P4.out.cell 3
  have P4_4 : w9.cell? ⟨g8, 4, none⟩ = some (.int .i64 0) := P4.out.cell 4
  have P4_5 : w9.cell? ⟨g8, 5, none⟩ = some (.int .i64 0) := P4.out.cell 5
  have P4_6 : w9.cell? ⟨g8, 6, none⟩ = some (.string ⟨#[]⟩) := P4.out.cell 6
  have P4_7 : w9.cell? ⟨g8, 7, none⟩ = some (.slice (some ⟨g5 + 1, 0, none⟩) 2 2) := P4.out.cell 7
  go_wp2_with fail
  clear P1_l P1_0 P1_1 P1_2 P1_3 P1_4 P1_5 P1_6 P1_7 P2_l P2_0 P2_1 P2_2 P2_3 P2_4 P2_5 P2_6 P2_7 P4_l P4_0 P4_1 P4_2 P4_3 P4_4 P4_5 P4_6 P4_7
  obtain ⟨w10, hw10⟩ : ∃ W, W = w9.alloc (.cells #[.int .i64 1, .string ⟨#[]⟩, .string ⟨#[]⟩, .int .i64 0, .int .i64 1, .int .i64 7, .string ⟨#[]⟩, .slice none 0 0] 26) := ⟨_, rfl⟩
  rw [← hw10]
  have hb : Below w9.heap.size w9 w10 := by rw [hw10]; exact (Below.refl _ _).alloc (Nat.le_refl _) _
  have N10 := Lib.hid (show Blk w10 w9.heap.size 26 #[.int .i64 1, .string ⟨#[]⟩, .string ⟨#[]⟩, .int .i64 0, .int .i64 1, .int .i64 7, .string ⟨#[]⟩, .slice none 0 0] by rw [hw10]; exact Blk.new _ _ _)
  have Z10 := Lib.hid (show w10.heap.size = w9.heap.size + 1 by rw [hw10]; simp)
  clear hw10
  replace P1 := Lib.hid (P1.out.below hb)
  replace P2 := Lib.hid (P2.out.below hb)
  replace P4 := Lib.hid (P4.out.below hb)
  replace HX := Lib.hid (HX.out.keep hb)
  replace HY := Lib.hid (HY.out.keep hb)
  replace X6 := Lib.hid (X6.out.keep hb)
  replace X9n := Lib.hid (X9n.out.keep hb)
  replace HV := Lib.hid (HV.out.below hb)
  replace HB := Lib.hid (HB.out.trans (hb.mono HB.out.size))
  generalize w9.heap.size = g10 at *
  clear hb
  have X10 : Hid (ExAt w10 (Ex.mk 3 ⟨#[]⟩ ⟨#[]⟩ 0 nul (some ⟨g10, 0, none⟩) 1 [(Ex.mk 1 ⟨#[]⟩ ⟨#[]⟩ 0 ⟨1, 7, ⟨#[]⟩⟩ none 0 [])])) := Lib.hid (ExAt.built 3 (args := [(Ex.mk 1 ⟨#[]⟩ ⟨#[]⟩ 0 ⟨1, 7, ⟨#[]⟩⟩ none 0 [])]) N10.out (show 1 ≤ 1000 by decide) (fun z hz => by simp at hz; subst hz; exact X9n.out))
  clear N10
  refine (node_any 3 _ _ _ _).mono ?_
  rintro e w11 ⟨rfl, hb⟩
  replace P1 := Lib.hid (P1.out.below hb)
  replace P2 := Lib.hid (P2.out.below hb)
  replace P4 := Lib.hid (P4.out.below hb)
  replace HX := Lib.hid (HX.out.keep hb)
  replace HY := Lib.hid (HY.out.keep hb)
  replace X6 := Lib.hid (X6.out.keep hb)
  replace X9n := Lib.hid (X9n.out.keep hb)
  replace X10 := Lib.hid (X10.out.keep hb)
  replace HV := Lib.hid (HV.out.below hb)
  replace HB := Lib.hid (HB.out.trans (hb.mono HB.out.size))
  clear hb
  have P1_l : g3 < w11.heap.size := P1.out.lt
  have P1_0 : w11.cell? ⟨g3, 0, none⟩ = some (.int .i64 2) := P1.out.cell 0
  have P1_1 : w11.cell? ⟨g3, 1, none⟩ = some (.string ⟨#[]⟩) := P1.out.cell 1
  have P1_2 : w11.cell? ⟨g3, 2, none⟩ = some (.string ⟨#[]⟩) := P1.out.cell 2
  have P1_3 : w11.cell? ⟨g3, 3, none⟩ = some (.int .i64 0) := P1.out.cell 3
  have P1_4 : w11.cell? ⟨g3, 4, none⟩ = some (.int .i64 0) := P1.out.cell 4
  have P1_5 : w11.cell? ⟨g3, 5, none⟩ = some (.int .i64 0) := P1.out.cell 5
  have P1_6 : w11.cell? ⟨g3, 6, none⟩ = some (.string ⟨#[]⟩) := P1.out.cell 6
  have P1_7 : w11.cell? ⟨g3, 7, none⟩ = some (.slice none 0 0) := P1.out.cell 7
  have P2_l : g3 + 1 < w11.heap.size := P2.out.lt
  have P2_0 : w11.cell? ⟨g3 + 1, 0, none⟩ = some (.int .i64 2) := P2.out.cell 0
  have P2_1 : w11.cell? ⟨g3 + 1, 1, none⟩ = some (.string ⟨#[]⟩) := P2.out.cell 1
  have P2_2 : w11.cell? ⟨g3 + 1, 2, none⟩ = some (.string ⟨#[]⟩) := P2.out.cell 2
  have P2_3 : w11.cell? ⟨g3 + 1, 3, none⟩ = some (.int .i64 1) := P2.out.cell 3
  have P2_4 : w11.cell? ⟨g3 + 1, 4, none⟩ = some (.int .i64 0) := P2.out.cell 4
  have P2_5 : w11.cell? ⟨g3 + 1, 5, none⟩ = some (.int .i64 0) := P2.out.cell 5
  have P2_6 : w11.cell? ⟨g3 + 1, 6, none⟩ = some (.string ⟨#[]⟩) := P2.out.cell 6
  have P2_7 : w11.cell? ⟨g3 + 1, 7, none⟩ = some (.slice none 0 0) := P2.out.cell 7
  have P4_l : g8 < w11.heap.size := P4.out.lt
  have P4_0 : w11.cell? ⟨g8, 0, none⟩ = some (.int .i64 12) := P4.out.cell 0
  have P4_1 : w11.cell? ⟨g8, 1, none⟩ = some (.string ⟨#[]⟩) := P4.out.cell 1
  have P4_2 : w11.cell? ⟨g8, 2, none⟩ = some (.string ⟨#[]⟩) := P4.out.cell 2
  have P4_3 : w11.cell? ⟨g8, 3, none⟩ = some (.int .i64 0) := P4.out.cell 3
  have P4_4 : w11.cell? ⟨g8, 4, none⟩ = some (.int .i64 0) := P4.out.cell 4
  have P4_5 : w11.cell? ⟨g8, 5, none⟩ = some (.int .i64 0) := P4.out.cell 5
  have P4_6 : w11.cell? ⟨g8, 6, none⟩ = some (.string ⟨#[]⟩) := P4.out.cell 6
  have P4_7 : w11.cell? ⟨g8, 7, none⟩ = some (.slice (some ⟨g5 + 1, 0, none⟩) 2 2) := P4.out.cell 7
  go_wp2_with fail
  clear P1_l P1_0 P1_1 P1_2 P1_3 P1_4 P1_5 P1_6 P1_7 P2_l P2_0 P2_1 P2_2 P2_3 P2_4 P2_5 P2_6 P2_7 P4_l P4_0 P4_1 P4_2 P4_3 P4_4 P4_5 P4_6 P4_7
  refine (number_any 2 _).mono ?_
  rintro e w12 ⟨rfl, hb⟩
  replace P1 := Lib.hid (P1.out.below hb)
  replace P2 := Lib.hid (P2.out.below hb)
  replace P4 := Lib.hid (P4.out.below hb)
  replace HX := Lib.hid (HX.out.keep hb)
  replace HY := Lib.hid (HY.out.keep hb)
  replace X6 := Lib.hid (X6.out.keep hb)
  replace X9n := Lib.hid (X9n.out.keep hb)
  replace X10 := Lib.hid (X10.out.keep hb)
  replace HV := Lib.hid (HV.out.below hb)
  replace HB := Lib.hid (HB.out.trans (hb.mono HB.out.size))
  clear hb
  have X12n := Lib.hid (ExAt.leaf (W := w12) 1 0 (v := ⟨1, 2, ⟨#[]⟩⟩) (show V3.ok ⟨1, 2, ⟨#[]⟩⟩ by refine ⟨by decide, by decide, by decide, by decide, by decide⟩))
  have P1_l : g3 < w12.heap.size := P1.out.lt
  have P1_0 : w12.cell? ⟨g3, 0, none⟩ = some (.int .i64 2) := P1.out.cell 0
  have P1_1 : w12.cell? ⟨g3, 1, none⟩ = some (.string ⟨#[]⟩) := P1.out.cell 1
  have P1_2 : w12.cell? ⟨g3, 2, none⟩ = some (.string ⟨#[]⟩) := P1.out.cell 2
  have P1_3 : w12.cell? ⟨g3, 3, none⟩ = some (.int .i64 0) := P1.out.cell 3
  have P1_4 : w12.cell? ⟨g3, 4, none⟩ = some (.int .i64 0) := P1.out.cell 4
  have P1_5 : w12.cell? ⟨g3, 5, none⟩ = some (.int .i64 0) := P1.out.cell 5
  have P1_6 : w12.cell? ⟨g3, 6, none⟩ = some (.string ⟨#[]⟩) := P1.out.cell 6
  have P1_7 : w12.cell? ⟨g3, 7, none⟩ = some (.slice none 0 0) := P1.out.cell 7
  have P2_l : g3 + 1 < w12.heap.size := P2.out.lt
  have P2_0 : w12.cell? ⟨g3 + 1, 0, none⟩ = some (.int .i64 2) := P2.out.cell 0
  have P2_1 : w12.cell? ⟨g3 + 1, 1, none⟩ = some (.string ⟨#[]⟩) := P2.out.cell 1
  have P2_2 : w12.cell? ⟨g3 + 1, 2, none⟩ = some (.string ⟨#[]⟩) := P2.out.cell 2
  have P2_3 : w12.cell? ⟨g3 + 1, 3, none⟩ = some (.int .i64 1) := P2.out.cell 3
  have P2_4 : w12.cell? ⟨g3 + 1, 4, none⟩ = some (.int .i64 0) := P2.out.cell 4
  have P2_5 : w12.cell? ⟨g3 + 1, 5, none⟩ = some (.int .i64 0) := P2.out.cell 5
  have P2_6 : w12.cell? ⟨g3 + 1, 6, none⟩ = some (.string ⟨#[]⟩) := P2.out.cell 6
  have P2_7 : w12.cell? ⟨g3 + 1, 7, none⟩ = some (.slice none 0 0) := P2.out.cell 7
  have P4_l : g8 < w12.heap.size := P4.out.lt
  have P4_0 : w12.cell? ⟨g8, 0, none⟩ = some (.int .i64 12) := P4.out.cell 0
  have P4_1 : w12.cell? ⟨g8, 1, none⟩ = some (.string ⟨#[]⟩) := P4.out.cell 1
  have P4_2 : w12.cell? ⟨g8, 2, none⟩ = some (.string ⟨#[]⟩) := P4.out.cell 2
  have P4_3 : w12.cell? ⟨g8, 3, none⟩ = some (.int .i64 0) := P4.out.cell 3
  have P4_4 : w12.cell? ⟨g8, 4, none⟩ = some (.int .i64 0) := P4.out.cell 4
  have P4_5 : w12.cell? ⟨g8, 5, none⟩ = some (.int .i64 0) := P4.out.cell 5
  have P4_6 : w12.cell? ⟨g8, 6, none⟩ = some (.string ⟨#[]⟩) := P4.out.cell 6
  have P4_7 : w12.cell? ⟨g8, 7, none⟩ = some (.slice (some ⟨g5 + 1, 0, none⟩) 2 2) := P4.out.cell 7
  go_wp2_with fail
  clear P1_l P1_0 P1_1 P1_2 P1_3 P1_4 P1_5 P1_6 P1_7 P2_l P2_0 P2_1 P2_2 P2_3 P2_4 P2_5 P2_6 P2_7 P4_l P4_0 P4_1 P4_2 P4_3 P4_4 P4_5 P4_6 P4_7
  obtain ⟨w13, hw13⟩ : ∃ W, W = w12.alloc (.cells #[.int .i64 3, .string ⟨#[]⟩, .string ⟨#[]⟩, .int .i64 0, .int .i64 0, .int .i64 0, .string ⟨#[]⟩, .slice (some ⟨g10, 0, none⟩) 1 1, .int .i64 1, .string ⟨#[]⟩, .string ⟨#[]⟩, .int .i64 0, .int .i64 1, .int .i64 2, .string ⟨#[]⟩, .slice none 0 0] 26) := ⟨_, rfl⟩
  rw [← hw13]
  have hb : Below w12.heap.size w12 w13 := by rw [hw13]; exact (Below.refl _ _).alloc (Nat.le_refl _) _
  have N13 := Lib.hid (show Blk w13 w12.heap.size 26 #[.int .i64 3, .string ⟨#[]⟩, .string ⟨#[]⟩, .int .i64 0, .int .i64 0, .int .i64 0, .string ⟨#[]⟩, .slice (some ⟨g10, 0, none⟩) 1 1, .int .i64 1, .string ⟨#[]⟩, .string ⟨#[]⟩, .int .i64 0, .int .i64 1, .int .i64 2, .string ⟨#[]⟩, .slice none 0 0] by rw [hw13]; exact Blk.new _ _ _)
  have Z13 := Lib.hid (show w13.heap.size = w12.heap.size + 1 by rw [hw13]; simp)
  clear hw13
  replace P1 := Lib.hid (P1.out.below hb)
  replace P2 := Lib.hid (P2.out.below hb)
  replace P4 := Lib.hid (P4.out.below hb)
  replace HX := Lib.hid (HX.out.keep hb)
  replace HY := Lib.hid (HY.out.keep hb)
  replace X6 := Lib.hid (X6.out.keep hb)
  replace X9n := Lib.hid (X9n.out.keep hb)
  replace X10 := Lib.hid (X10.out.keep hb)
  replace X12n := Lib.hid (X12n.out.keep hb)
  replace HV := Lib.hid (HV.out.below hb)
  replace HB := Lib.hid (HB.out.trans (hb.mono HB.out.size))
  generalize w12.heap.size = g13 at *
  clear hb
  have X13 : Hid (ExAt w13 (Ex.mk 7 ⟨#[]⟩ ⟨#[]⟩ 0 nul (some ⟨g13, 0, none⟩) 2 [(Ex.mk 3 ⟨#[]⟩ ⟨#[]⟩ 0 nul (some ⟨g10, 0, none⟩) 1 [(Ex.mk 1 ⟨#[]⟩ ⟨#[]⟩ 0 ⟨1, 7, ⟨#[]⟩⟩ none 0 [])]), (Ex.mk 1 ⟨#[]⟩ ⟨#[]⟩ 0 ⟨1, 2, ⟨#[]⟩⟩ none 0 [])])) := Lib.hid (ExAt.built 7 (args := [(Ex.mk 3 ⟨#[]⟩ ⟨#[]⟩ 0 nul (some ⟨g10, 0, none⟩) 1 [(Ex.mk 1 ⟨#[]⟩ ⟨#[]⟩ 0 ⟨1, 7, ⟨#[]⟩⟩ none 0 [])]), (Ex.mk 1 ⟨#[]⟩ ⟨#[]⟩ 0 ⟨1, 2, ⟨#[]⟩⟩ none 0 [])]) N13.out (show 2 ≤ 1000 by decide) (fun z hz => by simp at hz; rcases hz with rfl | rfl; exact X10.out; exact X12n.out))
  clear N13
  refine (node_any 7 _ _ _ _).mono ?_
  rintro e w14 ⟨rfl, hb⟩
  replace P1 := Lib.hid (P1.out.below hb)
  replace P2 := Lib.hid (P2.out.below hb)
  replace P4 := Lib.hid (P4.out.below hb)
  replace HX := Lib.hid (HX.out.keep hb)
  replace HY := Lib.hid (HY.out.keep hb)
  replace X6 := Lib.hid (X6.out.keep hb)
  replace X9n := Lib.hid (X9n.out.keep hb)
  replace X10 := Lib.hid (X10.out.keep hb)
  replace X12n := Lib.hid (X12n.out.keep hb)
  replace X13 := Lib.hid (X13.out.keep hb)
  replace HV := Lib.hid (HV.out.below hb)
  replace HB := Lib.hid (HB.out.trans (hb.mono HB.out.size))
  clear hb
  have P1_l : g3 < w14.heap.size := P1.out.lt
  have P1_0 : w14.cell? ⟨g3, 0, none⟩ = some (.int .i64 2) := P1.out.cell 0
  have P1_1 : w14.cell? ⟨g3, 1, none⟩ = some (.string ⟨#[]⟩) := P1.out.cell 1
  have P1_2 : w14.cell? ⟨g3, 2, none⟩ = some (.string ⟨#[]⟩) := P1.out.cell 2
  have P1_3 : w14.cell? ⟨g3, 3, none⟩ = some (.int .i64 0) := P1.out.cell 3
  have P1_4 : w14.cell? ⟨g3, 4, none⟩ = some (.int .i64 0) := P1.out.cell 4
  have P1_5 : w14.cell? ⟨g3, 5, none⟩ = some (.int .i64 0) := P1.out.cell 5
  have P1_6 : w14.cell? ⟨g3, 6, none⟩ = some (.string ⟨#[]⟩) := P1.out.cell 6
  have P1_7 : w14.cell? ⟨g3, 7, none⟩ = some (.slice none 0 0) := P1.out.cell 7
  have P2_l : g3 + 1 < w14.heap.size := P2.out.lt
  have P2_0 : w14.cell? ⟨g3 + 1, 0, none⟩ = some (.int .i64 2) := P2.out.cell 0
  have P2_1 : w14.cell? ⟨g3 + 1, 1, none⟩ = some (.string ⟨#[]⟩) := P2.out.cell 1
  have P2_2 : w14.cell? ⟨g3 + 1, 2, none⟩ = some (.string ⟨#[]⟩) := P2.out.cell 2
  have P2_3 : w14.cell? ⟨g3 + 1, 3, none⟩ = some (.int .i64 1) := P2.out.cell 3
  have P2_4 : w14.cell? ⟨g3 + 1, 4, none⟩ = some (.int .i64 0) := P2.out.cell 4
  have P2_5 : w14.cell? ⟨g3 + 1, 5, none⟩ = some (.int .i64 0) := P2.out.cell 5
  have P2_6 : w14.cell? ⟨g3 + 1, 6, none⟩ = some (.string ⟨#[]⟩) := P2.out.cell 6
  have P2_7 : w14.cell? ⟨g3 + 1, 7, none⟩ = some (.slice none 0 0) := P2.out.cell 7
  have P4_l : g8 < w14.heap.size := P4.out.lt
  have P4_0 : w14.cell? ⟨g8, 0, none⟩ = some (.int .i64 12) := P4.out.cell 0
  have P4_1 : w14.cell? ⟨g8, 1, none⟩ = some (.string ⟨#[]⟩) := P4.out.cell 1
  have P4_2 : w14.cell? ⟨g8, 2, none⟩ = some (.string ⟨#[]⟩) := P4.out.cell 2
  have P4_3 : w14.cell? ⟨g8, 3, none⟩ = some (.int .i64 0) := P4.out.cell 3
  have P4_4 : w14.cell? ⟨g8, 4, none⟩ = some (.int .i64 0) := P4.out.cell 4
  have P4_5 : w14.cell? ⟨g8, 5, none⟩ = some (.int .i64 0) := P4.out.cell 5
  have P4_6 : w14.cell? ⟨g8, 6, none⟩ = some (.string ⟨#[]⟩) := P4.out.cell 6
  have P4_7 : w14.cell? ⟨g8, 7, none⟩ = some (.slice (some ⟨g5 + 1, 0, none⟩) 2 2) := P4.out.cell 7
  go_wp2_with fail
  clear P1_l P1_0 P1_1 P1_2 P1_3 P1_4 P1_5 P1_6 P1_7 P2_l P2_0 P2_1 P2_2 P2_3 P2_4 P2_5 P2_6 P2_7 P4_l P4_0 P4_1 P4_2 P4_3 P4_4 P4_5 P4_6 P4_7
  have cc := Constant_any (Ex.mk 7 ⟨#[]⟩ ⟨#[]⟩ 0 nul (some ⟨g13, 0, none⟩) 2 [(Ex.mk 3 ⟨#[]⟩ ⟨#[]⟩ 0 nul (some ⟨g10, 0, none⟩) 1 [(Ex.mk 1 ⟨#[]⟩ ⟨#[]⟩ 0 ⟨1, 7, ⟨#[]⟩⟩ none 0 [])]), (Ex.mk 1 ⟨#[]⟩ ⟨#[]⟩ 0 ⟨1, 2, ⟨#[]⟩⟩ none 0 [])]) w14 X13.out (ExSm.two (ExSm.one ExSm.leaf) ExSm.leaf)
  rw [show constM (Ex.mk 7 ⟨#[]⟩ ⟨#[]⟩ 0 nul (some ⟨g13, 0, none⟩) 2 [(Ex.mk 3 ⟨#[]⟩ ⟨#[]⟩ 0 nul (some ⟨g10, 0, none⟩) 1 [(Ex.mk 1 ⟨#[]⟩ ⟨#[]⟩ 0 ⟨1, 7, ⟨#[]⟩⟩ none 0 [])]), (Ex.mk 1 ⟨#[]⟩ ⟨#[]⟩ 0 ⟨1, 2, ⟨#[]⟩⟩ none 0 [])]) = iV (-4) by kernel_rfl, show colM (Ex.mk 7 ⟨#[]⟩ ⟨#[]⟩ 0 nul (some ⟨g13, 0, none⟩) 2 [(Ex.mk 3 ⟨#[]⟩ ⟨#[]⟩ 0 nul (some ⟨g10, 0, none⟩) 1 [(Ex.mk 1 ⟨#[]⟩ ⟨#[]⟩ 0 ⟨1, 7, ⟨#[]⟩⟩ none 0 [])]), (Ex.mk 1 ⟨#[]⟩ ⟨#[]⟩ 0 ⟨1, 2, ⟨#[]⟩⟩ none 0 [])]) = false by kernel_rfl] at cc
  dsimp only [V3.agg, iV, nul] at cc
  refine (cc).mono ?_
  rintro e w15 ⟨rfl, hb⟩
  replace P1 := Lib.hid (P1.out.below hb)
  replace P2 := Lib.hid (P2.out.below hb)
  replace P4 := Lib.hid (P4.out.below hb)
  replace HX := Lib.hid (HX.out.keep hb)
  replace HY := Lib.hid (HY.out.keep hb)
  replace X6 := Lib.hid (X6.out.keep hb)
  replace X9n := Lib.hid (X9n.out.keep hb)
  replace X10 := Lib.hid (X10.out.keep hb)
  replace X12n := Lib.hid (X12n.out.keep hb)
  replace X13 := Lib.hid (X13.out.keep hb)
  replace HV := Lib.hid (HV.out.below hb)
  replace HB := Lib.hid (HB.out.trans (hb.mono HB.out.size))
  clear hb
  clear X9n X10 X12n X13
  have P1_l : g3 < w15.heap.size := P1.out.lt
  have P1_0 : w15.cell? ⟨g3, 0, none⟩ = some (.int .i64 2) := P1.out.cell 0
  have P1_1 : w15.cell? ⟨g3, 1, none⟩ = some (.string ⟨#[]⟩) := P1.out.cell 1
  have P1_2 : w15.cell? ⟨g3, 2, none⟩ = some (.string ⟨#[]⟩) := P1.out.cell 2
  have P1_3 : w15.cell? ⟨g3, 3, none⟩ = some (.int .i64 0) := P1.out.cell 3
  have P1_4 : w15.cell? ⟨g3, 4, none⟩ = some (.int .i64 0) := P1.out.cell 4
  have P1_5 : w15.cell? ⟨g3, 5, none⟩ = some (.int .i64 0) := P1.out.cell 5
  have P1_6 : w15.cell? ⟨g3, 6, none⟩ = some (.string ⟨#[]⟩) := P1.out.cell 6
  have P1_7 : w15.cell? ⟨g3, 7, none⟩ = some (.slice none 0 0) := P1.out.cell 7
  have P2_l : g3 + 1 < w15.heap.size := P2.out.lt
  have P2_0 : w15.cell? ⟨g3 + 1, 0, none⟩ = some (.int .i64 2) := P2.out.cell 0
  have P2_1 : w15.cell? ⟨g3 + 1, 1, none⟩ = some (.string ⟨#[]⟩) := P2.out.cell 1
  have P2_2 : w15.cell? ⟨g3 + 1, 2, none⟩ = some (.string ⟨#[]⟩) := P2.out.cell 2
  have P2_3 : w15.cell? ⟨g3 + 1, 3, none⟩ = some (.int .i64 1) := P2.out.cell 3
  have P2_4 : w15.cell? ⟨g3 + 1, 4, none⟩ = some (.int .i64 0) := P2.out.cell 4
  have P2_5 : w15.cell? ⟨g3 + 1, 5, none⟩ = some (.int .i64 0) := P2.out.cell 5
  have P2_6 : w15.cell? ⟨g3 + 1, 6, none⟩ = some (.string ⟨#[]⟩) := P2.out.cell 6
  have P2_7 : w15.cell? ⟨g3 + 1, 7, none⟩ = some (.slice none 0 0) := P2.out.cell 7
  have P4_l : g8 < w15.heap.size := P4.out.lt
  have P4_0 : w15.cell? ⟨g8, 0, none⟩ = some (.int .i64 12) := P4.out.cell 0
  have P4_1 : w15.cell? ⟨g8, 1, none⟩ = some (.string ⟨#[]⟩) := P4.out.cell 1
  have P4_2 : w15.cell? ⟨g8, 2, none⟩ = some (.string ⟨#[]⟩) := P4.out.cell 2
  have P4_3 : w15.cell? ⟨g8, 3, none⟩ = some (.int .i64 0) := P4.out.cell 3
  have P4_4 : w15.cell? ⟨g8, 4, none⟩ = some (.int .i64 0) := P4.out.cell 4
  have P4_5 : w15.cell? ⟨g8, 5, none⟩ = some (.int .i64 0) := P4.out.cell 5
  have P4_6 : w15.cell? ⟨g8, 6, none⟩ = some (.string ⟨#[]⟩) := P4.out.cell 6
  have P4_7 : w15.cell? ⟨g8, 7, none⟩ = some (.slice (some ⟨g5 + 1, 0, none⟩) 2 2) := P4.out.cell 7
  go_wp2_with fail
  clear P1_l P1_0 P1_1 P1_2 P1_3 P1_4 P1_5 P1_6 P1_7 P2_l P2_0 P2_1 P2_2 P2_3 P2_4 P2_5 P2_6 P2_7 P4_l P4_0 P4_1 P4_2 P4_3 P4_4 P4_5 P4_6 P4_7
  obtain ⟨w16, hw16⟩ : ∃ W, W = w15.alloc (.cells #[.int .i64 1, .int .i64 (-4), .string ⟨#[]⟩] 23) := ⟨_, rfl⟩
  rw [← hw16]
  have hb : Below w15.heap.size w15 w16 := by rw [hw16]; exact (Below.refl _ _).alloc (Nat.le_refl _) _
  have N16 := Lib.hid (show Blk w16 w15.heap.size 23 #[.int .i64 1, .int .i64 (-4), .string ⟨#[]⟩] by rw [hw16]; exact Blk.new _ _ _)
  have Z16 := Lib.hid (show w16.heap.size = w15.heap.size + 1 by rw [hw16]; simp)
  clear hw16
  replace P1 := Lib.hid (P1.out.below hb)
  replace P2 := Lib.hid (P2.out.below hb)
  replace P4 := Lib.hid (P4.out.below hb)
  replace HX := Lib.hid (HX.out.keep hb)
  replace HY := Lib.hid (HY.out.keep hb)
  replace X6 := Lib.hid (X6.out.keep hb)
  replace HV := Lib.hid (HV.out.below hb)
  replace HB := Lib.hid (HB.out.trans (hb.mono HB.out.size))
  generalize w15.heap.size = g16 at *
  clear hb
  have P5 := N16
  clear N16
  have P1_l : g3 < w16.heap.size := P1.out.lt
  have P1_0 : w16.cell? ⟨g3, 0, none⟩ = some (.int .i64 2) := P1.out.cell 0
  have P1_1 : w16.cell? ⟨g3, 1, none⟩ = some (.string ⟨#[]⟩) := P1.out.cell 1
  have P1_2 : w16.cell? ⟨g3, 2, none⟩ = some (.string ⟨#[]⟩) := P1.out.cell 2
  have P1_3 : w16.cell? ⟨g3, 3, none⟩ = some (.int .i64 0) := P1.out.cell 3
  have P1_4 : w16.cell? ⟨g3, 4, none⟩ = some (.int .i64 0) := P1.out.cell 4
  have P1_5 : w16.cell? ⟨g3, 5, none⟩ = some (.int .i64 0) := P1.out.cell 5
  have P1_6 : w16.cell? ⟨g3, 6, none⟩ = some (.string ⟨#[]⟩) := P1.out.cell 6
  have P1_7 : w16.cell? ⟨g3, 7, none⟩ = some (.slice none 0 0) := P1.out.cell 7
  have P2_l : g3 + 1 < w16.heap.size := P2.out.lt
  have P2_0 : w16.cell? ⟨g3 + 1, 0, none⟩ = some (.int .i64 2) := P2.out.cell 0
  have P2_1 : w16.cell? ⟨g3 + 1, 1, none⟩ = some (.string ⟨#[]⟩) := P2.out.cell 1
  have P2_2 : w16.cell? ⟨g3 + 1, 2, none⟩ = some (.string ⟨#[]⟩) := P2.out.cell 2
  have P2_3 : w16.cell? ⟨g3 + 1, 3, none⟩ = some (.int .i64 1) := P2.out.cell 3
  have P2_4 : w16.cell? ⟨g3 + 1, 4, none⟩ = some (.int .i64 0) := P2.out.cell 4
  have P2_5 : w16.cell? ⟨g3 + 1, 5, none⟩ = some (.int .i64 0) := P2.out.cell 5
  have P2_6 : w16.cell? ⟨g3 + 1, 6, none⟩ = some (.string ⟨#[]⟩) := P2.out.cell 6
  have P2_7 : w16.cell? ⟨g3 + 1, 7, none⟩ = some (.slice none 0 0) := P2.out.cell 7
  have P4_l : g8 < w16.heap.size := P4.out.lt
  have P4_0 : w16.cell? ⟨g8, 0, none⟩ = some (.int .i64 12) := P4.out.cell 0
  have P4_1 : w16.cell? ⟨g8, 1, none⟩ = some (.string ⟨#[]⟩) := P4.out.cell 1
  have P4_2 : w16.cell? ⟨g8, 2, none⟩ = some (.string ⟨#[]⟩) := P4.out.cell 2
  have P4_3 : w16.cell? ⟨g8, 3, none⟩ = some (.int .i64 0) := P4.out.cell 3
  have P4_4 : w16.cell? ⟨g8, 4, none⟩ = some (.int .i64 0) := P4.out.cell 4
  have P4_5 : w16.cell? ⟨g8, 5, none⟩ = some (.int .i64 0) := P4.out.cell 5
  have P4_6 : w16.cell? ⟨g8, 6, none⟩ = some (.string ⟨#[]⟩) := P4.out.cell 6
  have P4_7 : w16.cell? ⟨g8, 7, none⟩ = some (.slice (some ⟨g5 + 1, 0, none⟩) 2 2) := P4.out.cell 7
  have P5_l : g16 < w16.heap.size := P5.out.lt
  have P5_0 : w16.cell? ⟨g16, 0, none⟩ = some (.int .i64 1) := P5.out.cell 0
  have P5_1 : w16.cell? ⟨g16, 1, none⟩ = some (.int .i64 (-4)) := P5.out.cell 1
  have P5_2 : w16.cell? ⟨g16, 2, none⟩ = some (.string ⟨#[]⟩) := P5.out.cell 2
  go_wp2_with fail
  clear P1_l P1_0 P1_1 P1_2 P1_3 P1_4 P1_5 P1_6 P1_7 P2_l P2_0 P2_1 P2_2 P2_3 P2_4 P2_5 P2_6 P2_7 P4_l P4_0 P4_1 P4_2 P4_3 P4_4 P4_5 P4_6 P4_7 P5_l P5_0 P5_1 P5_2
  have cc := Constant_any (Ex.mk 2 ⟨#[]⟩ ⟨#[]⟩ 0 nul none 0 []) w16 HX.out ExSm.leaf
  rw [show constM (Ex.mk 2 ⟨#[]⟩ ⟨#[]⟩ 0 nul none 0 []) = nul by kernel_rfl, show colM (Ex.mk 2 ⟨#[]⟩ ⟨#[]⟩ 0 nul none 0 []) = true by kernel_rfl] at cc
  dsimp only [V3.agg, iV, nul] at cc
  refine (cc).mono ?_
  rintro e w17 ⟨rfl, hb⟩
  replace P1 := Lib.hid (P1.out.below hb)
  replace P2 := Lib.hid (P2.out.below hb)
  replace P4 := Lib.hid (P4.out.below hb)
  replace P5 := Lib.hid (P5.out.below hb)
  replace HX := Lib.hid (HX.out.keep hb)
  replace HY := Lib.hid (HY.out.keep hb)
  replace X6 := Lib.hid (X6.out.keep hb)
  replace HV := Lib.hid (HV.out.below hb)
  replace HB := Lib.hid (HB.out.trans (hb.mono HB.out.size))
  clear hb
  have P1_l : g3 < w17.heap.size := P1.out.lt
  have P1_0 : w17.cell? ⟨g3, 0, none⟩ = some (.int .i64 2) := P1.out.cell 0
  have P1_1 : w17.cell? ⟨g3, 1, none⟩ = some (.string ⟨#[]⟩) := P1.out.cell 1
  have P1_2 : w17.cell? ⟨g3, 2, none⟩ = some (.string ⟨#[]⟩) := P1.out.cell 2
  have P1_3 : w17.cell? ⟨g3, 3, none⟩ = some (.int .i64 0) := P1.out.cell 3
  have P1_4 : w17.cell? ⟨g3, 4, none⟩ = some (.int .i64 0) := P1.out.cell 4
  have P1_5 : w17.cell? ⟨g3, 5, none⟩ = some (.int .i64 0) := P1.out.cell 5
  have P1_6 : w17.cell? ⟨g3, 6, none⟩ = some (.string ⟨#[]⟩) := P1.out.cell 6
  have P1_7 : w17.cell? ⟨g3, 7, none⟩ = some (.slice none 0 0) := P1.out.cell 7
  have P2_l : g3 + 1 < w17.heap.size := P2.out.lt
  have P2_0 : w17.cell? ⟨g3 + 1, 0, none⟩ = some (.int .i64 2) := P2.out.cell 0
  have P2_1 : w17.cell? ⟨g3 + 1, 1, none⟩ = some (.string ⟨#[]⟩) := P2.out.cell 1
  have P2_2 : w17.cell? ⟨g3 + 1, 2, none⟩ = some (.string ⟨#[]⟩) := P2.out.cell 2
  have P2_3 : w17.cell? ⟨g3 + 1, 3, none⟩ = some (.int .i64 1) := P2.out.cell 3
  have P2_4 : w17.cell? ⟨g3 + 1, 4, none⟩ = some (.int .i64 0) := P2.out.cell 4
  have P2_5 : w17.cell? ⟨g3 + 1, 5, none⟩ = some (.int .i64 0) := P2.out.cell 5
  have P2_6 : w17.cell? ⟨g3 + 1, 6, none⟩ = some (.string ⟨#[]⟩) := P2.out.cell 6
  have P2_7 : w17.cell? ⟨g3 + 1, 7, none⟩ = some (.slice none 0 0) := P2.out.cell 7
  have P4_l : g8 < w17.heap.size := P4.out.lt
  have P4_0 : w17.cell? ⟨g8, 0, none⟩ = some (.int .i64 12) := P4.out.cell 0
  have P4_1 : w17.cell? ⟨g8, 1, none⟩ = some (.string ⟨#[]⟩) := P4.out.cell 1
  have P4_2 : w17.cell? ⟨g8, 2, none⟩ = some (.string ⟨#[]⟩) := P4.out.cell 2
  have P4_3 : w17.cell? ⟨g8, 3, none⟩ = some (.int .i64 0) := P4.out.cell 3
  have P4_4 : w17.cell? ⟨g8, 4, none⟩ = some (.int .i64 0) := P4.out.cell 4
  have P4_5 : w17.cell? ⟨g8, 5, none⟩ = some (.int .i64 0) := P4.out.cell 5
  have P4_6 : w17.cell? ⟨g8, 6, none⟩ = some (.string ⟨#[]⟩) := P4.out.cell 6
  have P4_7 : w17.cell? ⟨g8, 7, none⟩ = some (.slice (some ⟨g5 + 1, 0, none⟩) 2 2) := P4.out.cell 7
  have P5_l : g16 < w17.heap.size := P5.out.lt
  have P5_0 : w17.cell? ⟨g16, 0, none⟩ = some (.int .i64 1) := P5.out.cell 0
  have P5_1 : w17.cell? ⟨g16, 1, none⟩ = some (.int .i64 (-4)) := P5.out.cell 1
  have P5_2 : w17.cell? ⟨g16, 2, none⟩ = some (.string ⟨#[]⟩) := P5.out.cell 2
  go_wp2_with fail
  clear P1_l P1_0 P1_1 P1_2 P1_3 P1_4 P1_5 P1_6 P1_7 P2_l P2_0 P2_1 P2_2 P2_3 P2_4 P2_5 P2_6 P2_7 P4_l P4_0 P4_1 P4_2 P4_3 P4_4 P4_5 P4_6 P4_7 P5_l P5_0 P5_1 P5_2
  obtain ⟨w18, hw18⟩ : ∃ W, W = w17.alloc (.cells #[.int .i64 0, .int .i64 0, .string ⟨#[]⟩] 23) := ⟨_, rfl⟩
  rw [← hw18]
  have hb : Below w17.heap.size w17 w18 := by rw [hw18]; exact (Below.refl _ _).alloc (Nat.le_refl _) _
  have N18 := Lib.hid (show Blk w18 w17.heap.size 23 #[.int .i64 0, .int .i64 0, .string ⟨#[]⟩] by rw [hw18]; exact Blk.new _ _ _)
  have Z18 := Lib.hid (show w18.heap.size = w17.heap.size + 1 by rw [hw18]; simp)
  clear hw18
  replace P1 := Lib.hid (P1.out.below hb)
  replace P2 := Lib.hid (P2.out.below hb)
  replace P4 := Lib.hid (P4.out.below hb)
  replace P5 := Lib.hid (P5.out.below hb)
  replace HX := Lib.hid (HX.out.keep hb)
  replace HY := Lib.hid (HY.out.keep hb)
  replace X6 := Lib.hid (X6.out.keep hb)
  replace HV := Lib.hid (HV.out.below hb)
  replace HB := Lib.hid (HB.out.trans (hb.mono HB.out.size))
  generalize w17.heap.size = g18 at *
  clear hb
  clear N18
  have hbz : Below w18.heap.size w18 w18.drew := below_drew (Below.refl _ _)
  have P1_0 : w18.cell? ⟨g3, 0, none⟩ = some (.int .i64 2) := P1.out.cell 0
  have P1_1 : w18.cell? ⟨g3, 1, none⟩ = some (.string ⟨#[]⟩) := P1.out.cell 1
  have P1_2 : w18.cell? ⟨g3, 2, none⟩ = some (.string ⟨#[]⟩) := P1.out.cell 2
  have P1_3 : w18.cell? ⟨g3, 3, none⟩ = some (.int .i64 0) := P1.out.cell 3
  have P1_4 : w18.cell? ⟨g3, 4, none⟩ = some (.int .i64 0) := P1.out.cell 4
  have P1_5 : w18.cell? ⟨g3, 5, none⟩ = some (.int .i64 0) := P1.out.cell 5
  have P1_6 : w18.cell? ⟨g3, 6, none⟩ = some (.string ⟨#[]⟩) := P1.out.cell 6
  have P1_7 : w18.cell? ⟨g3, 7, none⟩ = some (.slice none 0 0) := P1.out.cell 7
  have P2_0 : w18.cell? ⟨g3 + 1, 0, none⟩ = some (.int .i64 2) := P2.out.cell 0
  have P2_1 : w18.cell? ⟨g3 + 1, 1, none⟩ = some (.string ⟨#[]⟩) := P2.out.cell 1
  have P2_2 : w18.cell? ⟨g3 + 1, 2, none⟩ = some (.string ⟨#[]⟩) := P2.out.cell 2
  have P2_3 : w18.cell? ⟨g3 + 1, 3, none⟩ = some (.int .i64 1) := P2.out.cell 3
  have P2_4 : w18.cell? ⟨g3 + 1, 4, none⟩ = some (.int .i64 0) := P2.out.cell 4
  have P2_5 : w18.cell? ⟨g3 + 1, 5, none⟩ = some (.int .i64 0) := P2.out.cell 5
  have P2_6 : w18.cell? ⟨g3 + 1, 6, none⟩ = some (.string ⟨#[]⟩) := P2.out.cell 6
  have P2_7 : w18.cell? ⟨g3 + 1, 7, none⟩ = some (.slice none 0 0) := P2.out.cell 7
  have P4_0 : w18.cell? ⟨g8, 0, none⟩ = some (.int .i64 12) := P4.out.cell 0
  have P4_1 : w18.cell? ⟨g8, 1, none⟩ = some (.string ⟨#[]⟩) := P4.out.cell 1
  have P4_2 : w18.cell? ⟨g8, 2, none⟩ = some (.string ⟨#[]⟩) := P4.out.cell 2
  have P4_3 : w18.cell? ⟨g8, 3, none⟩ = some (.int .i64 0) := P4.out.cell 3
  have P4_4 : w18.cell? ⟨g8, 4, none⟩ = some (.int .i64 0) := P4.out.cell 4
  have P4_5 : w18.cell? ⟨g8, 5, none⟩ = some (.int .i64 0) := P4.out.cell 5
  have P4_6 : w18.cell? ⟨g8, 6, none⟩ = some (.string ⟨#[]⟩) := P4.out.cell 6
  have P4_7 : w18.cell? ⟨g8, 7, none⟩ = some (.slice (some ⟨g5 + 1, 0, none⟩) 2 2) := P4.out.cell 7
  have P5_0 : w18.cell? ⟨g16, 0, none⟩ = some (.int .i64 1) := P5.out.cell 0
  have P5_1 : w18.cell? ⟨g16, 1, none⟩ = some (.int .i64 (-4)) := P5.out.cell 1
  have P5_2 : w18.cell? ⟨g16, 2, none⟩ = some (.string ⟨#[]⟩) := P5.out.cell 2
  refine wp_region_mix 90 (fun w' => Below w18.heap.size w18 w') (by kernel_rfl) (by decide) ?_
  have LESS := X6
  generalize w18.drew = v0 at hbz ⊢
  refine wpM_take (i := 0) (oi := ⟨some 33, _, _, _, _, _⟩) (v := ?_) rfl (by decide +kernel) (by decide +kernel) (by decide +kernel) (fun _ _ _ h => h) (Or.inl ⟨by rfl, ?_⟩) hbz ?_
  case refine_2 =>
    intro w' hSw
    have P1_0' := keepcell hSw P1_0
    have P1_1' := keepcell hSw P1_1
    have P1_2' := keepcell hSw P1_2
    have P1_3' := keepcell hSw P1_3
    have P1_4' := keepcell hSw P1_4
    have P1_5' := keepcell hSw P1_5
    have P1_6' := keepcell hSw P1_6
    have P1_7' := keepcell hSw P1_7
    have P2_0' := keepcell hSw P2_0
    have P2_1' := keepcell hSw P2_1
    have P2_2' := keepcell hSw P2_2
    have P2_3' := keepcell hSw P2_3
    have P2_4' := keepcell hSw P2_4
    have P2_5' := keepcell hSw P2_5
    have P2_6' := keepcell hSw P2_6
    have P2_7' := keepcell hSw P2_7
    have P4_0' := keepcell hSw P4_0
    have P4_1' := keepcell hSw P4_1
    have P4_2' := keepcell hSw P4_2
    have P4_3' := keepcell hSw P4_3
    have P4_4' := keepcell hSw P4_4
    have P4_5' := keepcell hSw P4_5
    have P4_6' := keepcell hSw P4_6
    have P4_7' := keepcell hSw P4_7
    have P5_0' := keepcell hSw P5_0
    have P5_1' := keepcell hSw P5_1
    have P5_2' := keepcell hSw P5_2
    go_simp
    try (with_reducible rfl)
  try simp only [Act.put, List.setIfInBounds_toArray, List.set_cons_zero, List.set_cons_succ]
  refine wpM_take (i := 4) (oi := ⟨some 37, _, _, _, _, _⟩) (v := ?_) rfl (by decide +kernel) (by decide +kernel) (by decide +kernel) (fun _ _ _ h => h) (Or.inl ⟨by rfl, ?_⟩) hbz ?_
  case refine_2 =>
    intro w' hSw
    have P1_0' := keepcell hSw P1_0
    have P1_1' := keepcell hSw P1_1
    have P1_2' := keepcell hSw P1_2
    have P1_3' := keepcell hSw P1_3
    have P1_4' := keepcell hSw P1_4
    have P1_5' := keepcell hSw P1_5
    have P1_6' := keepcell hSw P1_6
    have P1_7' := keepcell hSw P1_7
    have P2_0' := keepcell hSw P2_0
    have P2_1' := keepcell hSw P2_1
    have P2_2' := keepcell hSw P2_2
    have P2_3' := keepcell hSw P2_3
    have P2_4' := keepcell hSw P2_4
    have P2_5' := keepcell hSw P2_5
    have P2_6' := keepcell hSw P2_6
    have P2_7' := keepcell hSw P2_7
    have P4_0' := keepcell hSw P4_0
    have P4_1' := keepcell hSw P4_1
    have P4_2' := keepcell hSw P4_2
    have P4_3' := keepcell hSw P4_3
    have P4_4' := keepcell hSw P4_4
    have P4_5' := keepcell hSw P4_5
    have P4_6' := keepcell hSw P4_6
    have P4_7' := keepcell hSw P4_7
    have P5_0' := keepcell hSw P5_0
    have P5_1' := keepcell hSw P5_1
    have P5_2' := keepcell hSw P5_2
    go_simp
    try (with_reducible rfl)
  try simp only [Act.put, List.setIfInBounds_toArray, List.set_cons_zero, List.set_cons_succ]
  refine wpM_step (i := 1) (o := ⟨some 34, _, _, _, _, _⟩) rfl (by decide +kernel) (by decide) (fun K hK => ?_)
  go_simp
  refine (number_any 2 _).mono ?_
  rintro e v1 ⟨rfl, q1⟩
  have b1 : Below w18.heap.size w18 v1 := hbz.trans (q1.mono hbz.size)
  clear q1
  refine hK.out _ _ b1 ?_
  clear hK K
  try simp only [Act.put, List.setIfInBounds_toArray, List.set_cons_zero, List.set_cons_succ]
  have T1n := Lib.hid (ExAt.leaf (W := v1) 1 0 (v := ⟨1, 2, ⟨#[]⟩⟩) (show V3.ok ⟨1, 2, ⟨#[]⟩⟩ by refine ⟨by decide, by decide, by decide, by decide, by decide⟩))
  refine wpM_step (i := 2) (o := ⟨some 35, _, _, _, _, _⟩) rfl (by decide +kernel) (by decide) (fun K hK => ?_)
  go_simp
  obtain ⟨v2, h2⟩ : ∃ W, W = v1.alloc (.cells #[.int .i64 2, .string ⟨#[]⟩, .string ⟨#[]⟩, .int .i64 0, .int .i64 0, .int .i64 0, .string ⟨#[]⟩, .slice none 0 0, .int .i64 1, .string ⟨#[]⟩, .string ⟨#[]⟩, .int .i64 0, .int .i64 1, .int .i64 2, .string ⟨#[]⟩, .slice none 0 0] 26) := ⟨_, rfl⟩
  rw [← h2]
  have q2 : Below v1.heap.size v1 v2 := by rw [h2]; exact (Below.refl _ _).alloc (Nat.le_refl _) _
  have b2 : Below w18.heap.size w18 v2 := b1.trans (q2.mono b1.size)
  have N2z := Lib.hid (show Blk v2 v1.heap.size 26 #[.int .i64 2, .string ⟨#[]⟩, .string ⟨#[]⟩, .int .i64 0, .int .i64 0, .int .i64 0, .string ⟨#[]⟩, .slice none 0 0, .int .i64 1, .string ⟨#[]⟩, .string ⟨#[]⟩, .int .i64 0, .int .i64 1, .int .i64 2, .string ⟨#[]⟩, .slice none 0 0] by rw [h2]; exact Blk.new _ _ _)
  clear h2
  replace T1n := Lib.hid (T1n.out.keep q2)
  clear q2
  generalize v1.heap.size = m2 at *
  have T2 : Hid (ExAt v2 (Ex.mk 7 ⟨#[]⟩ ⟨#[]⟩ 0 nul (some ⟨m2, 0, none⟩) 2 [(Ex.mk 2 ⟨#[]⟩ ⟨#[]⟩ 0 nul none 0 []), (Ex.mk 1 ⟨#[]⟩ ⟨#[]⟩ 0 ⟨1, 2, ⟨#[]⟩⟩ none 0 [])])) := Lib.hid (ExAt.built 7 (args := [(Ex.mk 2 ⟨#[]⟩ ⟨#[]⟩ 0 nul none 0 []), (Ex.mk 1 ⟨#[]⟩ ⟨#[]⟩ 0 ⟨1, 2, ⟨#[]⟩⟩ none 0 [])]) N2z.out (show 2 ≤ 1000 by decide) (fun z hz => by simp at hz; rcases hz with rfl | rfl; exact (HX.out.keep b2); exact T1n.out))
  clear N2z
  refine hK.out _ _ b2 ?_
  clear hK K
  try simp only [Act.put, List.setIfInBounds_toArray, List.set_cons_zero, List.set_cons_succ]
  refine wpM_step (i := 3) (o := ⟨some 36, _, _, _, _, _⟩) rfl (by decide +kernel) (by decide) (fun K hK => ?_)
  go_simp
  refine (node_any 7 _ _ _ _).mono ?_
  rintro e v3 ⟨rfl, q3⟩
  have b3 : Below w18.heap.size w18 v3 := b2.trans (q3.mono b2.size)
  replace T1n := Lib.hid (T1n.out.keep q3)
  replace T2 := Lib.hid (T2.out.keep q3)
  clear q3
  refine hK.out _ _ b3 ?_
  clear hK K
  try simp only [Act.put, List.setIfInBounds_toArray, List.set_cons_zero, List.set_cons_succ]
  refine wpM_step (i := 5) (o := ⟨some 38, _, _, _, _, _⟩) rfl (by decide +kernel) (by decide) (fun K hK => ?_)
  go_simp
  have cc := Value_any [iV (-7), nul] (Ex.mk 7 ⟨#[]⟩ ⟨#[]⟩ 0 nul (some ⟨m2, 0, none⟩) 2 [(Ex.mk 2 ⟨#[]⟩ ⟨#[]⟩ 0 nul none 0 []), (Ex.mk 1 ⟨#[]⟩ ⟨#[]⟩ 0 ⟨1, 2, ⟨#[]⟩⟩ none 0 [])]) v3 (some ⟨g5, 0, none⟩) 2 2 T2.out (ExSm.two ExSm.leaf ExSm.leaf) (HV.out.below b3) (by decide) (fun v hv => by simp at hv; rcases hv with rfl | rfl; exact iV_ok (by decide); exact nul_ok)
  rw [show evM [iV (-7), nul] (Ex.mk 7 ⟨#[]⟩ ⟨#[]⟩ 0 nul (some ⟨m2, 0, none⟩) 2 [(Ex.mk 2 ⟨#[]⟩ ⟨#[]⟩ 0 nul none 0 []), (Ex.mk 1 ⟨#[]⟩ ⟨#[]⟩ 0 ⟨1, 2, ⟨#[]⟩⟩ none 0 [])]) = iV (-4) by kernel_rfl] at cc
  dsimp only [V3.agg, iV, nul] at cc
  refine (cc).mono ?_
  rintro e v4 ⟨rfl, q4⟩
  have b4 : Below w18.heap.size w18 v4 := b3.trans (q4.mono b3.size)
  replace T1n := Lib.hid (T1n.out.keep q4)
  replace T2 := Lib.hid (T2.out.keep q4)
  clear q4
  refine hK.out _ _ b4 ?_
  clear hK K
  try simp only [Act.put, List.setIfInBounds_toArray, List.set_cons_zero, List.set_cons_succ]
  clear T1n T2
  refine wpM_step (i := 6) (o := ⟨some 39, _, _, _, _, _⟩) rfl (by decide +kernel) (by decide) (fun K hK => ?_)
  go_simp
  refine (integer_any (-4) _).mono ?_
  rintro e v5 ⟨rfl, q5⟩
  have b5 : Below w18.heap.size w18 v5 := b4.trans (q5.mono b4.size)
  clear q5
  refine hK.out _ _ b5 ?_
  clear hK K
  try simp only [Act.put, List.setIfInBounds_toArray, List.set_cons_zero, List.set_cons_succ]
  refine wpM_take (i := 7) (oi := ⟨some 40, _, _, _, _, _⟩) (v := ?_) rfl (by decide +kernel) (by decide +kernel) (by decide +kernel) (fun _ _ _ h => h) (Or.inl ⟨by rfl, ?_⟩) b5 ?_
  case refine_2 =>
    intro w' hSw
    have P1_0' := keepcell hSw P1_0
    have P1_1' := keepcell hSw P1_1
    have P1_2' := keepcell hSw P1_2
    have P1_3' := keepcell hSw P1_3
    have P1_4' := keepcell hSw P1_4
    have P1_5' := keepcell hSw P1_5
    have P1_6' := keepcell hSw P1_6
    have P1_7' := keepcell hSw P1_7
    have P2_0' := keepcell hSw P2_0
    have P2_1' := keepcell hSw P2_1
    have P2_2' := keepcell hSw P2_2
    have P2_3' := keepcell hSw P2_3
    have P2_4' := keepcell hSw P2_4
    have P2_5' := keepcell hSw P2_5
    have P2_6' := keepcell hSw P2_6
    have P2_7' := keepcell hSw P2_7
    have P4_0' := keepcell hSw P4_0
    have P4_1' := keepcell hSw P4_1
    have P4_2' := keepcell hSw P4_2
    have P4_3' := keepcell hSw P4_3
    have P4_4' := keepcell hSw P4_4
    have P4_5' := keepcell hSw P4_5
    have P4_6' := keepcell hSw P4_6
    have P4_7' := keepcell hSw P4_7
    have P5_0' := keepcell hSw P5_0
    have P5_1' := keepcell hSw P5_1
    have P5_2' := keepcell hSw P5_2
    go_simp
    try (with_reducible rfl)
  try simp only [Act.put, List.setIfInBounds_toArray, List.set_cons_zero, List.set_cons_succ]
  refine wpM_take (i := 8) (oi := ⟨some 41, _, _, _, _, _⟩) (v := ?_) rfl (by decide +kernel) (by decide +kernel) (by decide +kernel) (fun _ _ _ h => h) (Or.inl ⟨by rfl, ?_⟩) b5 ?_
  case refine_2 =>
    intro w' hSw
    have P1_0' := keepcell hSw P1_0
    have P1_1' := keepcell hSw P1_1
    have P1_2' := keepcell hSw P1_2
    have P1_3' := keepcell hSw P1_3
    have P1_4' := keepcell hSw P1_4
    have P1_5' := keepcell hSw P1_5
    have P1_6' := keepcell hSw P1_6
    have P1_7' := keepcell hSw P1_7
    have P2_0' := keepcell hSw P2_0
    have P2_1' := keepcell hSw P2_1
    have P2_2' := keepcell hSw P2_2
    have P2_3' := keepcell hSw P2_3
    have P2_4' := keepcell hSw P2_4
    have P2_5' := keepcell hSw P2_5
    have P2_6' := keepcell hSw P2_6
    have P2_7' := keepcell hSw P2_7
    have P4_0' := keepcell hSw P4_0
    have P4_1' := keepcell hSw P4_1
    have P4_2' := keepcell hSw P4_2
    have P4_3' := keepcell hSw P4_3
    have P4_4' := keepcell hSw P4_4
    have P4_5' := keepcell hSw P4_5
    have P4_6' := keepcell hSw P4_6
    have P4_7' := keepcell hSw P4_7
    have P5_0' := keepcell hSw P5_0
    have P5_1' := keepcell hSw P5_1
    have P5_2' := keepcell hSw P5_2
    go_simp
    try (with_reducible rfl)
  try simp only [Act.put, List.setIfInBounds_toArray, List.set_cons_zero, List.set_cons_succ]
  refine wpM_take (i := 9) (oi := ⟨some 42, _, _, _, _, _⟩) (v := ?_) rfl (by decide +kernel) (by decide +kernel) (by decide +kernel) (fun _ _ _ h => h) (Or.inl ⟨by rfl, ?_⟩) b5 ?_
  case refine_2 =>
    intro w' hSw
    have P1_0' := keepcell hSw P1_0
    have P1_1' := keepcell hSw P1_1
    have P1_2' := keepcell hSw P1_2
    have P1_3' := keepcell hSw P1_3
    have P1_4' := keepcell hSw P1_4
    have P1_5' := keepcell hSw P1_5
    have P1_6' := keepcell hSw P1_6
    have P1_7' := keepcell hSw P1_7
    have P2_0' := keepcell hSw P2_0
    have P2_1' := keepcell hSw P2_1
    have P2_2' := keepcell hSw P2_2
    have P2_3' := keepcell hSw P2_3
    have P2_4' := keepcell hSw P2_4
    have P2_5' := keepcell hSw P2_5
    have P2_6' := keepcell hSw P2_6
    have P2_7' := keepcell hSw P2_7
    have P4_0' := keepcell hSw P4_0
    have P4_1' := keepcell hSw P4_1
    have P4_2' := keepcell hSw P4_2
    have P4_3' := keepcell hSw P4_3
    have P4_4' := keepcell hSw P4_4
    have P4_5' := keepcell hSw P4_5
    have P4_6' := keepcell hSw P4_6
    have P4_7' := keepcell hSw P4_7
    have P5_0' := keepcell hSw P5_0
    have P5_1' := keepcell hSw P5_1
    have P5_2' := keepcell hSw P5_2
    go_simp
    try (with_reducible rfl)
  try simp only [Act.put, List.setIfInBounds_toArray, List.set_cons_zero, List.set_cons_succ]
  refine wpM_take (i := 13) (oi := ⟨some 46, _, _, _, _, _⟩) (v := ?_) rfl (by decide +kernel) (by decide +kernel) (by decide +kernel) (fun _ _ _ h => h) (Or.inl ⟨by rfl, ?_⟩) b5 ?_
  case refine_2 =>
    intro w' hSw
    have P1_0' := keepcell hSw P1_0
    have P1_1' := keepcell hSw P1_1
    have P1_2' := keepcell hSw P1_2
    have P1_3' := keepcell hSw P1_3
    have P1_4' := keepcell hSw P1_4
    have P1_5' := keepcell hSw P1_5
    have P1_6' := keepcell hSw P1_6
    have P1_7' := keepcell hSw P1_7
    have P2_0' := keepcell hSw P2_0
    have P2_1' := keepcell hSw P2_1
    have P2_2' := keepcell hSw P2_2
    have P2_3' := keepcell hSw P2_3
    have P2_4' := keepcell hSw P2_4
    have P2_5' := keepcell hSw P2_5
    have P2_6' := keepcell hSw P2_6
    have P2_7' := keepcell hSw P2_7
    have P4_0' := keepcell hSw P4_0
    have P4_1' := keepcell hSw P4_1
    have P4_2' := keepcell hSw P4_2
    have P4_3' := keepcell hSw P4_3
    have P4_4' := keepcell hSw P4_4
    have P4_5' := keepcell hSw P4_5
    have P4_6' := keepcell hSw P4_6
    have P4_7' := keepcell hSw P4_7
    have P5_0' := keepcell hSw P5_0
    have P5_1' := keepcell hSw P5_1
    have P5_2' := keepcell hSw P5_2
    go_simp
    try (with_reducible rfl)
  try simp only [Act.put, List.setIfInBounds_toArray, List.set_cons_zero, List.set_cons_succ]
  refine wpM_step (i := 10) (o := ⟨some 43, _, _, _, _, _⟩) rfl (by decide +kernel) (by decide) (fun K hK => ?_)
  go_simp
  refine (number_any 2 _).mono ?_
  rintro e v6 ⟨rfl, q6⟩
  have b6 : Below w18.heap.size w18 v6 := b5.trans (q6.mono b5.size)
  clear q6
  refine hK.out _ _ b6 ?_
  clear hK K
  try simp only [Act.put, List.setIfInBounds_toArray, List.set_cons_zero, List.set_cons_succ]
  have T6n := Lib.hid (ExAt.leaf (W := v6) 1 0 (v := ⟨1, 2, ⟨#[]⟩⟩) (show V3.ok ⟨1, 2, ⟨#[]⟩⟩ by refine ⟨by decide, by decide, by decide, by decide, by decide⟩))
  refine wpM_step (i := 11) (o := ⟨some 44, _, _, _, _, _⟩) rfl (by decide +kernel) (by decide) (fun K hK => ?_)
  go_simp
  obtain ⟨v7, h7⟩ : ∃ W, W = v6.alloc (.cells #[.int .i64 2, .string ⟨#[]⟩, .string ⟨#[]⟩, .int .i64 0, .int .i64 0, .int .i64 0, .string ⟨#[]⟩, .slice none 0 0, .int .i64 1, .string ⟨#[]⟩, .string ⟨#[]⟩, .int .i64 0, .int .i64 1, .int .i64 2, .string ⟨#[]⟩, .slice none 0 0] 26) := ⟨_, rfl⟩
  rw [← h7]
  have q7 : Below v6.heap.size v6 v7 := by rw [h7]; exact (Below.refl _ _).alloc (Nat.le_refl _) _
  have b7 : Below w18.heap.size w18 v7 := b6.trans (q7.mono b6.size)
  have N7z := Lib.hid (show Blk v7 v6.heap.size 26 #[.int .i64 2, .string ⟨#[]⟩, .string ⟨#[]⟩, .int .i64 0, .int .i64 0, .int .i64 0, .string ⟨#[]⟩, .slice none 0 0, .int .i64 1, .string ⟨#[]⟩, .string ⟨#[]⟩, .int .i64 0, .int .i64 1, .int .i64 2, .string ⟨#[]⟩, .slice none 0 0] by rw [h7]; exact Blk.new _ _ _)
  clear h7
  replace T6n := Lib.hid (T6n.out.keep q7)
  clear q7
  generalize v6.heap.size = m7 at *
  have T7 : Hid (ExAt v7 (Ex.mk 8 ⟨#[]⟩ ⟨#[]⟩ 0 nul (some ⟨m7, 0, none⟩) 2 [(Ex.mk 2 ⟨#[]⟩ ⟨#[]⟩ 0 nul none 0 []), (Ex.mk 1 ⟨#[]⟩ ⟨#[]⟩ 0 ⟨1, 2, ⟨#[]⟩⟩ none 0 [])])) := Lib.hid (ExAt.built 8 (args := [(Ex.mk 2 ⟨#[]⟩ ⟨#[]⟩ 0 nul none 0 []), (Ex.mk 1 ⟨#[]⟩ ⟨#[]⟩ 0 ⟨1, 2, ⟨#[]⟩⟩ none 0 [])]) N7z.out (show 2 ≤ 1000 by decide) (fun z hz => by simp at hz; rcases hz with rfl | rfl; exact (HX.out.keep b7); exact T6n.out))
  clear N7z
  refine hK.out _ _ b7 ?_
  clear hK K
  try simp only [Act.put, List.setIfInBounds_toArray, List.set_cons_zero, List.set_cons_succ]
  refine wpM_step (i := 12) (o := ⟨some 45, _, _, _, _, _⟩) rfl (by decide +kernel) (by decide) (fun K hK => ?_)
  go_simp
  refine (node_any 8 _ _ _ _).mono ?_
  rintro e v8 ⟨rfl, q8⟩
  have b8 : Below w18.heap.size w18 v8 := b7.trans (q8.mono b7.size)
  replace T6n := Lib.hid (T6n.out.keep q8)
  replace T7 := Lib.hid (T7.out.keep q8)
  clear q8
  refine hK.out _ _ b8 ?_
  clear hK K
  try simp only [Act.put, List.setIfInBounds_toArray, List.set_cons_zero, List.set_cons_succ]
  refine wpM_step (i := 14) (o := ⟨some 47, _, _, _, _, _⟩) rfl (by decide +kernel) (by decide) (fun K hK => ?_)
  go_simp
  have cc := Value_any [iV (-7), nul] (Ex.mk 8 ⟨#[]⟩ ⟨#[]⟩ 0 nul (some ⟨m7, 0, none⟩) 2 [(Ex.mk 2 ⟨#[]⟩ ⟨#[]⟩ 0 nul none 0 []), (Ex.mk 1 ⟨#[]⟩ ⟨#[]⟩ 0 ⟨1, 2, ⟨#[]⟩⟩ none 0 [])]) v8 (some ⟨g5, 0, none⟩) 2 2 T7.out (ExSm.two ExSm.leaf ExSm.leaf) (HV.out.below b8) (by decide) (fun v hv => by simp at hv; rcases hv with rfl | rfl; exact iV_ok (by decide); exact nul_ok)
  rw [show evM [iV (-7), nul] (Ex.mk 8 ⟨#[]⟩ ⟨#[]⟩ 0 nul (some ⟨m7, 0, none⟩) 2 [(Ex.mk 2 ⟨#[]⟩ ⟨#[]⟩ 0 nul none 0 []), (Ex.mk 1 ⟨#[]⟩ ⟨#[]⟩ 0 ⟨1, 2, ⟨#[]⟩⟩ none 0 [])]) = iV 1 by kernel_rfl] at cc
  dsimp only [V3.agg, iV, nul] at cc
  refine (cc).mono ?_
  rintro e v9 ⟨rfl, q9⟩
  have b9 : Below w18.heap.size w18 v9 := b8.trans (q9.mono b8.size)
  replace T6n := Lib.hid (T6n.out.keep q9)
  replace T7 := Lib.hid (T7.out.keep q9)
  clear q9
  refine hK.out _ _ b9 ?_
  clear hK K
  try simp only [Act.put, List.setIfInBounds_toArray, List.set_cons_zero, List.set_cons_succ]
  clear T6n T7
  refine wpM_step (i := 15) (o := ⟨some 48, _, _, _, _, _⟩) rfl (by decide +kernel) (by decide) (fun K hK => ?_)
  go_simp
  refine (integer_any 1 _).mono ?_
  rintro e v10 ⟨rfl, q10⟩
  have b10 : Below w18.heap.size w18 v10 := b9.trans (q10.mono b9.size)
  clear q10
  refine hK.out _ _ b10 ?_
  clear hK K
  try simp only [Act.put, List.setIfInBounds_toArray, List.set_cons_zero, List.set_cons_succ]
  refine wpM_take (i := 16) (oi := ⟨some 49, _, _, _, _, _⟩) (v := ?_) rfl (by decide +kernel) (by decide +kernel) (by decide +kernel) (fun _ _ _ h => h) (Or.inl ⟨by rfl, ?_⟩) b10 ?_
  case refine_2 =>
    intro w' hSw
    have P1_0' := keepcell hSw P1_0
    have P1_1' := keepcell hSw P1_1
    have P1_2' := keepcell hSw P1_2
    have P1_3' := keepcell hSw P1_3
    have P1_4' := keepcell hSw P1_4
    have P1_5' := keepcell hSw P1_5
    have P1_6' := keepcell hSw P1_6
    have P1_7' := keepcell hSw P1_7
    have P2_0' := keepcell hSw P2_0
    have P2_1' := keepcell hSw P2_1
    have P2_2' := keepcell hSw P2_2
    have P2_3' := keepcell hSw P2_3
    have P2_4' := keepcell hSw P2_4
    have P2_5' := keepcell hSw P2_5
    have P2_6' := keepcell hSw P2_6
    have P2_7' := keepcell hSw P2_7
    have P4_0' := keepcell hSw P4_0
    have P4_1' := keepcell hSw P4_1
    have P4_2' := keepcell hSw P4_2
    have P4_3' := keepcell hSw P4_3
    have P4_4' := keepcell hSw P4_4
    have P4_5' := keepcell hSw P4_5
    have P4_6' := keepcell hSw P4_6
    have P4_7' := keepcell hSw P4_7
    have P5_0' := keepcell hSw P5_0
    have P5_1' := keepcell hSw P5_1
    have P5_2' := keepcell hSw P5_2
    go_simp
    try (with_reducible rfl)
  try simp only [Act.put, List.setIfInBounds_toArray, List.set_cons_zero, List.set_cons_succ]
  refine wpM_take (i := 17) (oi := ⟨some 50, _, _, _, _, _⟩) (v := ?_) rfl (by decide +kernel) (by decide +kernel) (by decide +kernel) (fun _ _ _ h => h) (Or.inl ⟨by rfl, ?_⟩) b10 ?_
  case refine_2 =>
    intro w' hSw
    have P1_0' := keepcell hSw P1_0
    have P1_1' := keepcell hSw P1_1
    have P1_2' := keepcell hSw P1_2
    have P1_3' := keepcell hSw P1_3
    have P1_4' := keepcell hSw P1_4
    have P1_5' := keepcell hSw P1_5
    have P1_6' := keepcell hSw P1_6
    have P1_7' := keepcell hSw P1_7
    have P2_0' := keepcell hSw P2_0
    have P2_1' := keepcell hSw P2_1
    have P2_2' := keepcell hSw P2_2
    have P2_3' := keepcell hSw P2_3
    have P2_4' := keepcell hSw P2_4
    have P2_5' := keepcell hSw P2_5
    have P2_6' := keepcell hSw P2_6
    have P2_7' := keepcell hSw P2_7
    have P4_0' := keepcell hSw P4_0
    have P4_1' := keepcell hSw P4_1
    have P4_2' := keepcell hSw P4_2
    have P4_3' := keepcell hSw P4_3
    have P4_4' := keepcell hSw P4_4
    have P4_5' := keepcell hSw P4_5
    have P4_6' := keepcell hSw P4_6
    have P4_7' := keepcell hSw P4_7
    have P5_0' := keepcell hSw P5_0
    have P5_1' := keepcell hSw P5_1
    have P5_2' := keepcell hSw P5_2
    go_simp
    try (with_reducible rfl)
  try simp only [Act.put, List.setIfInBounds_toArray, List.set_cons_zero, List.set_cons_succ]
  refine wpM_take (i := 18) (oi := ⟨some 51, _, _, _, _, _⟩) (v := ?_) rfl (by decide +kernel) (by decide +kernel) (by decide +kernel) (fun _ _ _ h => h) (Or.inl ⟨by rfl, ?_⟩) b10 ?_
  case refine_2 =>
    intro w' hSw
    have P1_0' := keepcell hSw P1_0
    have P1_1' := keepcell hSw P1_1
    have P1_2' := keepcell hSw P1_2
    have P1_3' := keepcell hSw P1_3
    have P1_4' := keepcell hSw P1_4
    have P1_5' := keepcell hSw P1_5
    have P1_6' := keepcell hSw P1_6
    have P1_7' := keepcell hSw P1_7
    have P2_0' := keepcell hSw P2_0
    have P2_1' := keepcell hSw P2_1
    have P2_2' := keepcell hSw P2_2
    have P2_3' := keepcell hSw P2_3
    have P2_4' := keepcell hSw P2_4
    have P2_5' := keepcell hSw P2_5
    have P2_6' := keepcell hSw P2_6
    have P2_7' := keepcell hSw P2_7
    have P4_0' := keepcell hSw P4_0
    have P4_1' := keepcell hSw P4_1
    have P4_2' := keepcell hSw P4_2
    have P4_3' := keepcell hSw P4_3
    have P4_4' := keepcell hSw P4_4
    have P4_5' := keepcell hSw P4_5
    have P4_6' := keepcell hSw P4_6
    have P4_7' := keepcell hSw P4_7
    have P5_0' := keepcell hSw P5_0
    have P5_1' := keepcell hSw P5_1
    have P5_2' := keepcell hSw P5_2
    go_simp
    try (with_reducible rfl)
  try simp only [Act.put, List.setIfInBounds_toArray, List.set_cons_zero, List.set_cons_succ]
  refine wpM_take (i := 19) (oi := ⟨some 52, _, _, _, _, _⟩) (v := ?_) rfl (by decide +kernel) (by decide +kernel) (by decide +kernel) (fun _ _ _ h => h) (Or.inl ⟨by rfl, ?_⟩) b10 ?_
  case refine_2 =>
    intro w' hSw
    have P1_0' := keepcell hSw P1_0
    have P1_1' := keepcell hSw P1_1
    have P1_2' := keepcell hSw P1_2
    have P1_3' := keepcell hSw P1_3
    have P1_4' := keepcell hSw P1_4
    have P1_5' := keepcell hSw P1_5
    have P1_6' := keepcell hSw P1_6
    have P1_7' := keepcell hSw P1_7
    have P2_0' := keepcell hSw P2_0
    have P2_1' := keepcell hSw P2_1
    have P2_2' := keepcell hSw P2_2
    have P2_3' := keepcell hSw P2_3
    have P2_4' := keepcell hSw P2_4
    have P2_5' := keepcell hSw P2_5
    have P2_6' := keepcell hSw P2_6
    have P2_7' := keepcell hSw P2_7
    have P4_0' := keepcell hSw P4_0
    have P4_1' := keepcell hSw P4_1
    have P4_2' := keepcell hSw P4_2
    have P4_3' := keepcell hSw P4_3
    have P4_4' := keepcell hSw P4_4
    have P4_5' := keepcell hSw P4_5
    have P4_6' := keepcell hSw P4_6
    have P4_7' := keepcell hSw P4_7
    have P5_0' := keepcell hSw P5_0
    have P5_1' := keepcell hSw P5_1
    have P5_2' := keepcell hSw P5_2
    go_simp
    try (with_reducible rfl)
  try simp only [Act.put, List.setIfInBounds_toArray, List.set_cons_zero, List.set_cons_succ]
  refine wpM_take (i := 20) (oi := ⟨some 53, _, _, _, _, _⟩) (v := ?_) rfl (by decide +kernel) (by decide +kernel) (by decide +kernel) (fun _ _ _ h => h) (Or.inl ⟨by rfl, ?_⟩) b10 ?_
  case refine_2 =>
    intro w' hSw
    have P1_0' := keepcell hSw P1_0
    have P1_1' := keepcell hSw P1_1
    have P1_2' := keepcell hSw P1_2
    have P1_3' := keepcell hSw P1_3
    have P1_4' := keepcell hSw P1_4
    have P1_5' := keepcell hSw P1_5
    have P1_6' := keepcell hSw P1_6
    have P1_7' := keepcell hSw P1_7
    have P2_0' := keepcell hSw P2_0
    have P2_1' := keepcell hSw P2_1
    have P2_2' := keepcell hSw P2_2
    have P2_3' := keepcell hSw P2_3
    have P2_4' := keepcell hSw P2_4
    have P2_5' := keepcell hSw P2_5
    have P2_6' := keepcell hSw P2_6
    have P2_7' := keepcell hSw P2_7
    have P4_0' := keepcell hSw P4_0
    have P4_1' := keepcell hSw P4_1
    have P4_2' := keepcell hSw P4_2
    have P4_3' := keepcell hSw P4_3
    have P4_4' := keepcell hSw P4_4
    have P4_5' := keepcell hSw P4_5
    have P4_6' := keepcell hSw P4_6
    have P4_7' := keepcell hSw P4_7
    have P5_0' := keepcell hSw P5_0
    have P5_1' := keepcell hSw P5_1
    have P5_2' := keepcell hSw P5_2
    go_simp
    try (with_reducible rfl)
  try simp only [Act.put, List.setIfInBounds_toArray, List.set_cons_zero, List.set_cons_succ]
  refine wpM_step (i := 21) (o := ⟨some 54, _, _, _, _, _⟩) rfl (by decide +kernel) (by decide) (fun K hK => ?_)
  go_simp
  have cc := Condition_any [iV (-7), nul] (Ex.mk 12 ⟨#[]⟩ ⟨#[]⟩ 0 nul (some ⟨g5 + 1, 0, none⟩) 2 [(Ex.mk 2 ⟨#[]⟩ ⟨#[]⟩ 0 nul none 0 []), (Ex.mk 2 ⟨#[]⟩ ⟨#[]⟩ 1 nul none 0 [])]) v10 (some ⟨g5, 0, none⟩) 2 2 (LESS.out.keep b10) (ExSm.two ExSm.leaf ExSm.leaf) (HV.out.below b10) (by decide) (fun v hv => by simp at hv; rcases hv with rfl | rfl; exact iV_ok (by decide); exact nul_ok)
  rw [show condM [iV (-7), nul] (Ex.mk 12 ⟨#[]⟩ ⟨#[]⟩ 0 nul (some ⟨g5 + 1, 0, none⟩) 2 [(Ex.mk 2 ⟨#[]⟩ ⟨#[]⟩ 0 nul none 0 []), (Ex.mk 2 ⟨#[]⟩ ⟨#[]⟩ 1 nul none 0 [])]) = 2 by kernel_rfl] at cc
  refine (cc).mono ?_
  rintro e v11 ⟨rfl, q11⟩
  have b11 : Below w18.heap.size w18 v11 := b10.trans (q11.mono b10.size)
  clear q11
  refine hK.out _ _ b11 ?_
  clear hK K
  try simp only [Act.put, List.setIfInBounds_toArray, List.set_cons_zero, List.set_cons_succ]
  refine wpM_take (i := 22) (oi := ⟨some 55, _, _, _, _, _⟩) (v := ?_) rfl (by decide +kernel) (by decide +kernel) (by decide +kernel) (fun _ _ _ h => h) (Or.inl ⟨by rfl, ?_⟩) b11 ?_
  case refine_2 =>
    intro w' hSw
    have P1_0' := keepcell hSw P1_0
    have P1_1' := keepcell hSw P1_1
    have P1_2' := keepcell hSw P1_2
    have P1_3' := keepcell hSw P1_3
    have P1_4' := keepcell hSw P1_4
    have P1_5' := keepcell hSw P1_5
    have P1_6' := keepcell hSw P1_6
    have P1_7' := keepcell hSw P1_7
    have P2_0' := keepcell hSw P2_0
    have P2_1' := keepcell hSw P2_1
    have P2_2' := keepcell hSw P2_2
    have P2_3' := keepcell hSw P2_3
    have P2_4' := keepcell hSw P2_4
    have P2_5' := keepcell hSw P2_5
    have P2_6' := keepcell hSw P2_6
    have P2_7' := keepcell hSw P2_7
    have P4_0' := keepcell hSw P4_0
    have P4_1' := keepcell hSw P4_1
    have P4_2' := keepcell hSw P4_2
    have P4_3' := keepcell hSw P4_3
    have P4_4' := keepcell hSw P4_4
    have P4_5' := keepcell hSw P4_5
    have P4_6' := keepcell hSw P4_6
    have P4_7' := keepcell hSw P4_7
    have P5_0' := keepcell hSw P5_0
    have P5_1' := keepcell hSw P5_1
    have P5_2' := keepcell hSw P5_2
    go_simp
    try (with_reducible rfl)
  try simp only [Act.put, List.setIfInBounds_toArray, List.set_cons_zero, List.set_cons_succ]
  refine wpM_take (i := 23) (oi := ⟨some 56, _, _, _, _, _⟩) (v := ?_) rfl (by decide +kernel) (by decide +kernel) (by decide +kernel) (fun _ _ _ h => h) (Or.inl ⟨by rfl, ?_⟩) b11 ?_
  case refine_2 =>
    intro w' hSw
    have P1_0' := keepcell hSw P1_0
    have P1_1' := keepcell hSw P1_1
    have P1_2' := keepcell hSw P1_2
    have P1_3' := keepcell hSw P1_3
    have P1_4' := keepcell hSw P1_4
    have P1_5' := keepcell hSw P1_5
    have P1_6' := keepcell hSw P1_6
    have P1_7' := keepcell hSw P1_7
    have P2_0' := keepcell hSw P2_0
    have P2_1' := keepcell hSw P2_1
    have P2_2' := keepcell hSw P2_2
    have P2_3' := keepcell hSw P2_3
    have P2_4' := keepcell hSw P2_4
    have P2_5' := keepcell hSw P2_5
    have P2_6' := keepcell hSw P2_6
    have P2_7' := keepcell hSw P2_7
    have P4_0' := keepcell hSw P4_0
    have P4_1' := keepcell hSw P4_1
    have P4_2' := keepcell hSw P4_2
    have P4_3' := keepcell hSw P4_3
    have P4_4' := keepcell hSw P4_4
    have P4_5' := keepcell hSw P4_5
    have P4_6' := keepcell hSw P4_6
    have P4_7' := keepcell hSw P4_7
    have P5_0' := keepcell hSw P5_0
    have P5_1' := keepcell hSw P5_1
    have P5_2' := keepcell hSw P5_2
    go_simp
    try (with_reducible rfl)
  try simp only [Act.put, List.setIfInBounds_toArray, List.set_cons_zero, List.set_cons_succ]
  refine wpM_take (i := 24) (oi := ⟨some 57, _, _, _, _, _⟩) (v := ?_) rfl (by decide +kernel) (by decide +kernel) (by decide +kernel) (fun _ _ _ h => h) (Or.inl ⟨by rfl, ?_⟩) b11 ?_
  case refine_2 =>
    intro w' hSw
    have P1_0' := keepcell hSw P1_0
    have P1_1' := keepcell hSw P1_1
    have P1_2' := keepcell hSw P1_2
    have P1_3' := keepcell hSw P1_3
    have P1_4' := keepcell hSw P1_4
    have P1_5' := keepcell hSw P1_5
    have P1_6' := keepcell hSw P1_6
    have P1_7' := keepcell hSw P1_7
    have P2_0' := keepcell hSw P2_0
    have P2_1' := keepcell hSw P2_1
    have P2_2' := keepcell hSw P2_2
    have P2_3' := keepcell hSw P2_3
    have P2_4' := keepcell hSw P2_4
    have P2_5' := keepcell hSw P2_5
    have P2_6' := keepcell hSw P2_6
    have P2_7' := keepcell hSw P2_7
    have P4_0' := keepcell hSw P4_0
    have P4_1' := keepcell hSw P4_1
    have P4_2' := keepcell hSw P4_2
    have P4_3' := keepcell hSw P4_3
    have P4_4' := keepcell hSw P4_4
    have P4_5' := keepcell hSw P4_5
    have P4_6' := keepcell hSw P4_6
    have P4_7' := keepcell hSw P4_7
    have P5_0' := keepcell hSw P5_0
    have P5_1' := keepcell hSw P5_1
    have P5_2' := keepcell hSw P5_2
    go_simp
    try (with_reducible rfl)
  try simp only [Act.put, List.setIfInBounds_toArray, List.set_cons_zero, List.set_cons_succ]
  refine wpM_take (i := 25) (oi := ⟨some 58, _, _, _, _, _⟩) (v := ?_) rfl (by decide +kernel) (by decide +kernel) (by decide +kernel) (fun _ _ _ h => h) (Or.inl ⟨by rfl, ?_⟩) b11 ?_
  case refine_2 =>
    intro w' hSw
    have P1_0' := keepcell hSw P1_0
    have P1_1' := keepcell hSw P1_1
    have P1_2' := keepcell hSw P1_2
    have P1_3' := keepcell hSw P1_3
    have P1_4' := keepcell hSw P1_4
    have P1_5' := keepcell hSw P1_5
    have P1_6' := keepcell hSw P1_6
    have P1_7' := keepcell hSw P1_7
    have P2_0' := keepcell hSw P2_0
    have P2_1' := keepcell hSw P2_1
    have P2_2' := keepcell hSw P2_2
    have P2_3' := keepcell hSw P2_3
    have P2_4' := keepcell hSw P2_4
    have P2_5' := keepcell hSw P2_5
    have P2_6' := keepcell hSw P2_6
    have P2_7' := keepcell hSw P2_7
    have P4_0' := keepcell hSw P4_0
    have P4_1' := keepcell hSw P4_1
    have P4_2' := keepcell hSw P4_2
    have P4_3' := keepcell hSw P4_3
    have P4_4' := keepcell hSw P4_4
    have P4_5' := keepcell hSw P4_5
    have P4_6' := keepcell hSw P4_6
    have P4_7' := keepcell hSw P4_7
    have P5_0' := keepcell hSw P5_0
    have P5_1' := keepcell hSw P5_1
    have P5_2' := keepcell hSw P5_2
    go_simp
    try (with_reducible rfl)
  try simp only [Act.put, List.setIfInBounds_toArray, List.set_cons_zero, List.set_cons_succ]
  refine wpM_take (i := 28) (oi := ⟨some 61, _, _, _, _, _⟩) (v := ?_) rfl (by decide +kernel) (by decide +kernel) (by decide +kernel) (fun _ _ _ h => h) (Or.inl ⟨by rfl, ?_⟩) b11 ?_
  case refine_2 =>
    intro w' hSw
    have P1_0' := keepcell hSw P1_0
    have P1_1' := keepcell hSw P1_1
    have P1_2' := keepcell hSw P1_2
    have P1_3' := keepcell hSw P1_3
    have P1_4' := keepcell hSw P1_4
    have P1_5' := keepcell hSw P1_5
    have P1_6' := keepcell hSw P1_6
    have P1_7' := keepcell hSw P1_7
    have P2_0' := keepcell hSw P2_0
    have P2_1' := keepcell hSw P2_1
    have P2_2' := keepcell hSw P2_2
    have P2_3' := keepcell hSw P2_3
    have P2_4' := keepcell hSw P2_4
    have P2_5' := keepcell hSw P2_5
    have P2_6' := keepcell hSw P2_6
    have P2_7' := keepcell hSw P2_7
    have P4_0' := keepcell hSw P4_0
    have P4_1' := keepcell hSw P4_1
    have P4_2' := keepcell hSw P4_2
    have P4_3' := keepcell hSw P4_3
    have P4_4' := keepcell hSw P4_4
    have P4_5' := keepcell hSw P4_5
    have P4_6' := keepcell hSw P4_6
    have P4_7' := keepcell hSw P4_7
    have P5_0' := keepcell hSw P5_0
    have P5_1' := keepcell hSw P5_1
    have P5_2' := keepcell hSw P5_2
    go_simp
    try (with_reducible rfl)
  try simp only [Act.put, List.setIfInBounds_toArray, List.set_cons_zero, List.set_cons_succ]
  refine wpM_step (i := 26) (o := ⟨some 59, _, _, _, _, _⟩) rfl (by decide +kernel) (by decide) (fun K hK => ?_)
  go_simp
  obtain ⟨v12, h12⟩ : ∃ W, W = v11.alloc (.cells #[.int .i64 12, .string ⟨#[]⟩, .string ⟨#[]⟩, .int .i64 0, .int .i64 0, .int .i64 0, .string ⟨#[]⟩, .slice (some ⟨g5 + 1, 0, none⟩) 2 2] 26) := ⟨_, rfl⟩
  rw [← h12]
  have q12 : Below v11.heap.size v11 v12 := by rw [h12]; exact (Below.refl _ _).alloc (Nat.le_refl _) _
  have b12 : Below w18.heap.size w18 v12 := b11.trans (q12.mono b11.size)
  have N12z := Lib.hid (show Blk v12 v11.heap.size 26 #[.int .i64 12, .string ⟨#[]⟩, .string ⟨#[]⟩, .int .i64 0, .int .i64 0, .int .i64 0, .string ⟨#[]⟩, .slice (some ⟨g5 + 1, 0, none⟩) 2 2] by rw [h12]; exact Blk.new _ _ _)
  clear h12
  clear q12
  generalize v11.heap.size = m12 at *
  have T12 : Hid (ExAt v12 (Ex.mk 20 ⟨#[]⟩ ⟨#[]⟩ 0 nul (some ⟨m12, 0, none⟩) 1 [(Ex.mk 12 ⟨#[]⟩ ⟨#[]⟩ 0 nul (some ⟨g5 + 1, 0, none⟩) 2 [(Ex.mk 2 ⟨#[]⟩ ⟨#[]⟩ 0 nul none 0 []), (Ex.mk 2 ⟨#[]⟩ ⟨#[]⟩ 1 nul none 0 [])])])) := Lib.hid (ExAt.built 20 (args := [(Ex.mk 12 ⟨#[]⟩ ⟨#[]⟩ 0 nul (some ⟨g5 + 1, 0, none⟩) 2 [(Ex.mk 2 ⟨#[]⟩ ⟨#[]⟩ 0 nul none 0 []), (Ex.mk 2 ⟨#[]⟩ ⟨#[]⟩ 1 nul none 0 [])])]) N12z.out (show 1 ≤ 1000 by decide) (fun z hz => by simp at hz; subst hz; exact (LESS.out.keep b12)))
  clear N12z
  refine hK.out _ _ b12 ?_
  clear hK K
  try simp only [Act.put, List.setIfInBounds_toArray, List.set_cons_zero, List.set_cons_succ]
  refine wpM_step (i := 27) (o := ⟨some 60, _, _, _, _, _⟩) rfl (by decide +kernel) (by decide) (fun K hK => ?_)
  go_simp
  refine (node_any 20 _ _ _ _).mono ?_
  rintro e v13 ⟨rfl, q13⟩
  have b13 : Below w18.heap.size w18 v13 := b12.trans (q13.mono b12.size)
  replace T12 := Lib.hid (T12.out.keep q13)
  clear q13
  refine hK.out _ _ b13 ?_
  clear hK K
  try simp only [Act.put, List.setIfInBounds_toArray, List.set_cons_zero, List.set_cons_succ]
  refine wpM_step (i := 29) (o := ⟨some 62, _, _, _, _, _⟩) rfl (by decide +kernel) (by decide) (fun K hK => ?_)
  go_simp
  have cc := Condition_any [iV (-7), nul] (Ex.mk 20 ⟨#[]⟩ ⟨#[]⟩ 0 nul (some ⟨m12, 0, none⟩) 1 [(Ex.mk 12 ⟨#[]⟩ ⟨#[]⟩ 0 nul (some ⟨g5 + 1, 0, none⟩) 2 [(Ex.mk 2 ⟨#[]⟩ ⟨#[]⟩ 0 nul none 0 []), (Ex.mk 2 ⟨#[]⟩ ⟨#[]⟩ 1 nul none 0 [])])]) v13 (some ⟨g5, 0, none⟩) 2 2 T12.out (ExSm.one (ExSm.two ExSm.leaf ExSm.leaf)) (HV.out.below b13) (by decide) (fun v hv => by simp at hv; rcases hv with rfl | rfl; exact iV_ok (by decide); exact nul_ok)
  rw [show condM [iV (-7), nul] (Ex.mk 20 ⟨#[]⟩ ⟨#[]⟩ 0 nul (some ⟨m12, 0, none⟩) 1 [(Ex.mk 12 ⟨#[]⟩ ⟨#[]⟩ 0 nul (some ⟨g5 + 1, 0, none⟩) 2 [(Ex.mk 2 ⟨#[]⟩ ⟨#[]⟩ 0 nul none 0 []), (Ex.mk 2 ⟨#[]⟩ ⟨#[]⟩ 1 nul none 0 [])])]) = 2 by kernel_rfl] at cc
  refine (cc).mono ?_
  rintro e v14 ⟨rfl, q14⟩
  have b14 : Below w18.heap.size w18 v14 := b13.trans (q14.mono b13.size)
  replace T12 := Lib.hid (T12.out.keep q14)
  clear q14
  refine hK.out _ _ b14 ?_
  clear hK K
  try simp only [Act.put, List.setIfInBounds_toArray, List.set_cons_zero, List.set_cons_succ]
  clear T12
  refine wpM_take (i := 30) (oi := ⟨some 63, _, _, _, _, _⟩) (v := ?_) rfl (by decide +kernel) (by decide +kernel) (by decide +kernel) (fun _ _ _ h => h) (Or.inl ⟨by rfl, ?_⟩) b14 ?_
  case refine_2 =>
    intro w' hSw
    have P1_0' := keepcell hSw P1_0
    have P1_1' := keepcell hSw P1_1
    have P1_2' := keepcell hSw P1_2
    have P1_3' := keepcell hSw P1_3
    have P1_4' := keepcell hSw P1_4
    have P1_5' := keepcell hSw P1_5
    have P1_6' := keepcell hSw P1_6
    have P1_7' := keepcell hSw P1_7
    have P2_0' := keepcell hSw P2_0
    have P2_1' := keepcell hSw P2_1
    have P2_2' := keepcell hSw P2_2
    have P2_3' := keepcell hSw P2_3
    have P2_4' := keepcell hSw P2_4
    have P2_5' := keepcell hSw P2_5
    have P2_6' := keepcell hSw P2_6
    have P2_7' := keepcell hSw P2_7
    have P4_0' := keepcell hSw P4_0
    have P4_1' := keepcell hSw P4_1
    have P4_2' := keepcell hSw P4_2
    have P4_3' := keepcell hSw P4_3
    have P4_4' := keepcell hSw P4_4
    have P4_5' := keepcell hSw P4_5
    have P4_6' := keepcell hSw P4_6
    have P4_7' := keepcell hSw P4_7
    have P5_0' := keepcell hSw P5_0
    have P5_1' := keepcell hSw P5_1
    have P5_2' := keepcell hSw P5_2
    go_simp
    try (with_reducible rfl)
  try simp only [Act.put, List.setIfInBounds_toArray, List.set_cons_zero, List.set_cons_succ]
  refine wpM_take (i := 31) (oi := ⟨some 64, _, _, _, _, _⟩) (v := ?_) rfl (by decide +kernel) (by decide +kernel) (by decide +kernel) (fun _ _ _ h => h) (Or.inl ⟨by rfl, ?_⟩) b14 ?_
  case refine_2 =>
    intro w' hSw
    have P1_0' := keepcell hSw P1_0
    have P1_1' := keepcell hSw P1_1
    have P1_2' := keepcell hSw P1_2
    have P1_3' := keepcell hSw P1_3
    have P1_4' := keepcell hSw P1_4
    have P1_5' := keepcell hSw P1_5
    have P1_6' := keepcell hSw P1_6
    have P1_7' := keepcell hSw P1_7
    have P2_0' := keepcell hSw P2_0
    have P2_1' := keepcell hSw P2_1
    have P2_2' := keepcell hSw P2_2
    have P2_3' := keepcell hSw P2_3
    have P2_4' := keepcell hSw P2_4
    have P2_5' := keepcell hSw P2_5
    have P2_6' := keepcell hSw P2_6
    have P2_7' := keepcell hSw P2_7
    have P4_0' := keepcell hSw P4_0
    have P4_1' := keepcell hSw P4_1
    have P4_2' := keepcell hSw P4_2
    have P4_3' := keepcell hSw P4_3
    have P4_4' := keepcell hSw P4_4
    have P4_5' := keepcell hSw P4_5
    have P4_6' := keepcell hSw P4_6
    have P4_7' := keepcell hSw P4_7
    have P5_0' := keepcell hSw P5_0
    have P5_1' := keepcell hSw P5_1
    have P5_2' := keepcell hSw P5_2
    go_simp
    try (with_reducible rfl)
  try simp only [Act.put, List.setIfInBounds_toArray, List.set_cons_zero, List.set_cons_succ]
  refine wpM_take (i := 32) (oi := ⟨some 65, _, _, _, _, _⟩) (v := ?_) rfl (by decide +kernel) (by decide +kernel) (by decide +kernel) (fun _ _ _ h => h) (Or.inl ⟨by rfl, ?_⟩) b14 ?_
  case refine_2 =>
    intro w' hSw
    have P1_0' := keepcell hSw P1_0
    have P1_1' := keepcell hSw P1_1
    have P1_2' := keepcell hSw P1_2
    have P1_3' := keepcell hSw P1_3
    have P1_4' := keepcell hSw P1_4
    have P1_5' := keepcell hSw P1_5
    have P1_6' := keepcell hSw P1_6
    have P1_7' := keepcell hSw P1_7
    have P2_0' := keepcell hSw P2_0
    have P2_1' := keepcell hSw P2_1
    have P2_2' := keepcell hSw P2_2
    have P2_3' := keepcell hSw P2_3
    have P2_4' := keepcell hSw P2_4
    have P2_5' := keepcell hSw P2_5
    have P2_6' := keepcell hSw P2_6
    have P2_7' := keepcell hSw P2_7
    have P4_0' := keepcell hSw P4_0
    have P4_1' := keepcell hSw P4_1
    have P4_2' := keepcell hSw P4_2
    have P4_3' := keepcell hSw P4_3
    have P4_4' := keepcell hSw P4_4
    have P4_5' := keepcell hSw P4_5
    have P4_6' := keepcell hSw P4_6
    have P4_7' := keepcell hSw P4_7
    have P5_0' := keepcell hSw P5_0
    have P5_1' := keepcell hSw P5_1
    have P5_2' := keepcell hSw P5_2
    go_simp
    try (with_reducible rfl)
  try simp only [Act.put, List.setIfInBounds_toArray, List.set_cons_zero, List.set_cons_succ]
  refine wpM_take (i := 33) (oi := ⟨some 66, _, _, _, _, _⟩) (v := ?_) rfl (by decide +kernel) (by decide +kernel) (by decide +kernel) (fun _ _ _ h => h) (Or.inl ⟨by rfl, ?_⟩) b14 ?_
  case refine_2 =>
    intro w' hSw
    have P1_0' := keepcell hSw P1_0
    have P1_1' := keepcell hSw P1_1
    have P1_2' := keepcell hSw P1_2
    have P1_3' := keepcell hSw P1_3
    have P1_4' := keepcell hSw P1_4
    have P1_5' := keepcell hSw P1_5
    have P1_6' := keepcell hSw P1_6
    have P1_7' := keepcell hSw P1_7
    have P2_0' := keepcell hSw P2_0
    have P2_1' := keepcell hSw P2_1
    have P2_2' := keepcell hSw P2_2
    have P2_3' := keepcell hSw P2_3
    have P2_4' := keepcell hSw P2_4
    have P2_5' := keepcell hSw P2_5
    have P2_6' := keepcell hSw P2_6
    have P2_7' := keepcell hSw P2_7
    have P4_0' := keepcell hSw P4_0
    have P4_1' := keepcell hSw P4_1
    have P4_2' := keepcell hSw P4_2
    have P4_3' := keepcell hSw P4_3
    have P4_4' := keepcell hSw P4_4
    have P4_5' := keepcell hSw P4_5
    have P4_6' := keepcell hSw P4_6
    have P4_7' := keepcell hSw P4_7
    have P5_0' := keepcell hSw P5_0
    have P5_1' := keepcell hSw P5_1
    have P5_2' := keepcell hSw P5_2
    go_simp
    try (with_reducible rfl)
  try simp only [Act.put, List.setIfInBounds_toArray, List.set_cons_zero, List.set_cons_succ]
  refine wpM_take (i := 37) (oi := ⟨some 70, _, _, _, _, _⟩) (v := ?_) rfl (by decide +kernel) (by decide +kernel) (by decide +kernel) (fun _ _ _ h => h) (Or.inl ⟨by rfl, ?_⟩) b14 ?_
  case refine_2 =>
    intro w' hSw
    have P1_0' := keepcell hSw P1_0
    have P1_1' := keepcell hSw P1_1
    have P1_2' := keepcell hSw P1_2
    have P1_3' := keepcell hSw P1_3
    have P1_4' := keepcell hSw P1_4
    have P1_5' := keepcell hSw P1_5
    have P1_6' := keepcell hSw P1_6
    have P1_7' := keepcell hSw P1_7
    have P2_0' := keepcell hSw P2_0
    have P2_1' := keepcell hSw P2_1
    have P2_2' := keepcell hSw P2_2
    have P2_3' := keepcell hSw P2_3
    have P2_4' := keepcell hSw P2_4
    have P2_5' := keepcell hSw P2_5
    have P2_6' := keepcell hSw P2_6
    have P2_7' := keepcell hSw P2_7
    have P4_0' := keepcell hSw P4_0
    have P4_1' := keepcell hSw P4_1
    have P4_2' := keepcell hSw P4_2
    have P4_3' := keepcell hSw P4_3
    have P4_4' := keepcell hSw P4_4
    have P4_5' := keepcell hSw P4_5
    have P4_6' := keepcell hSw P4_6
    have P4_7' := keepcell hSw P4_7
    have P5_0' := keepcell hSw P5_0
    have P5_1' := keepcell hSw P5_1
    have P5_2' := keepcell hSw P5_2
    go_simp
    try (with_reducible rfl)
  try simp only [Act.put, List.setIfInBounds_toArray, List.set_cons_zero, List.set_cons_succ]
  refine wpM_take (i := 40) (oi := ⟨some 73, _, _, _, _, _⟩) (v := ?_) rfl (by decide +kernel) (by decide +kernel) (by decide +kernel) (fun _ _ _ h => h) (Or.inl ⟨by rfl, ?_⟩) b14 ?_
  case refine_2 =>
    intro w' hSw
    have P1_0' := keepcell hSw P1_0
    have P1_1' := keepcell hSw P1_1
    have P1_2' := keepcell hSw P1_2
    have P1_3' := keepcell hSw P1_3
    have P1_4' := keepcell hSw P1_4
    have P1_5' := keepcell hSw P1_5
    have P1_6' := keepcell hSw P1_6
    have P1_7' := keepcell hSw P1_7
    have P2_0' := keepcell hSw P2_0
    have P2_1' := keepcell hSw P2_1
    have P2_2' := keepcell hSw P2_2
    have P2_3' := keepcell hSw P2_3
    have P2_4' := keepcell hSw P2_4
    have P2_5' := keepcell hSw P2_5
    have P2_6' := keepcell hSw P2_6
    have P2_7' := keepcell hSw P2_7
    have P4_0' := keepcell hSw P4_0
    have P4_1' := keepcell hSw P4_1
    have P4_2' := keepcell hSw P4_2
    have P4_3' := keepcell hSw P4_3
    have P4_4' := keepcell hSw P4_4
    have P4_5' := keepcell hSw P4_5
    have P4_6' := keepcell hSw P4_6
    have P4_7' := keepcell hSw P4_7
    have P5_0' := keepcell hSw P5_0
    have P5_1' := keepcell hSw P5_1
    have P5_2' := keepcell hSw P5_2
    go_simp
    try (with_reducible rfl)
  try simp only [Act.put, List.setIfInBounds_toArray, List.set_cons_zero, List.set_cons_succ]
  refine wpM_step (i := 34) (o := ⟨some 67, _, _, _, _, _⟩) rfl (by decide +kernel) (by decide) (fun K hK => ?_)
  go_simp
  refine (number_any 0 _).mono ?_
  rintro e v15 ⟨rfl, q15⟩
  have b15 : Below w18.heap.size w18 v15 := b14.trans (q15.mono b14.size)
  clear q15
  refine hK.out _ _ b15 ?_
  clear hK K
  try simp only [Act.put, List.setIfInBounds_toArray, List.set_cons_zero, List.set_cons_succ]
  have T15n := Lib.hid (ExAt.leaf (W := v15) 1 0 (v := ⟨1, 0, ⟨#[]⟩⟩) (show V3.ok ⟨1, 0, ⟨#[]⟩⟩ by refine ⟨by decide, by decide, by decide, by decide, by decide⟩))
  refine wpM_step (i := 35) (o := ⟨some 68, _, _, _, _, _⟩) rfl (by decide +kernel) (by decide) (fun K hK => ?_)
  go_simp
  obtain ⟨v16, h16⟩ : ∃ W, W = v15.alloc (.cells #[.int .i64 2, .string ⟨#[]⟩, .string ⟨#[]⟩, .int .i64 0, .int .i64 0, .int .i64 0, .string ⟨#[]⟩, .slice none 0 0, .int .i64 1, .string ⟨#[]⟩, .string ⟨#[]⟩, .int .i64 0, .int .i64 1, .int .i64 0, .string ⟨#[]⟩, .slice none 0 0] 26) := ⟨_, rfl⟩
  rw [← h16]
  have q16 : Below v15.heap.size v15 v16 := by rw [h16]; exact (Below.refl _ _).alloc (Nat.le_refl _) _
  have b16 : Below w18.heap.size w18 v16 := b15.trans (q16.mono b15.size)
  have N16z := Lib.hid (show Blk v16 v15.heap.size 26 #[.int .i64 2, .string ⟨#[]⟩, .string ⟨#[]⟩, .int .i64 0, .int .i64 0, .int .i64 0, .string ⟨#[]⟩, .slice none 0 0, .int .i64 1, .string ⟨#[]⟩, .string ⟨#[]⟩, .int .i64 0, .int .i64 1, .int .i64 0, .string ⟨#[]⟩, .slice none 0 0] by rw [h16]; exact Blk.new _ _ _)
  clear h16
  replace T15n := Lib.hid (T15n.out.keep q16)
  clear q16
  generalize v15.heap.size = m16 at *
  have T16 : Hid (ExAt v16 (Ex.mk 12 ⟨#[]⟩ ⟨#[]⟩ 0 nul (some ⟨m16, 0, none⟩) 2 [(Ex.mk 2 ⟨#[]⟩ ⟨#[]⟩ 0 nul none 0 []), (Ex.mk 1 ⟨#[]⟩ ⟨#[]⟩ 0 ⟨1, 0, ⟨#[]⟩⟩ none 0 [])])) := Lib.hid (ExAt.built 12 (args := [(Ex.mk 2 ⟨#[]⟩ ⟨#[]⟩ 0 nul none 0 []), (Ex.mk 1 ⟨#[]⟩ ⟨#[]⟩ 0 ⟨1, 0, ⟨#[]⟩⟩ none 0 [])]) N16z.out (show 2 ≤ 1000 by decide) (fun z hz => by simp at hz; rcases hz with rfl | rfl; exact (HX.out.keep b16); exact T15n.out))
  clear N16z
  refine hK.out _ _ b16 ?_
  clear hK K
  try simp only [Act.put, List.setIfInBounds_toArray, List.set_cons_zero, List.set_cons_succ]
  refine wpM_step (i := 36) (o := ⟨some 69, _, _, _, _, _⟩) rfl (by decide +kernel) (by decide) (fun K hK => ?_)
  go_simp
  refine (node_any 12 _ _ _ _).mono ?_
  rintro e v17 ⟨rfl, q17⟩
  have b17 : Below w18.heap.size w18 v17 := b16.trans (q17.mono b16.size)
  replace T15n := Lib.hid (T15n.out.keep q17)
  replace T16 := Lib.hid (T16.out.keep q17)
  clear q17
  refine hK.out _ _ b17 ?_
  clear hK K
  try simp only [Act.put, List.setIfInBounds_toArray, List.set_cons_zero, List.set_cons_succ]
  refine wpM_step (i := 38) (o := ⟨some 71, _, _, _, _, _⟩) rfl (by decide +kernel) (by decide) (fun K hK => ?_)
  go_simp
  obtain ⟨v18, h18⟩ : ∃ W, W = v17.alloc (.cells #[.int .i64 12, .string ⟨#[]⟩, .string ⟨#[]⟩, .int .i64 0, .int .i64 0, .int .i64 0, .string ⟨#[]⟩, .slice (some ⟨m16, 0, none⟩) 2 2, .int .i64 12, .string ⟨#[]⟩, .string ⟨#[]⟩, .int .i64 0, .int .i64 0, .int .i64 0, .string ⟨#[]⟩, .slice (some ⟨g5 + 1, 0, none⟩) 2 2] 26) := ⟨_, rfl⟩
  rw [← h18]
  have q18 : Below v17.heap.size v17 v18 := by rw [h18]; exact (Below.refl _ _).alloc (Nat.le_refl _) _
  have b18 : Below w18.heap.size w18 v18 := b17.trans (q18.mono b17.size)
  have N18z := Lib.hid (show Blk v18 v17.heap.size 26 #[.int .i64 12, .string ⟨#[]⟩, .string ⟨#[]⟩, .int .i64 0, .int .i64 0, .int .i64 0, .string ⟨#[]⟩, .slice (some ⟨m16, 0, none⟩) 2 2, .int .i64 12, .string ⟨#[]⟩, .string ⟨#[]⟩, .int .i64 0, .int .i64 0, .int .i64 0, .string ⟨#[]⟩, .slice (some ⟨g5 + 1, 0, none⟩) 2 2] by rw [h18]; exact Blk.new _ _ _)
  clear h18
  replace T15n := Lib.hid (T15n.out.keep q18)
  replace T16 := Lib.hid (T16.out.keep q18)
  clear q18
  generalize v17.heap.size = m18 at *
  have T18 : Hid (ExAt v18 (Ex.mk 19 ⟨#[]⟩ ⟨#[]⟩ 0 nul (some ⟨m18, 0, none⟩) 2 [(Ex.mk 12 ⟨#[]⟩ ⟨#[]⟩ 0 nul (some ⟨m16, 0, none⟩) 2 [(Ex.mk 2 ⟨#[]⟩ ⟨#[]⟩ 0 nul none 0 []), (Ex.mk 1 ⟨#[]⟩ ⟨#[]⟩ 0 ⟨1, 0, ⟨#[]⟩⟩ none 0 [])]), (Ex.mk 12 ⟨#[]⟩ ⟨#[]⟩ 0 nul (some ⟨g5 + 1, 0, none⟩) 2 [(Ex.mk 2 ⟨#[]⟩ ⟨#[]⟩ 0 nul none 0 []), (Ex.mk 2 ⟨#[]⟩ ⟨#[]⟩ 1 nul none 0 [])])])) := Lib.hid (ExAt.built 19 (args := [(Ex.mk 12 ⟨#[]⟩ ⟨#[]⟩ 0 nul (some ⟨m16, 0, none⟩) 2 [(Ex.mk 2 ⟨#[]⟩ ⟨#[]⟩ 0 nul none 0 []), (Ex.mk 1 ⟨#[]⟩ ⟨#[]⟩ 0 ⟨1, 0, ⟨#[]⟩⟩ none 0 [])]), (Ex.mk 12 ⟨#[]⟩ ⟨#[]⟩ 0 nul (some ⟨g5 + 1, 0, none⟩) 2 [(Ex.mk 2 ⟨#[]⟩ ⟨#[]⟩ 0 nul none 0 []), (Ex.mk 2 ⟨#[]⟩ ⟨#[]⟩ 1 nul none 0 [])])]) N18z.out (show 2 ≤ 1000 by decide) (fun z hz => by simp at hz; rcases hz with rfl | rfl; exact T16.out; exact (LESS.out.keep b18)))
  clear N18z
  refine hK.out _ _ b18 ?_
  clear hK K
  try simp only [Act.put, List.setIfInBounds_toArray, List.set_cons_zero, List.set_cons_succ]
  refine wpM_step (i := 39) (o := ⟨some 72, _, _, _, _, _⟩) rfl (by decide +kernel) (by decide) (fun K hK => ?_)
  go_simp
  refine (node_any 19 _ _ _ _).mono ?_
  rintro e v19 ⟨rfl, q19⟩
  have b19 : Below w18.heap.size w18 v19 := b18.trans (q19.mono b18.size)
  replace T15n := Lib.hid (T15n.out.keep q19)
  replace T16 := Lib.hid (T16.out.keep q19)
  replace T18 := Lib.hid (T18.out.keep q19)
  clear q19
  refine hK.out _ _ b19 ?_
  clear hK K
  try simp only [Act.put, List.setIfInBounds_toArray, List.set_cons_zero, List.set_cons_succ]
  refine wpM_step (i := 41) (o := ⟨some 74, _, _, _, _, _⟩) rfl (by decide +kernel) (by decide) (fun K hK => ?_)
  go_simp
  have cc := Condition_any [iV (-7), nul] (Ex.mk 19 ⟨#[]⟩ ⟨#[]⟩ 0 nul (some ⟨m18, 0, none⟩) 2 [(Ex.mk 12 ⟨#[]⟩ ⟨#[]⟩ 0 nul (some ⟨m16, 0, none⟩) 2 [(Ex.mk 2 ⟨#[]⟩ ⟨#[]⟩ 0 nul none 0 []), (Ex.mk 1 ⟨#[]⟩ ⟨#[]⟩ 0 ⟨1, 0, ⟨#[]⟩⟩ none 0 [])]), (Ex.mk 12 ⟨#[]⟩ ⟨#[]⟩ 0 nul (some ⟨g5 + 1, 0, none⟩) 2 [(Ex.mk 2 ⟨#[]⟩ ⟨#[]⟩ 0 nul none 0 []), (Ex.mk 2 ⟨#[]⟩ ⟨#[]⟩ 1 nul none 0 [])])]) v19 (some ⟨g5, 0, none⟩) 2 2 T18.out (ExSm.two (ExSm.two ExSm.leaf ExSm.leaf) (ExSm.two ExSm.leaf ExSm.leaf)) (HV.out.below b19) (by decide) (fun v hv => by simp at hv; rcases hv with rfl | rfl; exact iV_ok (by decide); exact nul_ok)
  rw [show condM [iV (-7), nul] (Ex.mk 19 ⟨#[]⟩ ⟨#[]⟩ 0 nul (some ⟨m18, 0, none⟩) 2 [(Ex.mk 12 ⟨#[]⟩ ⟨#[]⟩ 0 nul (some ⟨m16, 0, none⟩) 2 [(Ex.mk 2 ⟨#[]⟩ ⟨#[]⟩ 0 nul none 0 []), (Ex.mk 1 ⟨#[]⟩ ⟨#[]⟩ 0 ⟨1, 0, ⟨#[]⟩⟩ none 0 [])]), (Ex.mk 12 ⟨#[]⟩ ⟨#[]⟩ 0 nul (some ⟨g5 + 1, 0, none⟩) 2 [(Ex.mk 2 ⟨#[]⟩ ⟨#[]⟩ 0 nul none 0 []), (Ex.mk 2 ⟨#[]⟩ ⟨#[]⟩ 1 nul none 0 [])])]) = 1 by kernel_rfl] at cc
  refine (cc).mono ?_
  rintro e v20 ⟨rfl, q20⟩
  have b20 : Below w18.heap.size w18 v20 := b19.trans (q20.mono b19.size)
  replace T15n := Lib.hid (T15n.out.keep q20)
  replace T16 := Lib.hid (T16.out.keep q20)
  replace T18 := Lib.hid (T18.out.keep q20)
  clear q20
  refine hK.out _ _ b20 ?_
  clear hK K
  try simp only [Act.put, List.setIfInBounds_toArray, List.set_cons_zero, List.set_cons_succ]
  clear T15n T16 T18
  refine wpM_take (i := 42) (oi := ⟨some 75, _, _, _, _, _⟩) (v := ?_) rfl (by decide +kernel) (by decide +kernel) (by decide +kernel) (fun _ _ _ h => h) (Or.inl ⟨by rfl, ?_⟩) b20 ?_
  case refine_2 =>
    intro w' hSw
    have P1_0' := keepcell hSw P1_0
    have P1_1' := keepcell hSw P1_1
    have P1_2' := keepcell hSw P1_2
    have P1_3' := keepcell hSw P1_3
    have P1_4' := keepcell hSw P1_4
    have P1_5' := keepcell hSw P1_5
    have P1_6' := keepcell hSw P1_6
    have P1_7' := keepcell hSw P1_7
    have P2_0' := keepcell hSw P2_0
    have P2_1' := keepcell hSw P2_1
    have P2_2' := keepcell hSw P2_2
    have P2_3' := keepcell hSw P2_3
    have P2_4' := keepcell hSw P2_4
    have P2_5' := keepcell hSw P2_5
    have P2_6' := keepcell hSw P2_6
    have P2_7' := keepcell hSw P2_7
    have P4_0' := keepcell hSw P4_0
    have P4_1' := keepcell hSw P4_1
    have P4_2' := keepcell hSw P4_2
    have P4_3' := keepcell hSw P4_3
    have P4_4' := keepcell hSw P4_4
    have P4_5' := keepcell hSw P4_5
    have P4_6' := keepcell hSw P4_6
    have P4_7' := keepcell hSw P4_7
    have P5_0' := keepcell hSw P5_0
    have P5_1' := keepcell hSw P5_1
    have P5_2' := keepcell hSw P5_2
    go_simp
    try (with_reducible rfl)
  try simp only [Act.put, List.setIfInBounds_toArray, List.set_cons_zero, List.set_cons_succ]
  refine wpM_take (i := 43) (oi := ⟨some 76, _, _, _, _, _⟩) (v := ?_) rfl (by decide +kernel) (by decide +kernel) (by decide +kernel) (fun _ _ _ h => h) (Or.inl ⟨by rfl, ?_⟩) b20 ?_
  case refine_2 =>
    intro w' hSw
    have P1_0' := keepcell hSw P1_0
    have P1_1' := keepcell hSw P1_1
    have P1_2' := keepcell hSw P1_2
    have P1_3' := keepcell hSw P1_3
    have P1_4' := keepcell hSw P1_4
    have P1_5' := keepcell hSw P1_5
    have P1_6' := keepcell hSw P1_6
    have P1_7' := keepcell hSw P1_7
    have P2_0' := keepcell hSw P2_0
    have P2_1' := keepcell hSw P2_1
    have P2_2' := keepcell hSw P2_2
    have P2_3' := keepcell hSw P2_3
    have P2_4' := keepcell hSw P2_4
    have P2_5' := keepcell hSw P2_5
    have P2_6' := keepcell hSw P2_6
    have P2_7' := keepcell hSw P2_7
    have P4_0' := keepcell hSw P4_0
    have P4_1' := keepcell hSw P4_1
    have P4_2' := keepcell hSw P4_2
    have P4_3' := keepcell hSw P4_3
    have P4_4' := keepcell hSw P4_4
    have P4_5' := keepcell hSw P4_5
    have P4_6' := keepcell hSw P4_6
    have P4_7' := keepcell hSw P4_7
    have P5_0' := keepcell hSw P5_0
    have P5_1' := keepcell hSw P5_1
    have P5_2' := keepcell hSw P5_2
    go_simp
    try (with_reducible rfl)
  try simp only [Act.put, List.setIfInBounds_toArray, List.set_cons_zero, List.set_cons_succ]
  refine wpM_take (i := 44) (oi := ⟨some 77, _, _, _, _, _⟩) (v := ?_) rfl (by decide +kernel) (by decide +kernel) (by decide +kernel) (fun _ _ _ h => h) (Or.inl ⟨by rfl, ?_⟩) b20 ?_
  case refine_2 =>
    intro w' hSw
    have P1_0' := keepcell hSw P1_0
    have P1_1' := keepcell hSw P1_1
    have P1_2' := keepcell hSw P1_2
    have P1_3' := keepcell hSw P1_3
    have P1_4' := keepcell hSw P1_4
    have P1_5' := keepcell hSw P1_5
    have P1_6' := keepcell hSw P1_6
    have P1_7' := keepcell hSw P1_7
    have P2_0' := keepcell hSw P2_0
    have P2_1' := keepcell hSw P2_1
    have P2_2' := keepcell hSw P2_2
    have P2_3' := keepcell hSw P2_3
    have P2_4' := keepcell hSw P2_4
    have P2_5' := keepcell hSw P2_5
    have P2_6' := keepcell hSw P2_6
    have P2_7' := keepcell hSw P2_7
    have P4_0' := keepcell hSw P4_0
    have P4_1' := keepcell hSw P4_1
    have P4_2' := keepcell hSw P4_2
    have P4_3' := keepcell hSw P4_3
    have P4_4' := keepcell hSw P4_4
    have P4_5' := keepcell hSw P4_5
    have P4_6' := keepcell hSw P4_6
    have P4_7' := keepcell hSw P4_7
    have P5_0' := keepcell hSw P5_0
    have P5_1' := keepcell hSw P5_1
    have P5_2' := keepcell hSw P5_2
    go_simp
    try (with_reducible rfl)
  try simp only [Act.put, List.setIfInBounds_toArray, List.set_cons_zero, List.set_cons_succ]
  refine wpM_take (i := 45) (oi := ⟨some 78, _, _, _, _, _⟩) (v := ?_) rfl (by decide +kernel) (by decide +kernel) (by decide +kernel) (fun _ _ _ h => h) (Or.inl ⟨by rfl, ?_⟩) b20 ?_
  case refine_2 =>
    intro w' hSw
    have P1_0' := keepcell hSw P1_0
    have P1_1' := keepcell hSw P1_1
    have P1_2' := keepcell hSw P1_2
    have P1_3' := keepcell hSw P1_3
    have P1_4' := keepcell hSw P1_4
    have P1_5' := keepcell hSw P1_5
    have P1_6' := keepcell hSw P1_6
    have P1_7' := keepcell hSw P1_7
    have P2_0' := keepcell hSw P2_0
    have P2_1' := keepcell hSw P2_1
    have P2_2' := keepcell hSw P2_2
    have P2_3' := keepcell hSw P2_3
    have P2_4' := keepcell hSw P2_4
    have P2_5' := keepcell hSw P2_5
    have P2_6' := keepcell hSw P2_6
    have P2_7' := keepcell hSw P2_7
    have P4_0' := keepcell hSw P4_0
    have P4_1' := keepcell hSw P4_1
    have P4_2' := keepcell hSw P4_2
    have P4_3' := keepcell hSw P4_3
    have P4_4' := keepcell hSw P4_4
    have P4_5' := keepcell hSw P4_5
    have P4_6' := keepcell hSw P4_6
    have P4_7' := keepcell hSw P4_7
    have P5_0' := keepcell hSw P5_0
    have P5_1' := keepcell hSw P5_1
    have P5_2' := keepcell hSw P5_2
    go_simp
    try (with_reducible rfl)
  try simp only [Act.put, List.setIfInBounds_toArray, List.set_cons_zero, List.set_cons_succ]
  refine wpM_take (i := 48) (oi := ⟨some 81, _, _, _, _, _⟩) (v := ?_) rfl (by decide +kernel) (by decide +kernel) (by decide +kernel) (fun _ _ _ h => h) (Or.inl ⟨by rfl, ?_⟩) b20 ?_
  case refine_2 =>
    intro w' hSw
    have P1_0' := keepcell hSw P1_0
    have P1_1' := keepcell hSw P1_1
    have P1_2' := keepcell hSw P1_2
    have P1_3' := keepcell hSw P1_3
    have P1_4' := keepcell hSw P1_4
    have P1_5' := keepcell hSw P1_5
    have P1_6' := keepcell hSw P1_6
    have P1_7' := keepcell hSw P1_7
    have P2_0' := keepcell hSw P2_0
    have P2_1' := keepcell hSw P2_1
    have P2_2' := keepcell hSw P2_2
    have P2_3' := keepcell hSw P2_3
    have P2_4' := keepcell hSw P2_4
    have P2_5' := keepcell hSw P2_5
    have P2_6' := keepcell hSw P2_6
    have P2_7' := keepcell hSw P2_7
    have P4_0' := keepcell hSw P4_0
    have P4_1' := keepcell hSw P4_1
    have P4_2' := keepcell hSw P4_2
    have P4_3' := keepcell hSw P4_3
    have P4_4' := keepcell hSw P4_4
    have P4_5' := keepcell hSw P4_5
    have P4_6' := keepcell hSw P4_6
    have P4_7' := keepcell hSw P4_7
    have P5_0' := keepcell hSw P5_0
    have P5_1' := keepcell hSw P5_1
    have P5_2' := keepcell hSw P5_2
    go_simp
    try (with_reducible rfl)
  try simp only [Act.put, List.setIfInBounds_toArray, List.set_cons_zero, List.set_cons_succ]
  refine wpM_step (i := 46) (o := ⟨some 79, _, _, _, _, _⟩) rfl (by decide +kernel) (by decide) (fun K hK => ?_)
  go_simp
  obtain ⟨v21, h21⟩ : ∃ W, W = v20.alloc (.cells #[.int .i64 2, .string ⟨#[]⟩, .string ⟨#[]⟩, .int .i64 1, .int .i64 0, .int .i64 0, .string ⟨#[]⟩, .slice none 0 0] 26) := ⟨_, rfl⟩
  rw [← h21]
  have q21 : Below v20.heap.size v20 v21 := by rw [h21]; exact (Below.refl _ _).alloc (Nat.le_refl _) _
  have b21 : Below w18.heap.size w18 v21 := b20.trans (q21.mono b20.size)
  have N21z := Lib.hid (show Blk v21 v20.heap.size 26 #[.int .i64 2, .string ⟨#[]⟩, .string ⟨#[]⟩, .int .i64 1, .int .i64 0, .int .i64 0, .string ⟨#[]⟩, .slice none 0 0] by rw [h21]; exact Blk.new _ _ _)
  clear h21
  clear q21
  generalize v20.heap.size = m21 at *
  have T21 : Hid (ExAt v21 (Ex.mk 17 ⟨#[]⟩ ⟨#[]⟩ 0 nul (some ⟨m21, 0, none⟩) 1 [(Ex.mk 2 ⟨#[]⟩ ⟨#[]⟩ 1 nul none 0 [])])) := Lib.hid (ExAt.built 17 (args := [(Ex.mk 2 ⟨#[]⟩ ⟨#[]⟩ 1 nul none 0 [])]) N21z.out (show 1 ≤ 1000 by decide) (fun z hz => by simp at hz; subst hz; exact (HY.out.keep b21)))
  clear N21z
  refine hK.out _ _ b21 ?_
  clear hK K
  try simp only [Act.put, List.setIfInBounds_toArray, List.set_cons_zero, List.set_cons_succ]
  refine wpM_step (i := 47) (o := ⟨some 80, _, _, _, _, _⟩) rfl (by decide +kernel) (by decide) (fun K hK => ?_)
  go_simp
  refine (node_any 17 _ _ _ _).mono ?_
  rintro e v22 ⟨rfl, q22⟩
  have b22 : Below w18.heap.size w18 v22 := b21.trans (q22.mono b21.size)
  replace T21 := Lib.hid (T21.out.keep q22)
  clear q22
  refine hK.out _ _ b22 ?_
  clear hK K
  try simp only [Act.put, List.setIfInBounds_toArray, List.set_cons_zero, List.set_cons_succ]
  refine wpM_step (i := 49) (o := ⟨some 82, _, _, _, _, _⟩) rfl (by decide +kernel) (by decide) (fun K hK => ?_)
  go_simp
  have cc := Condition_any [iV (-7), nul] (Ex.mk 17 ⟨#[]⟩ ⟨#[]⟩ 0 nul (some ⟨m21, 0, none⟩) 1 [(Ex.mk 2 ⟨#[]⟩ ⟨#[]⟩ 1 nul none 0 [])]) v22 (some ⟨g5, 0, none⟩) 2 2 T21.out (ExSm.one ExSm.leaf) (HV.out.below b22) (by decide) (fun v hv => by simp at hv; rcases hv with rfl | rfl; exact iV_ok (by decide); exact nul_ok)
  rw [show condM [iV (-7), nul] (Ex.mk 17 ⟨#[]⟩ ⟨#[]⟩ 0 nul (some ⟨m21, 0, none⟩) 1 [(Ex.mk 2 ⟨#[]⟩ ⟨#[]⟩ 1 nul none 0 [])]) = 1 by kernel_rfl] at cc
  refine (cc).mono ?_
  rintro e v23 ⟨rfl, q23⟩
  have b23 : Below w18.heap.size w18 v23 := b22.trans (q23.mono b22.size)
  replace T21 := Lib.hid (T21.out.keep q23)
  clear q23
  refine hK.out _ _ b23 ?_
  clear hK K
  try simp only [Act.put, List.setIfInBounds_toArray, List.set_cons_zero, List.set_cons_succ]
  clear T21
  refine wpM_take (i := 50) (oi := ⟨some 83, _, _, _, _, _⟩) (v := ?_) rfl (by decide +kernel) (by decide +kernel) (by decide +kernel) (fun _ _ _ h => h) (Or.inl ⟨by rfl, ?_⟩) b23 ?_
  case refine_2 =>
    intro w' hSw
    have P1_0' := keepcell hSw P1_0
    have P1_1' := keepcell hSw P1_1
    have P1_2' := keepcell hSw P1_2
    have P1_3' := keepcell hSw P1_3
    have P1_4' := keepcell hSw P1_4
    have P1_5' := keepcell hSw P1_5
    have P1_6' := keepcell hSw P1_6
    have P1_7' := keepcell hSw P1_7
    have P2_0' := keepcell hSw P2_0
    have P2_1' := keepcell hSw P2_1
    have P2_2' := keepcell hSw P2_2
    have P2_3' := keepcell hSw P2_3
    have P2_4' := keepcell hSw P2_4
    have P2_5' := keepcell hSw P2_5
    have P2_6' := keepcell hSw P2_6
    have P2_7' := keepcell hSw P2_7
    have P4_0' := keepcell hSw P4_0
    have P4_1' := keepcell hSw P4_1
    have P4_2' := keepcell hSw P4_2
    have P4_3' := keepcell hSw P4_3
    have P4_4' := keepcell hSw P4_4
    have P4_5' := keepcell hSw P4_5
    have P4_6' := keepcell hSw P4_6
    have P4_7' := keepcell hSw P4_7
    have P5_0' := keepcell hSw P5_0
    have P5_1' := keepcell hSw P5_1
    have P5_2' := keepcell hSw P5_2
    go_simp
    try (with_reducible rfl)
  try simp only [Act.put, List.setIfInBounds_toArray, List.set_cons_zero, List.set_cons_succ]
  refine wpM_take (i := 51) (oi := ⟨some 84, _, _, _, _, _⟩) (v := ?_) rfl (by decide +kernel) (by decide +kernel) (by decide +kernel) (fun _ _ _ h => h) (Or.inl ⟨by rfl, ?_⟩) b23 ?_
  case refine_2 =>
    intro w' hSw
    have P1_0' := keepcell hSw P1_0
    have P1_1' := keepcell hSw P1_1
    have P1_2' := keepcell hSw P1_2
    have P1_3' := keepcell hSw P1_3
    have P1_4' := keepcell hSw P1_4
    have P1_5' := keepcell hSw P1_5
    have P1_6' := keepcell hSw P1_6
    have P1_7' := keepcell hSw P1_7
    have P2_0' := keepcell hSw P2_0
    have P2_1' := keepcell hSw P2_1
    have P2_2' := keepcell hSw P2_2
    have P2_3' := keepcell hSw P2_3
    have P2_4' := keepcell hSw P2_4
    have P2_5' := keepcell hSw P2_5
    have P2_6' := keepcell hSw P2_6
    have P2_7' := keepcell hSw P2_7
    have P4_0' := keepcell hSw P4_0
    have P4_1' := keepcell hSw P4_1
    have P4_2' := keepcell hSw P4_2
    have P4_3' := keepcell hSw P4_3
    have P4_4' := keepcell hSw P4_4
    have P4_5' := keepcell hSw P4_5
    have P4_6' := keepcell hSw P4_6
    have P4_7' := keepcell hSw P4_7
    have P5_0' := keepcell hSw P5_0
    have P5_1' := keepcell hSw P5_1
    have P5_2' := keepcell hSw P5_2
    go_simp
    try (with_reducible rfl)
  try simp only [Act.put, List.setIfInBounds_toArray, List.set_cons_zero, List.set_cons_succ]
  refine wpM_take (i := 52) (oi := ⟨some 85, _, _, _, _, _⟩) (v := ?_) rfl (by decide +kernel) (by decide +kernel) (by decide +kernel) (fun _ _ _ h => h) (Or.inl ⟨by rfl, ?_⟩) b23 ?_
  case refine_2 =>
    intro w' hSw
    have P1_0' := keepcell hSw P1_0
    have P1_1' := keepcell hSw P1_1
    have P1_2' := keepcell hSw P1_2
    have P1_3' := keepcell hSw P1_3
    have P1_4' := keepcell hSw P1_4
    have P1_5' := keepcell hSw P1_5
    have P1_6' := keepcell hSw P1_6
    have P1_7' := keepcell hSw P1_7
    have P2_0' := keepcell hSw P2_0
    have P2_1' := keepcell hSw P2_1
    have P2_2' := keepcell hSw P2_2
    have P2_3' := keepcell hSw P2_3
    have P2_4' := keepcell hSw P2_4
    have P2_5' := keepcell hSw P2_5
    have P2_6' := keepcell hSw P2_6
    have P2_7' := keepcell hSw P2_7
    have P4_0' := keepcell hSw P4_0
    have P4_1' := keepcell hSw P4_1
    have P4_2' := keepcell hSw P4_2
    have P4_3' := keepcell hSw P4_3
    have P4_4' := keepcell hSw P4_4
    have P4_5' := keepcell hSw P4_5
    have P4_6' := keepcell hSw P4_6
    have P4_7' := keepcell hSw P4_7
    have P5_0' := keepcell hSw P5_0
    have P5_1' := keepcell hSw P5_1
    have P5_2' := keepcell hSw P5_2
    go_simp
    try (with_reducible rfl)
  try simp only [Act.put, List.setIfInBounds_toArray, List.set_cons_zero, List.set_cons_succ]
  refine wpM_take (i := 53) (oi := ⟨some 86, _, _, _, _, _⟩) (v := ?_) rfl (by decide +kernel) (by decide +kernel) (by decide +kernel) (fun _ _ _ h => h) (Or.inl ⟨by rfl, ?_⟩) b23 ?_
  case refine_2 =>
    intro w' hSw
    have P1_0' := keepcell hSw P1_0
    have P1_1' := keepcell hSw P1_1
    have P1_2' := keepcell hSw P1_2
    have P1_3' := keepcell hSw P1_3
    have P1_4' := keepcell hSw P1_4
    have P1_5' := keepcell hSw P1_5
    have P1_6' := keepcell hSw P1_6
    have P1_7' := keepcell hSw P1_7
    have P2_0' := keepcell hSw P2_0
    have P2_1' := keepcell hSw P2_1
    have P2_2' := keepcell hSw P2_2
    have P2_3' := keepcell hSw P2_3
    have P2_4' := keepcell hSw P2_4
    have P2_5' := keepcell hSw P2_5
    have P2_6' := keepcell hSw P2_6
    have P2_7' := keepcell hSw P2_7
    have P4_0' := keepcell hSw P4_0
    have P4_1' := keepcell hSw P4_1
    have P4_2' := keepcell hSw P4_2
    have P4_3' := keepcell hSw P4_3
    have P4_4' := keepcell hSw P4_4
    have P4_5' := keepcell hSw P4_5
    have P4_6' := keepcell hSw P4_6
    have P4_7' := keepcell hSw P4_7
    have P5_0' := keepcell hSw P5_0
    have P5_1' := keepcell hSw P5_1
    have P5_2' := keepcell hSw P5_2
    go_simp
    try (with_reducible rfl)
  try simp only [Act.put, List.setIfInBounds_toArray, List.set_cons_zero, List.set_cons_succ]
  refine wpM_take (i := 54) (oi := ⟨some 87, _, _, _, _, _⟩) (v := ?_) rfl (by decide +kernel) (by decide +kernel) (by decide +kernel) (fun _ _ _ h => h) (Or.inl ⟨by rfl, ?_⟩) b23 ?_
  case refine_2 =>
    intro w' hSw
    have P1_0' := keepcell hSw P1_0
    have P1_1' := keepcell hSw P1_1
    have P1_2' := keepcell hSw P1_2
    have P1_3' := keepcell hSw P1_3
    have P1_4' := keepcell hSw P1_4
    have P1_5' := keepcell hSw P1_5
    have P1_6' := keepcell hSw P1_6
    have P1_7' := keepcell hSw P1_7
    have P2_0' := keepcell hSw P2_0
    have P2_1' := keepcell hSw P2_1
    have P2_2' := keepcell hSw P2_2
    have P2_3' := keepcell hSw P2_3
    have P2_4' := keepcell hSw P2_4
    have P2_5' := keepcell hSw P2_5
    have P2_6' := keepcell hSw P2_6
    have P2_7' := keepcell hSw P2_7
    have P4_0' := keepcell hSw P4_0
    have P4_1' := keepcell hSw P4_1
    have P4_2' := keepcell hSw P4_2
    have P4_3' := keepcell hSw P4_3
    have P4_4' := keepcell hSw P4_4
    have P4_5' := keepcell hSw P4_5
    have P4_6' := keepcell hSw P4_6
    have P4_7' := keepcell hSw P4_7
    have P5_0' := keepcell hSw P5_0
    have P5_1' := keepcell hSw P5_1
    have P5_2' := keepcell hSw P5_2
    go_simp
    try (with_reducible rfl)
  try simp only [Act.put, List.setIfInBounds_toArray, List.set_cons_zero, List.set_cons_succ]
  refine wpM_step (i := 55) (o := ⟨some 88, _, _, _, _, _⟩) rfl (by decide +kernel) (by decide) (fun K hK => ?_)
  go_simp
  have cc := Matches_any [iV (-7), nul] (Ex.mk 12 ⟨#[]⟩ ⟨#[]⟩ 0 nul (some ⟨g5 + 1, 0, none⟩) 2 [(Ex.mk 2 ⟨#[]⟩ ⟨#[]⟩ 0 nul none 0 []), (Ex.mk 2 ⟨#[]⟩ ⟨#[]⟩ 1 nul none 0 [])]) v23 (some ⟨g5, 0, none⟩) 2 2 (LESS.out.keep b23) (ExSm.two ExSm.leaf ExSm.leaf) (HV.out.below b23) (by decide) (fun v hv => by simp at hv; rcases hv with rfl | rfl; exact iV_ok (by decide); exact nul_ok)
  rw [show (decide (Ex.op (Ex.mk 12 ⟨#[]⟩ ⟨#[]⟩ 0 nul (some ⟨g5 + 1, 0, none⟩) 2 [(Ex.mk 2 ⟨#[]⟩ ⟨#[]⟩ 0 nul none 0 []), (Ex.mk 2 ⟨#[]⟩ ⟨#[]⟩ 1 nul none 0 [])]) = 0) || decide (condM [iV (-7), nul] (Ex.mk 12 ⟨#[]⟩ ⟨#[]⟩ 0 nul (some ⟨g5 + 1, 0, none⟩) 2 [(Ex.mk 2 ⟨#[]⟩ ⟨#[]⟩ 0 nul none 0 []), (Ex.mk 2 ⟨#[]⟩ ⟨#[]⟩ 1 nul none 0 [])]) = 1)) = false by kernel_rfl] at cc
  refine (cc).mono ?_
  rintro e v24 ⟨rfl, q24⟩
  have b24 : Below w18.heap.size w18 v24 := b23.trans (q24.mono b23.size)
  clear q24
  refine hK.out _ _ b24 ?_
  clear hK K
  try simp only [Act.put, List.setIfInBounds_toArray, List.set_cons_zero, List.set_cons_succ]
  refine wpM_take (i := 56) (oi := ⟨some 89, _, _, _, _, _⟩) (v := ?_) rfl (by decide +kernel) (by decide +kernel) (by decide +kernel) (fun _ _ _ h => h) (Or.inl ⟨by rfl, ?_⟩) b24 ?_
  case refine_2 =>
    intro w' hSw
    have P1_0' := keepcell hSw P1_0
    have P1_1' := keepcell hSw P1_1
    have P1_2' := keepcell hSw P1_2
    have P1_3' := keepcell hSw P1_3
    have P1_4' := keepcell hSw P1_4
    have P1_5' := keepcell hSw P1_5
    have P1_6' := keepcell hSw P1_6
    have P1_7' := keepcell hSw P1_7
    have P2_0' := keepcell hSw P2_0
    have P2_1' := keepcell hSw P2_1
    have P2_2' := keepcell hSw P2_2
    have P2_3' := keepcell hSw P2_3
    have P2_4' := keepcell hSw P2_4
    have P2_5' := keepcell hSw P2_5
    have P2_6' := keepcell hSw P2_6
    have P2_7' := keepcell hSw P2_7
    have P4_0' := keepcell hSw P4_0
    have P4_1' := keepcell hSw P4_1
    have P4_2' := keepcell hSw P4_2
    have P4_3' := keepcell hSw P4_3
    have P4_4' := keepcell hSw P4_4
    have P4_5' := keepcell hSw P4_5
    have P4_6' := keepcell hSw P4_6
    have P4_7' := keepcell hSw P4_7
    have P5_0' := keepcell hSw P5_0
    have P5_1' := keepcell hSw P5_1
    have P5_2' := keepcell hSw P5_2
    go_simp
    try (with_reducible rfl)
  try simp only [Act.put, List.setIfInBounds_toArray, List.set_cons_zero, List.set_cons_succ]
  refine wpM_take (i := 57) (oi := ⟨some 90, _, _, _, _, _⟩) (v := ?_) rfl (by decide +kernel) (by decide +kernel) (by decide +kernel) (fun _ _ _ h => h) (Or.inl ⟨by rfl, ?_⟩) b24 ?_
  case refine_2 =>
    intro w' hSw
    have P1_0' := keepcell hSw P1_0
    have P1_1' := keepcell hSw P1_1
    have P1_2' := keepcell hSw P1_2
    have P1_3' := keepcell hSw P1_3
    have P1_4' := keepcell hSw P1_4
    have P1_5' := keepcell hSw P1_5
    have P1_6' := keepcell hSw P1_6
    have P1_7' := keepcell hSw P1_7
    have P2_0' := keepcell hSw P2_0
    have P2_1' := keepcell hSw P2_1
    have P2_2' := keepcell hSw P2_2
    have P2_3' := keepcell hSw P2_3
    have P2_4' := keepcell hSw P2_4
    have P2_5' := keepcell hSw P2_5
    have P2_6' := keepcell hSw P2_6
    have P2_7' := keepcell hSw P2_7
    have P4_0' := keepcell hSw P4_0
    have P4_1' := keepcell hSw P4_1
    have P4_2' := keepcell hSw P4_2
    have P4_3' := keepcell hSw P4_3
    have P4_4' := keepcell hSw P4_4
    have P4_5' := keepcell hSw P4_5
    have P4_6' := keepcell hSw P4_6
    have P4_7' := keepcell hSw P4_7
    have P5_0' := keepcell hSw P5_0
    have P5_1' := keepcell hSw P5_1
    have P5_2' := keepcell hSw P5_2
    go_simp
    try (with_reducible rfl)
  try simp only [Act.put, List.setIfInBounds_toArray, List.set_cons_zero, List.set_cons_succ]
  refine wpM_take (i := 58) (oi := ⟨some 91, _, _, _, _, _⟩) (v := ?_) rfl (by decide +kernel) (by decide +kernel) (by decide +kernel) (fun _ _ _ h => h) (Or.inl ⟨by rfl, ?_⟩) b24 ?_
  case refine_2 =>
    intro w' hSw
    have P1_0' := keepcell hSw P1_0
    have P1_1' := keepcell hSw P1_1
    have P1_2' := keepcell hSw P1_2
    have P1_3' := keepcell hSw P1_3
    have P1_4' := keepcell hSw P1_4
    have P1_5' := keepcell hSw P1_5
    have P1_6' := keepcell hSw P1_6
    have P1_7' := keepcell hSw P1_7
    have P2_0' := keepcell hSw P2_0
    have P2_1' := keepcell hSw P2_1
    have P2_2' := keepcell hSw P2_2
    have P2_3' := keepcell hSw P2_3
    have P2_4' := keepcell hSw P2_4
    have P2_5' := keepcell hSw P2_5
    have P2_6' := keepcell hSw P2_6
    have P2_7' := keepcell hSw P2_7
    have P4_0' := keepcell hSw P4_0
    have P4_1' := keepcell hSw P4_1
    have P4_2' := keepcell hSw P4_2
    have P4_3' := keepcell hSw P4_3
    have P4_4' := keepcell hSw P4_4
    have P4_5' := keepcell hSw P4_5
    have P4_6' := keepcell hSw P4_6
    have P4_7' := keepcell hSw P4_7
    have P5_0' := keepcell hSw P5_0
    have P5_1' := keepcell hSw P5_1
    have P5_2' := keepcell hSw P5_2
    go_simp
    try (with_reducible rfl)
  try simp only [Act.put, List.setIfInBounds_toArray, List.set_cons_zero, List.set_cons_succ]
  refine wpM_take (i := 59) (oi := ⟨some 92, _, _, _, _, _⟩) (v := ?_) rfl (by decide +kernel) (by decide +kernel) (by decide +kernel) (fun _ _ _ h => h) (Or.inl ⟨by rfl, ?_⟩) b24 ?_
  case refine_2 =>
    intro w' hSw
    have P1_0' := keepcell hSw P1_0
    have P1_1' := keepcell hSw P1_1
    have P1_2' := keepcell hSw P1_2
    have P1_3' := keepcell hSw P1_3
    have P1_4' := keepcell hSw P1_4
    have P1_5' := keepcell hSw P1_5
    have P1_6' := keepcell hSw P1_6
    have P1_7' := keepcell hSw P1_7
    have P2_0' := keepcell hSw P2_0
    have P2_1' := keepcell hSw P2_1
    have P2_2' := keepcell hSw P2_2
    have P2_3' := keepcell hSw P2_3
    have P2_4' := keepcell hSw P2_4
    have P2_5' := keepcell hSw P2_5
    have P2_6' := keepcell hSw P2_6
    have P2_7' := keepcell hSw P2_7
    have P4_0' := keepcell hSw P4_0
    have P4_1' := keepcell hSw P4_1
    have P4_2' := keepcell hSw P4_2
    have P4_3' := keepcell hSw P4_3
    have P4_4' := keepcell hSw P4_4
    have P4_5' := keepcell hSw P4_5
    have P4_6' := keepcell hSw P4_6
    have P4_7' := keepcell hSw P4_7
    have P5_0' := keepcell hSw P5_0
    have P5_1' := keepcell hSw P5_1
    have P5_2' := keepcell hSw P5_2
    go_simp
    try (with_reducible rfl)
  try simp only [Act.put, List.setIfInBounds_toArray, List.set_cons_zero, List.set_cons_succ]
  refine wpM_take (i := 60) (oi := ⟨some 93, _, _, _, _, _⟩) (v := ?_) rfl (by decide +kernel) (by decide +kernel) (by decide +kernel) (fun _ _ _ h => h) (Or.inl ⟨by rfl, ?_⟩) b24 ?_
  case refine_2 =>
    intro w' hSw
    have P1_0' := keepcell hSw P1_0
    have P1_1' := keepcell hSw P1_1
    have P1_2' := keepcell hSw P1_2
    have P1_3' := keepcell hSw P1_3
    have P1_4' := keepcell hSw P1_4
    have P1_5' := keepcell hSw P1_5
    have P1_6' := keepcell hSw P1_6
    have P1_7' := keepcell hSw P1_7
    have P2_0' := keepcell hSw P2_0
    have P2_1' := keepcell hSw P2_1
    have P2_2' := keepcell hSw P2_2
    have P2_3' := keepcell hSw P2_3
    have P2_4' := keepcell hSw P2_4
    have P2_5' := keepcell hSw P2_5
    have P2_6' := keepcell hSw P2_6
    have P2_7' := keepcell hSw P2_7
    have P4_0' := keepcell hSw P4_0
    have P4_1' := keepcell hSw P4_1
    have P4_2' := keepcell hSw P4_2
    have P4_3' := keepcell hSw P4_3
    have P4_4' := keepcell hSw P4_4
    have P4_5' := keepcell hSw P4_5
    have P4_6' := keepcell hSw P4_6
    have P4_7' := keepcell hSw P4_7
    have P5_0' := keepcell hSw P5_0
    have P5_1' := keepcell hSw P5_1
    have P5_2' := keepcell hSw P5_2
    go_simp
    try (with_reducible rfl)
  try simp only [Act.put, List.setIfInBounds_toArray, List.set_cons_zero, List.set_cons_succ]
  refine wpM_step (i := 61) (o := ⟨some 94, _, _, _, _, _⟩) rfl (by decide +kernel) (by decide) (fun K hK => ?_)
  go_simp
  have cc := Matches_any [iV (-7), nul] (Ex.mk 0 ⟨#[]⟩ ⟨#[]⟩ 0 nul none 0 []) v24 (some ⟨g5, 0, none⟩) 2 2 (ExAt.leaf 0 0 nul_ok) ExSm.leaf (HV.out.below b24) (by decide) (fun v hv => by simp at hv; rcases hv with rfl | rfl; exact iV_ok (by decide); exact nul_ok)
  rw [show (decide (Ex.op (Ex.mk 0 ⟨#[]⟩ ⟨#[]⟩ 0 nul none 0 []) = 0) || decide (condM [iV (-7), nul] (Ex.mk 0 ⟨#[]⟩ ⟨#[]⟩ 0 nul none 0 []) = 1)) = true by kernel_rfl] at cc
  refine (cc).mono ?_
  rintro e v25 ⟨rfl, q25⟩
  have b25 : Below w18.heap.size w18 v25 := b24.trans (q25.mono b24.size)
  clear q25
  refine hK.out _ _ b25 ?_
  clear hK K
  try simp only [Act.put, List.setIfInBounds_toArray, List.set_cons_zero, List.set_cons_succ]
  refine wpM_take (i := 62) (oi := ⟨some 95, _, _, _, _, _⟩) (v := ?_) rfl (by decide +kernel) (by decide +kernel) (by decide +kernel) (fun _ _ _ h => h) (Or.inl ⟨by rfl, ?_⟩) b25 ?_
  case refine_2 =>
    intro w' hSw
    have P1_0' := keepcell hSw P1_0
    have P1_1' := keepcell hSw P1_1
    have P1_2' := keepcell hSw P1_2
    have P1_3' := keepcell hSw P1_3
    have P1_4' := keepcell hSw P1_4
    have P1_5' := keepcell hSw P1_5
    have P1_6' := keepcell hSw P1_6
    have P1_7' := keepcell hSw P1_7
    have P2_0' := keepcell hSw P2_0
    have P2_1' := keepcell hSw P2_1
    have P2_2' := keepcell hSw P2_2
    have P2_3' := keepcell hSw P2_3
    have P2_4' := keepcell hSw P2_4
    have P2_5' := keepcell hSw P2_5
    have P2_6' := keepcell hSw P2_6
    have P2_7' := keepcell hSw P2_7
    have P4_0' := keepcell hSw P4_0
    have P4_1' := keepcell hSw P4_1
    have P4_2' := keepcell hSw P4_2
    have P4_3' := keepcell hSw P4_3
    have P4_4' := keepcell hSw P4_4
    have P4_5' := keepcell hSw P4_5
    have P4_6' := keepcell hSw P4_6
    have P4_7' := keepcell hSw P4_7
    have P5_0' := keepcell hSw P5_0
    have P5_1' := keepcell hSw P5_1
    have P5_2' := keepcell hSw P5_2
    go_simp
    try (with_reducible rfl)
  try simp only [Act.put, List.setIfInBounds_toArray, List.set_cons_zero, List.set_cons_succ]
  refine wpM_take (i := 63) (oi := ⟨some 96, _, _, _, _, _⟩) (v := ?_) rfl (by decide +kernel) (by decide +kernel) (by decide +kernel) (fun _ _ _ h => h) (Or.inl ⟨by rfl, ?_⟩) b25 ?_
  case refine_2 =>
    intro w' hSw
    have P1_0' := keepcell hSw P1_0
    have P1_1' := keepcell hSw P1_1
    have P1_2' := keepcell hSw P1_2
    have P1_3' := keepcell hSw P1_3
    have P1_4' := keepcell hSw P1_4
    have P1_5' := keepcell hSw P1_5
    have P1_6' := keepcell hSw P1_6
    have P1_7' := keepcell hSw P1_7
    have P2_0' := keepcell hSw P2_0
    have P2_1' := keepcell hSw P2_1
    have P2_2' := keepcell hSw P2_2
    have P2_3' := keepcell hSw P2_3
    have P2_4' := keepcell hSw P2_4
    have P2_5' := keepcell hSw P2_5
    have P2_6' := keepcell hSw P2_6
    have P2_7' := keepcell hSw P2_7
    have P4_0' := keepcell hSw P4_0
    have P4_1' := keepcell hSw P4_1
    have P4_2' := keepcell hSw P4_2
    have P4_3' := keepcell hSw P4_3
    have P4_4' := keepcell hSw P4_4
    have P4_5' := keepcell hSw P4_5
    have P4_6' := keepcell hSw P4_6
    have P4_7' := keepcell hSw P4_7
    have P5_0' := keepcell hSw P5_0
    have P5_1' := keepcell hSw P5_1
    have P5_2' := keepcell hSw P5_2
    go_simp
    try (with_reducible rfl)
  try simp only [Act.put, List.setIfInBounds_toArray, List.set_cons_zero, List.set_cons_succ]
  refine wpM_step (i := 64) (o := ⟨some 97, _, _, _, _, _⟩) rfl (by decide +kernel) (by decide) (fun K hK => ?_)
  go_simp
  have cc := Like_any ⟨#[97, 98, 99]⟩ ⟨#[97, 37]⟩ v25 (by decide) (by decide)
  rw [show likeM (ByteArray.data ⟨#[97, 37]⟩).toList (ByteArray.data ⟨#[97, 98, 99]⟩).toList = true by kernel_rfl] at cc
  refine (cc).mono ?_
  rintro e v26 ⟨rfl, q26⟩
  have b26 : Below w18.heap.size w18 v26 := b25.trans (q26.mono b25.size)
  clear q26
  refine hK.out _ _ b26 ?_
  clear hK K
  try simp only [Act.put, List.setIfInBounds_toArray, List.set_cons_zero, List.set_cons_succ]
  refine wpM_take (i := 65) (oi := ⟨some 98, _, _, _, _, _⟩) (v := ?_) rfl (by decide +kernel) (by decide +kernel) (by decide +kernel) (fun _ _ _ h => h) (Or.inl ⟨by rfl, ?_⟩) b26 ?_
  case refine_2 =>
    intro w' hSw
    have P1_0' := keepcell hSw P1_0
    have P1_1' := keepcell hSw P1_1
    have P1_2' := keepcell hSw P1_2
    have P1_3' := keepcell hSw P1_3
    have P1_4' := keepcell hSw P1_4
    have P1_5' := keepcell hSw P1_5
    have P1_6' := keepcell hSw P1_6
    have P1_7' := keepcell hSw P1_7
    have P2_0' := keepcell hSw P2_0
    have P2_1' := keepcell hSw P2_1
    have P2_2' := keepcell hSw P2_2
    have P2_3' := keepcell hSw P2_3
    have P2_4' := keepcell hSw P2_4
    have P2_5' := keepcell hSw P2_5
    have P2_6' := keepcell hSw P2_6
    have P2_7' := keepcell hSw P2_7
    have P4_0' := keepcell hSw P4_0
    have P4_1' := keepcell hSw P4_1
    have P4_2' := keepcell hSw P4_2
    have P4_3' := keepcell hSw P4_3
    have P4_4' := keepcell hSw P4_4
    have P4_5' := keepcell hSw P4_5
    have P4_6' := keepcell hSw P4_6
    have P4_7' := keepcell hSw P4_7
    have P5_0' := keepcell hSw P5_0
    have P5_1' := keepcell hSw P5_1
    have P5_2' := keepcell hSw P5_2
    go_simp
    try (with_reducible rfl)
  try simp only [Act.put, List.setIfInBounds_toArray, List.set_cons_zero, List.set_cons_succ]
  refine wpM_take (i := 66) (oi := ⟨some 99, _, _, _, _, _⟩) (v := ?_) rfl (by decide +kernel) (by decide +kernel) (by decide +kernel) (fun _ _ _ h => h) (Or.inl ⟨by rfl, ?_⟩) b26 ?_
  case refine_2 =>
    intro w' hSw
    have P1_0' := keepcell hSw P1_0
    have P1_1' := keepcell hSw P1_1
    have P1_2' := keepcell hSw P1_2
    have P1_3' := keepcell hSw P1_3
    have P1_4' := keepcell hSw P1_4
    have P1_5' := keepcell hSw P1_5
    have P1_6' := keepcell hSw P1_6
    have P1_7' := keepcell hSw P1_7
    have P2_0' := keepcell hSw P2_0
    have P2_1' := keepcell hSw P2_1
    have P2_2' := keepcell hSw P2_2
    have P2_3' := keepcell hSw P2_3
    have P2_4' := keepcell hSw P2_4
    have P2_5' := keepcell hSw P2_5
    have P2_6' := keepcell hSw P2_6
    have P2_7' := keepcell hSw P2_7
    have P4_0' := keepcell hSw P4_0
    have P4_1' := keepcell hSw P4_1
    have P4_2' := keepcell hSw P4_2
    have P4_3' := keepcell hSw P4_3
    have P4_4' := keepcell hSw P4_4
    have P4_5' := keepcell hSw P4_5
    have P4_6' := keepcell hSw P4_6
    have P4_7' := keepcell hSw P4_7
    have P5_0' := keepcell hSw P5_0
    have P5_1' := keepcell hSw P5_1
    have P5_2' := keepcell hSw P5_2
    go_simp
    try (with_reducible rfl)
  try simp only [Act.put, List.setIfInBounds_toArray, List.set_cons_zero, List.set_cons_succ]
  refine wpM_step (i := 67) (o := ⟨some 100, _, _, _, _, _⟩) rfl (by decide +kernel) (by decide) (fun K hK => ?_)
  go_simp
  have cc := Like_any ⟨#[97, 98, 99]⟩ ⟨#[95, 98, 95]⟩ v26 (by decide) (by decide)
  rw [show likeM (ByteArray.data ⟨#[95, 98, 95]⟩).toList (ByteArray.data ⟨#[97, 98, 99]⟩).toList = true by kernel_rfl] at cc
  refine (cc).mono ?_
  rintro e v27 ⟨rfl, q27⟩
  have b27 : Below w18.heap.size w18 v27 := b26.trans (q27.mono b26.size)
  clear q27
  refine hK.out _ _ b27 ?_
  clear hK K
  try simp only [Act.put, List.setIfInBounds_toArray, List.set_cons_zero, List.set_cons_succ]
  refine wpM_take (i := 68) (oi := ⟨some 101, _, _, _, _, _⟩) (v := ?_) rfl (by decide +kernel) (by decide +kernel) (by decide +kernel) (fun _ _ _ h => h) (Or.inl ⟨by rfl, ?_⟩) b27 ?_
  case refine_2 =>
    intro w' hSw
    have P1_0' := keepcell hSw P1_0
    have P1_1' := keepcell hSw P1_1
    have P1_2' := keepcell hSw P1_2
    have P1_3' := keepcell hSw P1_3
    have P1_4' := keepcell hSw P1_4
    have P1_5' := keepcell hSw P1_5
    have P1_6' := keepcell hSw P1_6
    have P1_7' := keepcell hSw P1_7
    have P2_0' := keepcell hSw P2_0
    have P2_1' := keepcell hSw P2_1
    have P2_2' := keepcell hSw P2_2
    have P2_3' := keepcell hSw P2_3
    have P2_4' := keepcell hSw P2_4
    have P2_5' := keepcell hSw P2_5
    have P2_6' := keepcell hSw P2_6
    have P2_7' := keepcell hSw P2_7
    have P4_0' := keepcell hSw P4_0
    have P4_1' := keepcell hSw P4_1
    have P4_2' := keepcell hSw P4_2
    have P4_3' := keepcell hSw P4_3
    have P4_4' := keepcell hSw P4_4
    have P4_5' := keepcell hSw P4_5
    have P4_6' := keepcell hSw P4_6
    have P4_7' := keepcell hSw P4_7
    have P5_0' := keepcell hSw P5_0
    have P5_1' := keepcell hSw P5_1
    have P5_2' := keepcell hSw P5_2
    go_simp
    try (with_reducible rfl)
  try simp only [Act.put, List.setIfInBounds_toArray, List.set_cons_zero, List.set_cons_succ]
  refine wpM_take (i := 69) (oi := ⟨some 102, _, _, _, _, _⟩) (v := ?_) rfl (by decide +kernel) (by decide +kernel) (by decide +kernel) (fun _ _ _ h => h) (Or.inl ⟨by rfl, ?_⟩) b27 ?_
  case refine_2 =>
    intro w' hSw
    have P1_0' := keepcell hSw P1_0
    have P1_1' := keepcell hSw P1_1
    have P1_2' := keepcell hSw P1_2
    have P1_3' := keepcell hSw P1_3
    have P1_4' := keepcell hSw P1_4
    have P1_5' := keepcell hSw P1_5
    have P1_6' := keepcell hSw P1_6
    have P1_7' := keepcell hSw P1_7
    have P2_0' := keepcell hSw P2_0
    have P2_1' := keepcell hSw P2_1
    have P2_2' := keepcell hSw P2_2
    have P2_3' := keepcell hSw P2_3
    have P2_4' := keepcell hSw P2_4
    have P2_5' := keepcell hSw P2_5
    have P2_6' := keepcell hSw P2_6
    have P2_7' := keepcell hSw P2_7
    have P4_0' := keepcell hSw P4_0
    have P4_1' := keepcell hSw P4_1
    have P4_2' := keepcell hSw P4_2
    have P4_3' := keepcell hSw P4_3
    have P4_4' := keepcell hSw P4_4
    have P4_5' := keepcell hSw P4_5
    have P4_6' := keepcell hSw P4_6
    have P4_7' := keepcell hSw P4_7
    have P5_0' := keepcell hSw P5_0
    have P5_1' := keepcell hSw P5_1
    have P5_2' := keepcell hSw P5_2
    go_simp
    try (with_reducible rfl)
  try simp only [Act.put, List.setIfInBounds_toArray, List.set_cons_zero, List.set_cons_succ]
  refine wpM_step (i := 70) (o := ⟨some 103, _, _, _, _, _⟩) rfl (by decide +kernel) (by decide) (fun K hK => ?_)
  go_simp
  have cc := Like_any ⟨#[97, 98, 99]⟩ ⟨#[98, 37]⟩ v27 (by decide) (by decide)
  rw [show likeM (ByteArray.data ⟨#[98, 37]⟩).toList (ByteArray.data ⟨#[97, 98, 99]⟩).toList = false by kernel_rfl] at cc
  refine (cc).mono ?_
  rintro e v28 ⟨rfl, q28⟩
  have b28 : Below w18.heap.size w18 v28 := b27.trans (q28.mono b27.size)
  clear q28
  refine hK.out _ _ b28 ?_
  clear hK K
  try simp only [Act.put, List.setIfInBounds_toArray, List.set_cons_zero, List.set_cons_succ]
  refine wpM_take (i := 71) (oi := ⟨some 104, _, _, _, _, _⟩) (v := ?_) rfl (by decide +kernel) (by decide +kernel) (by decide +kernel) (fun _ _ _ h => h) (Or.inl ⟨by rfl, ?_⟩) b28 ?_
  case refine_2 =>
    intro w' hSw
    have P1_0' := keepcell hSw P1_0
    have P1_1' := keepcell hSw P1_1
    have P1_2' := keepcell hSw P1_2
    have P1_3' := keepcell hSw P1_3
    have P1_4' := keepcell hSw P1_4
    have P1_5' := keepcell hSw P1_5
    have P1_6' := keepcell hSw P1_6
    have P1_7' := keepcell hSw P1_7
    have P2_0' := keepcell hSw P2_0
    have P2_1' := keepcell hSw P2_1
    have P2_2' := keepcell hSw P2_2
    have P2_3' := keepcell hSw P2_3
    have P2_4' := keepcell hSw P2_4
    have P2_5' := keepcell hSw P2_5
    have P2_6' := keepcell hSw P2_6
    have P2_7' := keepcell hSw P2_7
    have P4_0' := keepcell hSw P4_0
    have P4_1' := keepcell hSw P4_1
    have P4_2' := keepcell hSw P4_2
    have P4_3' := keepcell hSw P4_3
    have P4_4' := keepcell hSw P4_4
    have P4_5' := keepcell hSw P4_5
    have P4_6' := keepcell hSw P4_6
    have P4_7' := keepcell hSw P4_7
    have P5_0' := keepcell hSw P5_0
    have P5_1' := keepcell hSw P5_1
    have P5_2' := keepcell hSw P5_2
    go_simp
    try (with_reducible rfl)
  try simp only [Act.put, List.setIfInBounds_toArray, List.set_cons_zero, List.set_cons_succ]
  refine wpM_take (i := 72) (oi := ⟨some 105, _, _, _, _, _⟩) (v := ?_) rfl (by decide +kernel) (by decide +kernel) (by decide +kernel) (fun _ _ _ h => h) (Or.inl ⟨by rfl, ?_⟩) b28 ?_
  case refine_2 =>
    intro w' hSw
    have P1_0' := keepcell hSw P1_0
    have P1_1' := keepcell hSw P1_1
    have P1_2' := keepcell hSw P1_2
    have P1_3' := keepcell hSw P1_3
    have P1_4' := keepcell hSw P1_4
    have P1_5' := keepcell hSw P1_5
    have P1_6' := keepcell hSw P1_6
    have P1_7' := keepcell hSw P1_7
    have P2_0' := keepcell hSw P2_0
    have P2_1' := keepcell hSw P2_1
    have P2_2' := keepcell hSw P2_2
    have P2_3' := keepcell hSw P2_3
    have P2_4' := keepcell hSw P2_4
    have P2_5' := keepcell hSw P2_5
    have P2_6' := keepcell hSw P2_6
    have P2_7' := keepcell hSw P2_7
    have P4_0' := keepcell hSw P4_0
    have P4_1' := keepcell hSw P4_1
    have P4_2' := keepcell hSw P4_2
    have P4_3' := keepcell hSw P4_3
    have P4_4' := keepcell hSw P4_4
    have P4_5' := keepcell hSw P4_5
    have P4_6' := keepcell hSw P4_6
    have P4_7' := keepcell hSw P4_7
    have P5_0' := keepcell hSw P5_0
    have P5_1' := keepcell hSw P5_1
    have P5_2' := keepcell hSw P5_2
    go_simp
    try (with_reducible rfl)
  try simp only [Act.put, List.setIfInBounds_toArray, List.set_cons_zero, List.set_cons_succ]
  refine wpM_take (i := 73) (oi := ⟨some 106, _, _, _, _, _⟩) (v := ?_) rfl (by decide +kernel) (by decide +kernel) (by decide +kernel) (fun _ _ _ h => h) (Or.inl ⟨by rfl, ?_⟩) b28 ?_
  case refine_2 =>
    intro w' hSw
    have P1_0' := keepcell hSw P1_0
    have P1_1' := keepcell hSw P1_1
    have P1_2' := keepcell hSw P1_2
    have P1_3' := keepcell hSw P1_3
    have P1_4' := keepcell hSw P1_4
    have P1_5' := keepcell hSw P1_5
    have P1_6' := keepcell hSw P1_6
    have P1_7' := keepcell hSw P1_7
    have P2_0' := keepcell hSw P2_0
    have P2_1' := keepcell hSw P2_1
    have P2_2' := keepcell hSw P2_2
    have P2_3' := keepcell hSw P2_3
    have P2_4' := keepcell hSw P2_4
    have P2_5' := keepcell hSw P2_5
    have P2_6' := keepcell hSw P2_6
    have P2_7' := keepcell hSw P2_7
    have P4_0' := keepcell hSw P4_0
    have P4_1' := keepcell hSw P4_1
    have P4_2' := keepcell hSw P4_2
    have P4_3' := keepcell hSw P4_3
    have P4_4' := keepcell hSw P4_4
    have P4_5' := keepcell hSw P4_5
    have P4_6' := keepcell hSw P4_6
    have P4_7' := keepcell hSw P4_7
    have P5_0' := keepcell hSw P5_0
    have P5_1' := keepcell hSw P5_1
    have P5_2' := keepcell hSw P5_2
    go_simp
    try (with_reducible rfl)
  try simp only [Act.put, List.setIfInBounds_toArray, List.set_cons_zero, List.set_cons_succ]
  refine wpM_step (i := 74) (o := ⟨some 107, _, _, _, _, _⟩) rfl (by decide +kernel) (by decide) (fun K hK => ?_)
  go_simp
  have cc := Like_any ⟨#[97, 98, 99]⟩ ⟨#[97, 98]⟩ v28 (by decide) (by decide)
  rw [show likeM (ByteArray.data ⟨#[97, 98]⟩).toList (ByteArray.data ⟨#[97, 98, 99]⟩).toList = false by kernel_rfl] at cc
  refine (cc).mono ?_
  rintro e v29 ⟨rfl, q29⟩
  have b29 : Below w18.heap.size w18 v29 := b28.trans (q29.mono b28.size)
  clear q29
  refine hK.out _ _ b29 ?_
  clear hK K
  try simp only [Act.put, List.setIfInBounds_toArray, List.set_cons_zero, List.set_cons_succ]
  refine wpM_take (i := 75) (oi := ⟨some 108, _, _, _, _, _⟩) (v := ?_) rfl (by decide +kernel) (by decide +kernel) (by decide +kernel) (fun _ _ _ h => h) (Or.inl ⟨by rfl, ?_⟩) b29 ?_
  case refine_2 =>
    intro w' hSw
    have P1_0' := keepcell hSw P1_0
    have P1_1' := keepcell hSw P1_1
    have P1_2' := keepcell hSw P1_2
    have P1_3' := keepcell hSw P1_3
    have P1_4' := keepcell hSw P1_4
    have P1_5' := keepcell hSw P1_5
    have P1_6' := keepcell hSw P1_6
    have P1_7' := keepcell hSw P1_7
    have P2_0' := keepcell hSw P2_0
    have P2_1' := keepcell hSw P2_1
    have P2_2' := keepcell hSw P2_2
    have P2_3' := keepcell hSw P2_3
    have P2_4' := keepcell hSw P2_4
    have P2_5' := keepcell hSw P2_5
    have P2_6' := keepcell hSw P2_6
    have P2_7' := keepcell hSw P2_7
    have P4_0' := keepcell hSw P4_0
    have P4_1' := keepcell hSw P4_1
    have P4_2' := keepcell hSw P4_2
    have P4_3' := keepcell hSw P4_3
    have P4_4' := keepcell hSw P4_4
    have P4_5' := keepcell hSw P4_5
    have P4_6' := keepcell hSw P4_6
    have P4_7' := keepcell hSw P4_7
    have P5_0' := keepcell hSw P5_0
    have P5_1' := keepcell hSw P5_1
    have P5_2' := keepcell hSw P5_2
    go_simp
    try (with_reducible rfl)
  try simp only [Act.put, List.setIfInBounds_toArray, List.set_cons_zero, List.set_cons_succ]
  refine wpM_take (i := 76) (oi := ⟨some 109, _, _, _, _, _⟩) (v := ?_) rfl (by decide +kernel) (by decide +kernel) (by decide +kernel) (fun _ _ _ h => h) (Or.inl ⟨by rfl, ?_⟩) b29 ?_
  case refine_2 =>
    intro w' hSw
    have P1_0' := keepcell hSw P1_0
    have P1_1' := keepcell hSw P1_1
    have P1_2' := keepcell hSw P1_2
    have P1_3' := keepcell hSw P1_3
    have P1_4' := keepcell hSw P1_4
    have P1_5' := keepcell hSw P1_5
    have P1_6' := keepcell hSw P1_6
    have P1_7' := keepcell hSw P1_7
    have P2_0' := keepcell hSw P2_0
    have P2_1' := keepcell hSw P2_1
    have P2_2' := keepcell hSw P2_2
    have P2_3' := keepcell hSw P2_3
    have P2_4' := keepcell hSw P2_4
    have P2_5' := keepcell hSw P2_5
    have P2_6' := keepcell hSw P2_6
    have P2_7' := keepcell hSw P2_7
    have P4_0' := keepcell hSw P4_0
    have P4_1' := keepcell hSw P4_1
    have P4_2' := keepcell hSw P4_2
    have P4_3' := keepcell hSw P4_3
    have P4_4' := keepcell hSw P4_4
    have P4_5' := keepcell hSw P4_5
    have P4_6' := keepcell hSw P4_6
    have P4_7' := keepcell hSw P4_7
    have P5_0' := keepcell hSw P5_0
    have P5_1' := keepcell hSw P5_1
    have P5_2' := keepcell hSw P5_2
    go_simp
    try (with_reducible rfl)
  try simp only [Act.put, List.setIfInBounds_toArray, List.set_cons_zero, List.set_cons_succ]
  refine wpM_take (i := 77) (oi := ⟨some 110, _, _, _, _, _⟩) (v := ?_) rfl (by decide +kernel) (by decide +kernel) (by decide +kernel) (fun _ _ _ h => h) (Or.inl ⟨by rfl, ?_⟩) b29 ?_
  case refine_2 =>
    intro w' hSw
    have P1_0' := keepcell hSw P1_0
    have P1_1' := keepcell hSw P1_1
    have P1_2' := keepcell hSw P1_2
    have P1_3' := keepcell hSw P1_3
    have P1_4' := keepcell hSw P1_4
    have P1_5' := keepcell hSw P1_5
    have P1_6' := keepcell hSw P1_6
    have P1_7' := keepcell hSw P1_7
    have P2_0' := keepcell hSw P2_0
    have P2_1' := keepcell hSw P2_1
    have P2_2' := keepcell hSw P2_2
    have P2_3' := keepcell hSw P2_3
    have P2_4' := keepcell hSw P2_4
    have P2_5' := keepcell hSw P2_5
    have P2_6' := keepcell hSw P2_6
    have P2_7' := keepcell hSw P2_7
    have P4_0' := keepcell hSw P4_0
    have P4_1' := keepcell hSw P4_1
    have P4_2' := keepcell hSw P4_2
    have P4_3' := keepcell hSw P4_3
    have P4_4' := keepcell hSw P4_4
    have P4_5' := keepcell hSw P4_5
    have P4_6' := keepcell hSw P4_6
    have P4_7' := keepcell hSw P4_7
    have P5_0' := keepcell hSw P5_0
    have P5_1' := keepcell hSw P5_1
    have P5_2' := keepcell hSw P5_2
    go_simp
    try (with_reducible rfl)
  try simp only [Act.put, List.setIfInBounds_toArray, List.set_cons_zero, List.set_cons_succ]
  refine wpM_take (i := 78) (oi := ⟨some 111, _, _, _, _, _⟩) (v := ?_) rfl (by decide +kernel) (by decide +kernel) (by decide +kernel) (fun _ _ _ h => h) (Or.inl ⟨by rfl, ?_⟩) b29 ?_
  case refine_2 =>
    intro w' hSw
    have P1_0' := keepcell hSw P1_0
    have P1_1' := keepcell hSw P1_1
    have P1_2' := keepcell hSw P1_2
    have P1_3' := keepcell hSw P1_3
    have P1_4' := keepcell hSw P1_4
    have P1_5' := keepcell hSw P1_5
    have P1_6' := keepcell hSw P1_6
    have P1_7' := keepcell hSw P1_7
    have P2_0' := keepcell hSw P2_0
    have P2_1' := keepcell hSw P2_1
    have P2_2' := keepcell hSw P2_2
    have P2_3' := keepcell hSw P2_3
    have P2_4' := keepcell hSw P2_4
    have P2_5' := keepcell hSw P2_5
    have P2_6' := keepcell hSw P2_6
    have P2_7' := keepcell hSw P2_7
    have P4_0' := keepcell hSw P4_0
    have P4_1' := keepcell hSw P4_1
    have P4_2' := keepcell hSw P4_2
    have P4_3' := keepcell hSw P4_3
    have P4_4' := keepcell hSw P4_4
    have P4_5' := keepcell hSw P4_5
    have P4_6' := keepcell hSw P4_6
    have P4_7' := keepcell hSw P4_7
    have P5_0' := keepcell hSw P5_0
    have P5_1' := keepcell hSw P5_1
    have P5_2' := keepcell hSw P5_2
    go_simp
    try (with_reducible rfl)
  try simp only [Act.put, List.setIfInBounds_toArray, List.set_cons_zero, List.set_cons_succ]
  refine wpM_take (i := 79) (oi := ⟨some 112, _, _, _, _, _⟩) (v := ?_) rfl (by decide +kernel) (by decide +kernel) (by decide +kernel) (fun _ _ _ h => h) (Or.inl ⟨by rfl, ?_⟩) b29 ?_
  case refine_2 =>
    intro w' hSw
    have P1_0' := keepcell hSw P1_0
    have P1_1' := keepcell hSw P1_1
    have P1_2' := keepcell hSw P1_2
    have P1_3' := keepcell hSw P1_3
    have P1_4' := keepcell hSw P1_4
    have P1_5' := keepcell hSw P1_5
    have P1_6' := keepcell hSw P1_6
    have P1_7' := keepcell hSw P1_7
    have P2_0' := keepcell hSw P2_0
    have P2_1' := keepcell hSw P2_1
    have P2_2' := keepcell hSw P2_2
    have P2_3' := keepcell hSw P2_3
    have P2_4' := keepcell hSw P2_4
    have P2_5' := keepcell hSw P2_5
    have P2_6' := keepcell hSw P2_6
    have P2_7' := keepcell hSw P2_7
    have P4_0' := keepcell hSw P4_0
    have P4_1' := keepcell hSw P4_1
    have P4_2' := keepcell hSw P4_2
    have P4_3' := keepcell hSw P4_3
    have P4_4' := keepcell hSw P4_4
    have P4_5' := keepcell hSw P4_5
    have P4_6' := keepcell hSw P4_6
    have P4_7' := keepcell hSw P4_7
    have P5_0' := keepcell hSw P5_0
    have P5_1' := keepcell hSw P5_1
    have P5_2' := keepcell hSw P5_2
    go_simp
    try (with_reducible rfl)
  try simp only [Act.put, List.setIfInBounds_toArray, List.set_cons_zero, List.set_cons_succ]
  refine wpM_take (i := 80) (oi := ⟨some 113, _, _, _, _, _⟩) (v := ?_) rfl (by decide +kernel) (by decide +kernel) (by decide +kernel) (fun _ _ _ h => h) (Or.inl ⟨by rfl, ?_⟩) b29 ?_
  case refine_2 =>
    intro w' hSw
    have P1_0' := keepcell hSw P1_0
    have P1_1' := keepcell hSw P1_1
    have P1_2' := keepcell hSw P1_2
    have P1_3' := keepcell hSw P1_3
    have P1_4' := keepcell hSw P1_4
    have P1_5' := keepcell hSw P1_5
    have P1_6' := keepcell hSw P1_6
    have P1_7' := keepcell hSw P1_7
    have P2_0' := keepcell hSw P2_0
    have P2_1' := keepcell hSw P2_1
    have P2_2' := keepcell hSw P2_2
    have P2_3' := keepcell hSw P2_3
    have P2_4' := keepcell hSw P2_4
    have P2_5' := keepcell hSw P2_5
    have P2_6' := keepcell hSw P2_6
    have P2_7' := keepcell hSw P2_7
    have P4_0' := keepcell hSw P4_0
    have P4_1' := keepcell hSw P4_1
    have P4_2' := keepcell hSw P4_2
    have P4_3' := keepcell hSw P4_3
    have P4_4' := keepcell hSw P4_4
    have P4_5' := keepcell hSw P4_5
    have P4_6' := keepcell hSw P4_6
    have P4_7' := keepcell hSw P4_7
    have P5_0' := keepcell hSw P5_0
    have P5_1' := keepcell hSw P5_1
    have P5_2' := keepcell hSw P5_2
    go_simp
    try (with_reducible rfl)
  try simp only [Act.put, List.setIfInBounds_toArray, List.set_cons_zero, List.set_cons_succ]
  refine wpM_take (i := 81) (oi := ⟨some 114, _, _, _, _, _⟩) (v := ?_) rfl (by decide +kernel) (by decide +kernel) (by decide +kernel) (fun _ _ _ h => h) (Or.inl ⟨by rfl, ?_⟩) b29 ?_
  case refine_2 =>
    intro w' hSw
    have P1_0' := keepcell hSw P1_0
    have P1_1' := keepcell hSw P1_1
    have P1_2' := keepcell hSw P1_2
    have P1_3' := keepcell hSw P1_3
    have P1_4' := keepcell hSw P1_4
    have P1_5' := keepcell hSw P1_5
    have P1_6' := keepcell hSw P1_6
    have P1_7' := keepcell hSw P1_7
    have P2_0' := keepcell hSw P2_0
    have P2_1' := keepcell hSw P2_1
    have P2_2' := keepcell hSw P2_2
    have P2_3' := keepcell hSw P2_3
    have P2_4' := keepcell hSw P2_4
    have P2_5' := keepcell hSw P2_5
    have P2_6' := keepcell hSw P2_6
    have P2_7' := keepcell hSw P2_7
    have P4_0' := keepcell hSw P4_0
    have P4_1' := keepcell hSw P4_1
    have P4_2' := keepcell hSw P4_2
    have P4_3' := keepcell hSw P4_3
    have P4_4' := keepcell hSw P4_4
    have P4_5' := keepcell hSw P4_5
    have P4_6' := keepcell hSw P4_6
    have P4_7' := keepcell hSw P4_7
    have P5_0' := keepcell hSw P5_0
    have P5_1' := keepcell hSw P5_1
    have P5_2' := keepcell hSw P5_2
    go_simp
    try (with_reducible rfl)
  try simp only [Act.put, List.setIfInBounds_toArray, List.set_cons_zero, List.set_cons_succ]
  refine wpM_take (i := 82) (oi := ⟨some 115, _, _, _, _, _⟩) (v := ?_) rfl (by decide +kernel) (by decide +kernel) (by decide +kernel) (fun _ _ _ h => h) (Or.inl ⟨by rfl, ?_⟩) b29 ?_
  case refine_2 =>
    intro w' hSw
    have P1_0' := keepcell hSw P1_0
    have P1_1' := keepcell hSw P1_1
    have P1_2' := keepcell hSw P1_2
    have P1_3' := keepcell hSw P1_3
    have P1_4' := keepcell hSw P1_4
    have P1_5' := keepcell hSw P1_5
    have P1_6' := keepcell hSw P1_6
    have P1_7' := keepcell hSw P1_7
    have P2_0' := keepcell hSw P2_0
    have P2_1' := keepcell hSw P2_1
    have P2_2' := keepcell hSw P2_2
    have P2_3' := keepcell hSw P2_3
    have P2_4' := keepcell hSw P2_4
    have P2_5' := keepcell hSw P2_5
    have P2_6' := keepcell hSw P2_6
    have P2_7' := keepcell hSw P2_7
    have P4_0' := keepcell hSw P4_0
    have P4_1' := keepcell hSw P4_1
    have P4_2' := keepcell hSw P4_2
    have P4_3' := keepcell hSw P4_3
    have P4_4' := keepcell hSw P4_4
    have P4_5' := keepcell hSw P4_5
    have P4_6' := keepcell hSw P4_6
    have P4_7' := keepcell hSw P4_7
    have P5_0' := keepcell hSw P5_0
    have P5_1' := keepcell hSw P5_1
    have P5_2' := keepcell hSw P5_2
    go_simp
    try (with_reducible rfl)
  try simp only [Act.put, List.setIfInBounds_toArray, List.set_cons_zero, List.set_cons_succ]
  refine wpM_step (i := 83) (o := ⟨some 116, _, _, _, _, _⟩) rfl (by decide +kernel) (by decide) (fun K hK => ?_)
  go_simp
  refine (integer_any (-4) _).mono ?_
  rintro e v30 ⟨rfl, q30⟩
  have b30 : Below w18.heap.size w18 v30 := b29.trans (q30.mono b29.size)
  clear q30
  refine hK.out _ _ b30 ?_
  clear hK K
  try simp only [Act.put, List.setIfInBounds_toArray, List.set_cons_zero, List.set_cons_succ]
  refine wpM_take (i := 84) (oi := ⟨some 117, _, _, _, _, _⟩) (v := ?_) rfl (by decide +kernel) (by decide +kernel) (by decide +kernel) (fun _ _ _ h => h) (Or.inl ⟨by rfl, ?_⟩) b30 ?_
  case refine_2 =>
    intro w' hSw
    have P1_0' := keepcell hSw P1_0
    have P1_1' := keepcell hSw P1_1
    have P1_2' := keepcell hSw P1_2
    have P1_3' := keepcell hSw P1_3
    have P1_4' := keepcell hSw P1_4
    have P1_5' := keepcell hSw P1_5
    have P1_6' := keepcell hSw P1_6
    have P1_7' := keepcell hSw P1_7
    have P2_0' := keepcell hSw P2_0
    have P2_1' := keepcell hSw P2_1
    have P2_2' := keepcell hSw P2_2
    have P2_3' := keepcell hSw P2_3
    have P2_4' := keepcell hSw P2_4
    have P2_5' := keepcell hSw P2_5
    have P2_6' := keepcell hSw P2_6
    have P2_7' := keepcell hSw P2_7
    have P4_0' := keepcell hSw P4_0
    have P4_1' := keepcell hSw P4_1
    have P4_2' := keepcell hSw P4_2
    have P4_3' := keepcell hSw P4_3
    have P4_4' := keepcell hSw P4_4
    have P4_5' := keepcell hSw P4_5
    have P4_6' := keepcell hSw P4_6
    have P4_7' := keepcell hSw P4_7
    have P5_0' := keepcell hSw P5_0
    have P5_1' := keepcell hSw P5_1
    have P5_2' := keepcell hSw P5_2
    go_simp
    try (with_reducible rfl)
  try simp only [Act.put, List.setIfInBounds_toArray, List.set_cons_zero, List.set_cons_succ]
  refine wpM_take (i := 85) (oi := ⟨some 118, _, _, _, _, _⟩) (v := ?_) rfl (by decide +kernel) (by decide +kernel) (by decide +kernel) (fun _ _ _ h => h) (Or.inl ⟨by rfl, ?_⟩) b30 ?_
  case refine_2 =>
    intro w' hSw
    have P1_0' := keepcell hSw P1_0
    have P1_1' := keepcell hSw P1_1
    have P1_2' := keepcell hSw P1_2
    have P1_3' := keepcell hSw P1_3
    have P1_4' := keepcell hSw P1_4
    have P1_5' := keepcell hSw P1_5
    have P1_6' := keepcell hSw P1_6
    have P1_7' := keepcell hSw P1_7
    have P2_0' := keepcell hSw P2_0
    have P2_1' := keepcell hSw P2_1
    have P2_2' := keepcell hSw P2_2
    have P2_3' := keepcell hSw P2_3
    have P2_4' := keepcell hSw P2_4
    have P2_5' := keepcell hSw P2_5
    have P2_6' := keepcell hSw P2_6
    have P2_7' := keepcell hSw P2_7
    have P4_0' := keepcell hSw P4_0
    have P4_1' := keepcell hSw P4_1
    have P4_2' := keepcell hSw P4_2
    have P4_3' := keepcell hSw P4_3
    have P4_4' := keepcell hSw P4_4
    have P4_5' := keepcell hSw P4_5
    have P4_6' := keepcell hSw P4_6
    have P4_7' := keepcell hSw P4_7
    have P5_0' := keepcell hSw P5_0
    have P5_1' := keepcell hSw P5_1
    have P5_2' := keepcell hSw P5_2
    go_simp
    try (with_reducible rfl)
  try simp only [Act.put, List.setIfInBounds_toArray, List.set_cons_zero, List.set_cons_succ]
  refine wpM_take (i := 86) (oi := ⟨some 119, _, _, _, _, _⟩) (v := ?_) rfl (by decide +kernel) (by decide +kernel) (by decide +kernel) (fun _ _ _ h => h) (Or.inl ⟨by rfl, ?_⟩) b30 ?_
  case refine_2 =>
    intro w' hSw
    have P1_0' := keepcell hSw P1_0
    have P1_1' := keepcell hSw P1_1
    have P1_2' := keepcell hSw P1_2
    have P1_3' := keepcell hSw P1_3
    have P1_4' := keepcell hSw P1_4
    have P1_5' := keepcell hSw P1_5
    have P1_6' := keepcell hSw P1_6
    have P1_7' := keepcell hSw P1_7
    have P2_0' := keepcell hSw P2_0
    have P2_1' := keepcell hSw P2_1
    have P2_2' := keepcell hSw P2_2
    have P2_3' := keepcell hSw P2_3
    have P2_4' := keepcell hSw P2_4
    have P2_5' := keepcell hSw P2_5
    have P2_6' := keepcell hSw P2_6
    have P2_7' := keepcell hSw P2_7
    have P4_0' := keepcell hSw P4_0
    have P4_1' := keepcell hSw P4_1
    have P4_2' := keepcell hSw P4_2
    have P4_3' := keepcell hSw P4_3
    have P4_4' := keepcell hSw P4_4
    have P4_5' := keepcell hSw P4_5
    have P4_6' := keepcell hSw P4_6
    have P4_7' := keepcell hSw P4_7
    have P5_0' := keepcell hSw P5_0
    have P5_1' := keepcell hSw P5_1
    have P5_2' := keepcell hSw P5_2
    go_simp
    try (with_reducible rfl)
  try simp only [Act.put, List.setIfInBounds_toArray, List.set_cons_zero, List.set_cons_succ]
  refine wpM_take (i := 87) (oi := ⟨some 120, _, _, _, _, _⟩) (v := ?_) rfl (by decide +kernel) (by decide +kernel) (by decide +kernel) (fun _ _ _ h => h) (Or.inl ⟨by rfl, ?_⟩) b30 ?_
  case refine_2 =>
    intro w' hSw
    have P1_0' := keepcell hSw P1_0
    have P1_1' := keepcell hSw P1_1
    have P1_2' := keepcell hSw P1_2
    have P1_3' := keepcell hSw P1_3
    have P1_4' := keepcell hSw P1_4
    have P1_5' := keepcell hSw P1_5
    have P1_6' := keepcell hSw P1_6
    have P1_7' := keepcell hSw P1_7
    have P2_0' := keepcell hSw P2_0
    have P2_1' := keepcell hSw P2_1
    have P2_2' := keepcell hSw P2_2
    have P2_3' := keepcell hSw P2_3
    have P2_4' := keepcell hSw P2_4
    have P2_5' := keepcell hSw P2_5
    have P2_6' := keepcell hSw P2_6
    have P2_7' := keepcell hSw P2_7
    have P4_0' := keepcell hSw P4_0
    have P4_1' := keepcell hSw P4_1
    have P4_2' := keepcell hSw P4_2
    have P4_3' := keepcell hSw P4_3
    have P4_4' := keepcell hSw P4_4
    have P4_5' := keepcell hSw P4_5
    have P4_6' := keepcell hSw P4_6
    have P4_7' := keepcell hSw P4_7
    have P5_0' := keepcell hSw P5_0
    have P5_1' := keepcell hSw P5_1
    have P5_2' := keepcell hSw P5_2
    go_simp
    try (with_reducible rfl)
  try simp only [Act.put, List.setIfInBounds_toArray, List.set_cons_zero, List.set_cons_succ]
  refine wpM_take (i := 88) (oi := ⟨some 121, _, _, _, _, _⟩) (v := ?_) rfl (by decide +kernel) (by decide +kernel) (by decide +kernel) (fun _ _ _ h => h) (Or.inl ⟨by rfl, ?_⟩) b30 ?_
  case refine_2 =>
    intro w' hSw
    have P1_0' := keepcell hSw P1_0
    have P1_1' := keepcell hSw P1_1
    have P1_2' := keepcell hSw P1_2
    have P1_3' := keepcell hSw P1_3
    have P1_4' := keepcell hSw P1_4
    have P1_5' := keepcell hSw P1_5
    have P1_6' := keepcell hSw P1_6
    have P1_7' := keepcell hSw P1_7
    have P2_0' := keepcell hSw P2_0
    have P2_1' := keepcell hSw P2_1
    have P2_2' := keepcell hSw P2_2
    have P2_3' := keepcell hSw P2_3
    have P2_4' := keepcell hSw P2_4
    have P2_5' := keepcell hSw P2_5
    have P2_6' := keepcell hSw P2_6
    have P2_7' := keepcell hSw P2_7
    have P4_0' := keepcell hSw P4_0
    have P4_1' := keepcell hSw P4_1
    have P4_2' := keepcell hSw P4_2
    have P4_3' := keepcell hSw P4_3
    have P4_4' := keepcell hSw P4_4
    have P4_5' := keepcell hSw P4_5
    have P4_6' := keepcell hSw P4_6
    have P4_7' := keepcell hSw P4_7
    have P5_0' := keepcell hSw P5_0
    have P5_1' := keepcell hSw P5_1
    have P5_2' := keepcell hSw P5_2
    go_simp
    try (with_reducible rfl)
  try simp only [Act.put, List.setIfInBounds_toArray, List.set_cons_zero, List.set_cons_succ]
  refine wpM_take (i := 89) (oi := ⟨some 122, _, _, _, _, _⟩) (v := ?_) rfl (by decide +kernel) (by decide +kernel) (by decide +kernel) (fun _ _ _ h => h) (Or.inl ⟨by rfl, ?_⟩) b30 ?_
  case refine_2 =>
    intro w' hSw
    have P1_0' := keepcell hSw P1_0
    have P1_1' := keepcell hSw P1_1
    have P1_2' := keepcell hSw P1_2
    have P1_3' := keepcell hSw P1_3
    have P1_4' := keepcell hSw P1_4
    have P1_5' := keepcell hSw P1_5
    have P1_6' := keepcell hSw P1_6
    have P1_7' := keepcell hSw P1_7
    have P2_0' := keepcell hSw P2_0
    have P2_1' := keepcell hSw P2_1
    have P2_2' := keepcell hSw P2_2
    have P2_3' := keepcell hSw P2_3
    have P2_4' := keepcell hSw P2_4
    have P2_5' := keepcell hSw P2_5
    have P2_6' := keepcell hSw P2_6
    have P2_7' := keepcell hSw P2_7
    have P4_0' := keepcell hSw P4_0
    have P4_1' := keepcell hSw P4_1
    have P4_2' := keepcell hSw P4_2
    have P4_3' := keepcell hSw P4_3
    have P4_4' := keepcell hSw P4_4
    have P4_5' := keepcell hSw P4_5
    have P4_6' := keepcell hSw P4_6
    have P4_7' := keepcell hSw P4_7
    have P5_0' := keepcell hSw P5_0
    have P5_1' := keepcell hSw P5_1
    have P5_2' := keepcell hSw P5_2
    go_simp
    try (with_reducible rfl)
  try simp only [Act.put, List.setIfInBounds_toArray, List.set_cons_zero, List.set_cons_succ]
  refine wpM_done (by decide +kernel) ?_
  try simp only [List.cons_append, List.nil_append, List.drop_succ_cons, List.drop_zero]
  go_wp2
  go_ret
  exact ⟨rfl, HB.out.trans (b30.mono HB.out.size)⟩
end Go.Proofs.Ytfhbffgnpedaeaa
