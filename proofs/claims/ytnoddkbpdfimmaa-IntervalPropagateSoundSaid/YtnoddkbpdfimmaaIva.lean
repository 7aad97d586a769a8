/- The examples of the document run: awake. -/
import Derived.Test.YtnoddkbpdfimmaaIvu
import Derived.Test.YtnoddkbpdfimmaaIvo
namespace Go.Proofs.Ytnoddkbpdfimmaa
open Go.ChangeShapes Go.WideShapes Go.ChangeAt Go.RowKit Go.ChangeMaps

theorem Ivs.blk {W : World} {g t : Nat} {R : List Iv} (h : Blk W g t (R.flatMap Iv.cells).toArray) : Ivs W (some ⟨g, 0, none⟩) R.length R :=
  ⟨iv_len R, fun _ => ⟨g, 0, rfl, h.lt, fun j u hj => by rw [Nat.zero_add, h.cell, List.getElem?_toArray]; exact hj⟩⟩
theorem awakeT {T : List Iv} (h1 : T.Perm [⟨7, 9⟩, ⟨1, 3⟩, ⟨4, 4⟩]) (h2 : T.Pairwise (fun x y => x.lo ≤ y.lo)) : ofM T = [⟨1, 4⟩, ⟨7, 9⟩] := by
  have h3 : T = [⟨1, 3⟩, ⟨4, 4⟩, ⟨7, 9⟩] := by
    refine List.Perm.eq_of_pairwise (le := fun x y => x.lo ≤ y.lo) ?_ h2 (by decide) (h1.trans (by decide))
    intro a b ha hb e1 e2
    have ha := (h1.mem_iff (a := a)).1 ha
    simp only [List.mem_cons, List.not_mem_nil, or_false] at ha hb
    rcases ha with rfl | rfl | rfl <;> rcases hb with rfl | rfl | rfl <;> first | rfl | (exfalso; revert e1 e2; decide)
  rw [h3]
  decide
def cnA (A1 A2 : Option Addr) : List Cn := [⟨1, A1, 2, 2, [⟨0, 1⟩, ⟨1, -1⟩], false⟩, ⟨-5, A2, 1, 1, [⟨1, 1⟩], false⟩]
theorem propA (A1 A2 : Option Addr) : propM (cnA A1 A2) [⟨0, 9⟩, ⟨0, 9⟩] = some [⟨0, 4⟩, ⟨1, 5⟩] := by kernel_rfl
theorem rngAw : rngM [⟨0, 3⟩, ⟨1, 4⟩] [⟨0, 2⟩, ⟨1, -1⟩] ⟨1, 1⟩ = some ⟨-3, 6⟩ := by decide
set_option maxRecDepth 100000 in
set_option maxHeartbeats 1000000 in
theorem awake_any (w : World) : Calls Try.prog 11 #[] w fun e w' => e = .returned (.bool true) ∧ Below w.heap.size w w' := by
  obtain ⟨Wa, hWa⟩ : ∃ W, W = w.alloc (.cells #[.int .i64 7, .int .i64 9, .int .i64 1, .int .i64 3, .int .i64 4, .int .i64 4] 39) := ⟨_, rfl⟩
  have Ka := Lib.hid (show Ivs Wa (some ⟨w.heap.size, 0, none⟩) 3 [⟨7, 9⟩, ⟨1, 3⟩, ⟨4, 4⟩] from Ivs.blk (t := 39) (by rw [hWa]; exact Blk.new _ _ _))
  have Ba := Lib.hid (show Below w.heap.size w Wa by rw [hWa]; exact (Below.refl _ w).alloc (Nat.le_refl _) _)
  have OFA := Lib.hid (Of_any (some ⟨w.heap.size, 0, none⟩) 3 3 _ Wa Ka.out (by decide) (by intro x hx; simp only [List.mem_cons, List.not_mem_nil, or_false] at hx; rcases hx with rfl | rfl | rfl <;> exact ⟨by decide, by decide⟩))
  go_enter Try.func11, Try.ntmps11
  go_wp2_with fail
  rw [← hWa]
  clear hWa
  refine OFA.out.mono ?_
  rintro e w1 ⟨v1, rfl, T, hT1, hT2, ho, hb⟩
  rw [awakeT hT1 hT2] at ho
  have O1 := Lib.hid (ho.mono Ba.out.size)
  have B1 := Lib.hid (Ba.out.trans (hb.mono Ba.out.size))
  clear hT1 hT2 ho hb OFA Ka Ba
  obtain ⟨X6, hX6⟩ : ∃ W, W = (((((w1.alloc (.cells #[.int .i64 0, .int .i64 1] 61)).alloc (.cells #[.int .i64 1, .int .i64 (-1)] 61)).alloc (.cells #[.int .i64 0, .int .i64 1, .int .i64 1, .int .i64 (-1)] 61)).alloc (.cells #[.int .i64 1, .int .i64 1] 61)).alloc
    (.cells #[.int .i64 1, .slice (some ⟨w1.heap.size + 1 + 1, 0, none⟩) 2 2, .bool false, .int .i64 (-5), .slice (some ⟨w1.heap.size + 1 + 1 + 1, 0, none⟩) 1 1, .bool false] 58)).alloc (.cells #[.int .i64 0, .int .i64 9, .int .i64 0, .int .i64 9] 39) := ⟨_, rfl⟩
  have K1 := Lib.hid (show Blk X6 (w1.heap.size + 1) 61 #[.int .i64 1, .int .i64 (-1)] by rw [hX6]; exact ((((Blk.new_ (by simp) rfl : Blk ((w1.alloc _).alloc _) _ _ _).alloc _).alloc _).alloc _).alloc _)
  have K2 := Lib.hid (show Blk X6 (w1.heap.size + 1 + 1) 61 #[.int .i64 0, .int .i64 1, .int .i64 1, .int .i64 (-1)] by rw [hX6]; exact (((Blk.new_ (by simp) rfl : Blk (((w1.alloc _).alloc _).alloc _) _ _ _).alloc _).alloc _).alloc _)
  have K3 := Lib.hid (show Blk X6 (w1.heap.size + 1 + 1 + 1) 61 #[.int .i64 1, .int .i64 1] by rw [hX6]; exact ((Blk.new_ (by simp) rfl : Blk ((((w1.alloc _).alloc _).alloc _).alloc _) _ _ _).alloc _).alloc _)
  have K4 := Lib.hid (show Blk X6 (w1.heap.size + 1 + 1 + 1 + 1) 58 #[.int .i64 1, .slice (some ⟨w1.heap.size + 1 + 1, 0, none⟩) 2 2, .bool false, .int .i64 (-5), .slice (some ⟨w1.heap.size + 1 + 1 + 1, 0, none⟩) 1 1, .bool false] by rw [hX6]; exact (Blk.new_ (by simp) rfl : Blk (((((w1.alloc _).alloc _).alloc _).alloc _).alloc _) _ _ _).alloc _)
  have K5 := Lib.hid (show Blk X6 (w1.heap.size + 1 + 1 + 1 + 1 + 1) 39 #[.int .i64 0, .int .i64 9, .int .i64 0, .int .i64 9] by rw [hX6]; exact Blk.new_ (by simp) rfl)
  have bx : Below w1.heap.size w1 X6 := by
    rw [hX6]
    exact ((((((Below.refl _ w1).alloc (Nat.le_refl _) _).alloc (by simp) _).alloc (by simp; omega) _).alloc (by simp; omega) _).alloc (by simp; omega) _).alloc (by simp; omega) _
  have O6 := Lib.hid (O1.out.below bx)
  have B6 := Lib.hid (B1.out.trans (bx.mono B1.out.size))
  clear bx O1 B1
  have CNS : Hid (Cns X6 (some ⟨w1.heap.size + 1 + 1 + 1 + 1, 0, none⟩) 2 (cnA (some ⟨w1.heap.size + 1 + 1, 0, none⟩) (some ⟨w1.heap.size + 1 + 1 + 1, 0, none⟩))) := Lib.hid (by
    refine ⟨⟨rfl, fun _ => ⟨_, 0, rfl, K4.out.lt, fun j u hj => by
      rw [Nat.zero_add, K4.out.cell]
      show ((cnA (some ⟨w1.heap.size + 1 + 1, 0, none⟩) (some ⟨w1.heap.size + 1 + 1 + 1, 0, none⟩)).flatMap Cn.cells).toArray[j]? = some u
      rw [List.getElem?_toArray]
      exact hj⟩⟩, fun x hx => ?_⟩
    simp only [cnA, List.mem_cons, List.not_mem_nil, or_false] at hx
    rcases hx with rfl | rfl
    · exact Ivs.blk (t := 61) (R := [⟨0, 1⟩, ⟨1, -1⟩]) K2.out
    · exact Ivs.blk (t := 61) (R := [⟨1, 1⟩]) K3.out)
  have PRA := Lib.hid (Propagate_any _ 2 2 _ (some ⟨w1.heap.size + 1 + 1 + 1 + 1 + 1, 0, none⟩) 2 2 [⟨0, 9⟩, ⟨0, 9⟩] X6 CNS.out (Ivs.blk (t := 39) (R := [⟨0, 9⟩, ⟨0, 9⟩]) K5.out) (by decide) (by decide)
    (by
      intro x hx
      simp only [cnA, List.mem_cons, List.not_mem_nil, or_false] at hx
      rcases hx with rfl | rfl
      · refine ⟨show (2 : Nat) ≤ 64 by decide, show (-1099511627776 : Int) ≤ 1 ∧ (1 : Int) ≤ 1099511627776 by decide, fun y hy => ?_⟩
        simp only [List.mem_cons, List.not_mem_nil, or_false] at hy
        rcases hy with rfl | rfl <;> exact ⟨by decide, by decide⟩
      · refine ⟨show (1 : Nat) ≤ 64 by decide, show (-1099511627776 : Int) ≤ -5 ∧ (-5 : Int) ≤ 1099511627776 by decide, fun y hy => ?_⟩
        simp only [List.mem_cons, List.not_mem_nil, or_false] at hy
        rcases hy with rfl
        exact ⟨by decide, by decide⟩)
    (by
      intro x hx
      simp only [List.mem_cons, List.not_mem_nil, or_false] at hx
      rcases hx with rfl | rfl <;> exact ⟨by decide, by decide⟩))
  rw [propA] at PRA
  go_wp2_with fail
  rw [← hX6]
  clear hX6 CNS K2 K3 K4 K5
  refine PRA.out.mono ?_
  rintro e y7 ⟨⟨v5, rfl, ho⟩, hb⟩
  have O5 := Lib.hid (ho.mono B6.out.size)
  have Q1 := Lib.hid (K1.out.below hb)
  have O7 := Lib.hid (O6.out.below hb)
  have B7 := Lib.hid (B6.out.trans (hb.mono B6.out.size))
  clear ho hb PRA O6 B6 K1
  have c0 : y7.cell? ⟨w1.heap.size + 1, 0, none⟩ = some (.int .i64 1) := Q1.out.cell 0
  have c1 : y7.cell? ⟨w1.heap.size + 1, 1, none⟩ = some (.int .i64 (-1)) := Q1.out.cell 1
  obtain ⟨Y2, hY2⟩ : ∃ W, W = (y7.alloc (.cells #[.int .i64 0, .int .i64 2, .int .i64 1, .int .i64 (-1)] 61)).alloc (.cells #[.int .i64 0, .int .i64 3, .int .i64 1, .int .i64 4] 39) := ⟨_, rfl⟩
  have bx : Below y7.heap.size y7 Y2 := by rw [hY2]; exact ((Below.refl _ y7).alloc (Nat.le_refl _) _).alloc (by simp) _
  have L1 := Lib.hid (show Blk Y2 y7.heap.size 61 #[.int .i64 0, .int .i64 2, .int .i64 1, .int .i64 (-1)] by rw [hY2]; exact (Blk.new _ _ _).alloc _)
  have L2 := Lib.hid (show Blk Y2 (y7.heap.size + 1) 39 #[.int .i64 0, .int .i64 3, .int .i64 1, .int .i64 4] by rw [hY2]; exact Blk.new_ (by simp) rfl)
  have O8 := Lib.hid (O5.out.below bx)
  have O9 := Lib.hid (O7.out.below bx)
  have B8 := Lib.hid (B7.out.trans (bx.mono B7.out.size))
  clear bx O5 O7 B7
  have RNG := Lib.hid (Range_any 1 (some ⟨y7.heap.size, 0, none⟩) 2 2 [⟨0, 2⟩, ⟨1, -1⟩] (some ⟨y7.heap.size + 1, 0, none⟩) 2 2 [⟨0, 3⟩, ⟨1, 4⟩] Y2 (Ivs.blk (t := 61) (R := [⟨0, 2⟩, ⟨1, -1⟩]) L1.out) (Ivs.blk (t := 39) (R := [⟨0, 3⟩, ⟨1, 4⟩]) L2.out) (by decide) (by decide) (by decide)
    (by intro x hx; simp only [List.mem_cons, List.not_mem_nil, or_false] at hx; rcases hx with rfl | rfl <;> exact ⟨by decide, by decide⟩)
    (by intro x hx; simp only [List.mem_cons, List.not_mem_nil, or_false] at hx; rcases hx with rfl | rfl <;> exact ⟨by decide, by decide⟩))
  rw [rngAw] at RNG
  go_wp2_with fail
  rw [← hY2]
  clear hY2 c0 c1 L1 L2 Q1
  refine RNG.out.mono ?_
  rintro e y8 ⟨rfl, -, hb⟩
  have P8 := Lib.hid (O8.out.below hb)
  have P9 := Lib.hid (O9.out.below hb)
  have B9 := Lib.hid (B8.out.trans (hb.mono B8.out.size))
  clear hb RNG O8 O9 B8
  unfold rngA Iv.agg
  obtain ⟨Z1, hZ1⟩ : ∃ W, W = y8.alloc (.cells #[.int .i64 (-3), .int .i64 6] 39) := ⟨_, rfl⟩
  have M7 := Lib.hid (show Blk Z1 y8.heap.size 39 #[.int .i64 (-3), .int .i64 6] by rw [hZ1]; exact Blk.new _ _ _)
  have R8 := Lib.hid (show OR 39 Z1 w.heap.size v5 [⟨0, 4⟩, ⟨1, 5⟩] by rw [hZ1]; exact P8.out.alloc _)
  have R9 := Lib.hid (show OR 39 Z1 w.heap.size v1 [⟨1, 4⟩, ⟨7, 9⟩] by rw [hZ1]; exact P9.out.alloc _)
  have BZ := Lib.hid (show Below w.heap.size w Z1 by rw [hZ1]; exact B9.out.alloc B9.out.size _)
  clear P8 P9 B9
  go_upto_region 6 with fail
  rw [← hZ1]
  clear hZ1
  obtain ⟨A1, k1, ev1, I1, -, -⟩ := R9.out.ivs
  obtain ⟨A5, k5, ev5, I5, -, -⟩ := R8.out.ivs
  subst ev1
  subst ev5
  have OF1 := Lib.hid (of_any A1 2 k1 _ Z1 I1 (by decide))
  go_wp2_with fail
  refine OF1.out.mono ?_
  rintro e z2 ⟨vr, rfl, ho, hb⟩
  obtain ⟨Ar, kr, er, Ir, -, -⟩ := ho.ivs
  subst er
  obtain ⟨Z3, hZ3⟩ : ∃ W, W = z2.alloc (.cells #[.int .i64 1, .int .i64 4, .int .i64 7, .int .i64 9] 42) := ⟨_, rfl⟩
  have b3 : Below z2.heap.size z2 Z3 := by rw [hZ3]; exact (Below.refl _ z2).alloc (Nat.le_refl _) _
  have SM1 := Lib.hid (RSame_any Ar (some ⟨z2.heap.size, 0, none⟩) 2 2 kr 2 [⟨1, 4⟩, ⟨7, 9⟩] [⟨1, 4⟩, ⟨7, 9⟩] Z3 (Ir.below b3) (Ivs.blk (t := 42) (R := [⟨1, 4⟩, ⟨7, 9⟩]) (by rw [hZ3]; exact Blk.new _ _ _)) (by decide))
  have M8 := Lib.hid ((M7.out.below hb).below b3)
  have I8 := Lib.hid ((I5.below hb).below b3)
  have B3 := Lib.hid ((BZ.out.trans (hb.mono BZ.out.size)).trans (b3.mono (Nat.le_trans BZ.out.size hb.size)))
  clear ho hb b3 I1 I5 Ir OF1 M7 BZ R8 R9
  go_wp2_with fail
  rw [← hZ3]
  clear hZ3
  refine SM1.out.mono ?_
  rintro e z4 ⟨rfl, hb⟩
  have M9 := Lib.hid (M8.out.below hb)
  have OF2 := Lib.hid (of_any A5 2 k5 _ z4 (I8.out.below hb) (by decide))
  have B4 := Lib.hid (B3.out.trans (hb.mono B3.out.size))
  clear hb SM1 M8 I8 B3
  go_wp2_with fail
  refine OF2.out.mono ?_
  rintro e z5 ⟨vr, rfl, ho, hb⟩
  obtain ⟨As, ks, er, Is, -, -⟩ := ho.ivs
  subst er
  obtain ⟨Z6, hZ6⟩ : ∃ W, W = z5.alloc (.cells #[.int .i64 0, .int .i64 4, .int .i64 1, .int .i64 5] 42) := ⟨_, rfl⟩
  have b3 : Below z5.heap.size z5 Z6 := by rw [hZ6]; exact (Below.refl _ z5).alloc (Nat.le_refl _) _
  have SM2 := Lib.hid (RSame_any As (some ⟨z5.heap.size, 0, none⟩) 2 2 ks 2 [⟨0, 4⟩, ⟨1, 5⟩] [⟨0, 4⟩, ⟨1, 5⟩] Z6 (Is.below b3) (Ivs.blk (t := 42) (R := [⟨0, 4⟩, ⟨1, 5⟩]) (by rw [hZ6]; exact Blk.new _ _ _)) (by decide))
  have MA := Lib.hid ((M9.out.below hb).below b3)
  have B5 := Lib.hid ((B4.out.trans (hb.mono B4.out.size)).trans (b3.mono (Nat.le_trans B4.out.size hb.size)))
  clear ho hb b3 Is OF2 M9 B4
  go_wp2_with fail
  rw [← hZ6]
  clear hZ6
  refine SM2.out.mono ?_
  rintro e z7 ⟨rfl, hb⟩
  have MB := Lib.hid (MA.out.below hb)
  have B6 := Lib.hid (B5.out.trans (hb.mono B5.out.size))
  clear hb SM2 MA B5
  have c0 : z7.cell? ⟨y8.heap.size, 0, none⟩ = some (.int .i64 (-3)) := MB.out.cell 0
  have c1 : z7.cell? ⟨y8.heap.size, 1, none⟩ = some (.int .i64 6) := MB.out.cell 1
  go_wp2
  go_ret
  exact ⟨rfl, B6.out⟩
end Go.Proofs.Ytnoddkbpdfimmaa
