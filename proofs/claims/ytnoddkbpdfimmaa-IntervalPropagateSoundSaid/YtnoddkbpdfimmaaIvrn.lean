/- Floor, narrow and Range of the reference. -/
import Derived.Test.YtnoddkbpdfimmaaIvpm
namespace Go.Proofs.Ytnoddkbpdfimmaa
open Go.ChangeShapes Go.WideShapes Go.ChangeAt Go.RowKit Go.ChangeMaps

theorem load42 {w : World} {g : Nat} {cs : Array Value} (h : Blk w g 42 cs) (hs : cs.size = 2) : (loadVar 42 ⟨g, 0, none⟩).run Try.prog w = .ok (.agg cs) w :=
  run_loadVar_row w g 42 42 cs (0, 0) _ h Try.underlying42 rfl (by rw [hs]; kernel_rfl)
set_option maxRecDepth 100000 in
set_option maxHeartbeats 1000000 in
theorem RFloor_any (a b : Int) (w : World) (hb : 0 < b) (hb2 : b ≤ 4611686018427387904) (ha : -4611686018427387904 ≤ a ∧ a ≤ 4611686018427387904) : Calls Try.prog 56 #[.int .i64 a, .int .i64 b] w fun e w' => e = .returned (.int .i64 (a / b)) ∧ w' = w := by
  obtain ⟨q, hq⟩ : ∃ q, a.tdiv b = q := ⟨_, rfl⟩
  obtain ⟨r, hr⟩ : ∃ r, a.tmod b = r := ⟨_, rfl⟩
  obtain ⟨z, hz⟩ : ∃ z, a / b = z := ⟨_, rfl⟩
  have hqb : -4611686018427387904 ≤ q ∧ q ≤ 4611686018427387904 := by
    rw [← hq]
    have h1 := Int.natAbs_tdiv_le_natAbs a b
    omega
  have hrb : -4611686018427387904 ≤ r ∧ r ≤ 4611686018427387904 := by
    have h1 := Int.tmod_lt_of_pos a hb
    have h2 := Int.lt_tmod_of_pos a hb
    omega
  have HZ := Lib.hid (show z = if r < 0 then q - 1 else q by
    rw [← hz, ← hr, ← hq, Int.tdiv_eq_ediv, Int.tmod_eq_emod]
    have h1 := Int.emod_nonneg a (show b ≠ 0 by omega)
    have h2 := Int.emod_lt_of_pos a hb
    have hs : b.sign = 1 := Int.sign_eq_one_of_pos hb
    by_cases h0 : 0 ≤ a ∨ b ∣ a
    · rw [if_pos h0, if_pos h0, if_neg (by simpa using h1)]; simp
    · rw [if_neg h0, if_neg h0, if_pos (by have : (b.natAbs : Int) = b := by omega
                                           omega), hs]; omega)
  rw [hz]
  have hbz : b ≠ 0 := by omega
  have hbm : b ≠ -1 := by omega
  clear hz hb ha hb2
  go_enter Try.func56, Try.ntmps56
  by_cases h0 : r < 0
  · have HF := Lib.hid (HZ.out.trans (if_pos h0))
    go_wp2
    go_ret
    exact ⟨ret_int HF.out.symm, rfl⟩
  · have HF := Lib.hid (HZ.out.trans (if_neg h0))
    go_wp2
    go_ret
    exact ⟨ret_int HF.out.symm, rfl⟩
set_option maxRecDepth 100000 in
set_option maxHeartbeats 2000000 in
theorem RNarrow_any (d : Iv) (a k : Int) (w : World) (ha : a ≠ 0) (ha2 : -1048576 ≤ a ∧ a ≤ 1048576) (hk : -1152921504606846976 ≤ k ∧ k ≤ 1152921504606846976) : Calls Try.prog 45 #[d.agg, .int .i64 a, .int .i64 k] w fun e w' => e = .returned (rnw d a k).agg ∧ Below w.heap.size w w' := by
  obtain ⟨d0, d1⟩ := d
  have HRES0 : Hid (rnw ⟨d0, d1⟩ a k = if 0 < a then ⟨d0, if (-k) / a < d1 then (-k) / a else d1⟩ else ⟨if d0 < -((-k) / (-a)) then -((-k) / (-a)) else d0, d1⟩) := Lib.hid rfl
  generalize rnw ⟨d0, d1⟩ a k = res at *
  unfold Iv.agg
  obtain ⟨W0, hW0⟩ : ∃ W, W = (w.alloc (.cells #[.int .i64 d0, .int .i64 d1] 42)).alloc (.cells #[.int .i64 0, .int .i64 0] 42) := ⟨_, rfl⟩
  have BW0 := Lib.hid (show Below w.heap.size w W0 by rw [hW0]; exact ((Below.refl _ w).alloc (Nat.le_refl _) _).alloc (by simp) _)
  have KW0 := Lib.hid (show Blk W0 w.heap.size 42 #[.int .i64 d0, .int .i64 d1] by rw [hW0]; exact (Blk.new _ _ _).alloc _)
  have ZW0 := Lib.hid (show Blk W0 (w.heap.size + 1) 42 #[.int .i64 0, .int .i64 0] by rw [hW0]; exact Blk.new_ (by simp) rfl)
  have e0 : W0.cell? ⟨w.heap.size, 0, none⟩ = some (.int .i64 d0) := KW0.out.cell 0
  have e1 : W0.cell? ⟨w.heap.size, 1, none⟩ = some (.int .i64 d1) := KW0.out.cell 1
  have hw0 : IntKind.i64.wrap (-k) = -k := by rw [IntKind.wrap_i64]; omega
  by_cases hp : 0 < a
  · have HRES := Lib.hid (HRES0.out.trans (if_pos hp))
    have hqb := ediv_bd (x := -k) (B := 1152921504606846976) (a := a) ⟨by omega, by omega⟩ hp
    have CF := Lib.hid (fun W => RFloor_any (-k) a W hp (by omega) ⟨by omega, by omega⟩)
    clear HRES0 ha
    generalize (-k) / a = q at *
    by_cases hq : q < d1
    · go_enter Try.func45, Try.ntmps45
      go_upto_region 1 with fail
      rw [← hW0]
      clear hW0
      have HR := Lib.hid (show res = ⟨d0, q⟩ by rw [HRES.out]; simp only [if_pos hq])
      go_wp2_with fail
      refine (CF.out W0).mono ?_
      rintro e w1 ⟨rfl, hw⟩
      replace hw := hw.symm
      subst hw
      have zk : ∀ j, W0.frozen? ⟨w.heap.size, j, none⟩ = false := fun j => Joins.unfrozen_of_block KW0.out _
      obtain ⟨W1, hW1⟩ : ∃ W, W = W0.setCell ⟨w.heap.size, 1, none⟩ (.int .i64 (q)) := ⟨_, rfl⟩
      have S := store_step KW0.out 1 (.int .i64 (q))
      rw [← hW1] at S
      have KW1 : Hid (Blk W1 w.heap.size 42 #[.int .i64 (d0), .int .i64 (q)]) := Lib.hid S.1
      have ZW1 := Lib.hid (S.2.1 _ _ _ (by omega) ZW0.out)
      have BW1 := Lib.hid (S.2.2 _ _ BW0.out (by omega))
      clear S
      go_upto_region 5 with fail
      rw [← hW1]
      clear hW1 zk e0 e1
      have e0 : W1.cell? ⟨w.heap.size, 0, none⟩ = some (.int .i64 (d0)) := KW1.out.cell 0
      have e1 : W1.cell? ⟨w.heap.size, 1, none⟩ = some (.int .i64 (q)) := KW1.out.cell 1
      have f0 : W1.cell? ⟨w.heap.size + 1, 0, none⟩ = some (.int .i64 0) := ZW1.out.cell 0
      have f1 : W1.cell? ⟨w.heap.size + 1, 1, none⟩ = some (.int .i64 0) := ZW1.out.cell 1
      have z4 : ∀ j, W1.frozen? ⟨w.heap.size + 1, j, none⟩ = false := fun j => Joins.unfrozen_of_block ZW1.out _
      have s1 := store_step ZW1.out 0 (.int .i64 (d0))
      have s2 := store_step s1.1 1 (.int .i64 (q))
      have HX := Lib.hid (s2.2.2 _ _ (s1.2.2 _ _ BW1.out (by omega)) (show w.heap.size ≤ w.heap.size + 1 by omega))
      have HK := Lib.hid s2.1
      clear s1 s2
      go_wp2
      refine bodyPost_ret (results_c1 rfl _ _ _ (w.heap.size + 1) _ rfl (load42 HK.out rfl)) rfl ?_
      rw [HR.out]
      exact ⟨rfl, HX.out⟩
    · go_enter Try.func45, Try.ntmps45
      go_upto_region 1 with fail
      rw [← hW0]
      clear hW0
      have HR := Lib.hid (show res = ⟨d0, d1⟩ by rw [HRES.out]; simp only [if_neg hq])
      go_wp2_with fail
      refine (CF.out W0).mono ?_
      rintro e w1 ⟨rfl, hw⟩
      replace hw := hw.symm
      subst hw
      clear e0 e1
      have e1 : W0.cell? ⟨w.heap.size, 1, none⟩ = some (.int .i64 d1) := KW0.out.cell 1
      go_upto_region 5 with fail
      clear e1
      have e0 : W0.cell? ⟨w.heap.size, 0, none⟩ = some (.int .i64 d0) := KW0.out.cell 0
      have e1 : W0.cell? ⟨w.heap.size, 1, none⟩ = some (.int .i64 d1) := KW0.out.cell 1
      have f0 : W0.cell? ⟨w.heap.size + 1, 0, none⟩ = some (.int .i64 0) := ZW0.out.cell 0
      have f1 : W0.cell? ⟨w.heap.size + 1, 1, none⟩ = some (.int .i64 0) := ZW0.out.cell 1
      have z4 : ∀ j, W0.frozen? ⟨w.heap.size + 1, j, none⟩ = false := fun j => Joins.unfrozen_of_block ZW0.out _
      have s1 := store_step ZW0.out 0 (.int .i64 d0)
      have s2 := store_step s1.1 1 (.int .i64 d1)
      have HX := Lib.hid (s2.2.2 _ _ (s1.2.2 _ _ BW0.out (by omega)) (show w.heap.size ≤ w.heap.size + 1 by omega))
      have HK := Lib.hid s2.1
      clear s1 s2
      go_wp2
      refine bodyPost_ret (results_c1 rfl _ _ _ (w.heap.size + 1) _ rfl (load42 HK.out rfl)) rfl ?_
      rw [HR.out]
      exact ⟨rfl, HX.out⟩
  · have HRES := Lib.hid (HRES0.out.trans (if_neg hp))
    have hqb := ediv_bd (x := -k) (B := 1152921504606846976) (a := -a) ⟨by omega, by omega⟩ (by omega)
    have CF := Lib.hid (fun W => RFloor_any (-k) (-a) W (by omega) (by omega) ⟨by omega, by omega⟩)
    have hw1 : IntKind.i64.wrap (-a) = -a := by rw [IntKind.wrap_i64]; omega
    clear HRES0 ha
    generalize (-k) / (-a) = q at *
    have hw2 : IntKind.i64.wrap (-q) = -q := by rw [IntKind.wrap_i64]; omega
    by_cases hq : d0 < -q
    · go_enter Try.func45, Try.ntmps45
      go_upto_region 1 with fail
      rw [← hW0]
      clear hW0
      have HR := Lib.hid (show res = ⟨-q, d1⟩ by rw [HRES.out]; simp only [if_pos hq])
      go_wp2_with fail
      refine (CF.out W0).mono ?_
      rintro e w1 ⟨rfl, hw⟩
      replace hw := hw.symm
      subst hw
      have zk : ∀ j, W0.frozen? ⟨w.heap.size, j, none⟩ = false := fun j => Joins.unfrozen_of_block KW0.out _
      obtain ⟨W1, hW1⟩ : ∃ W, W = W0.setCell ⟨w.heap.size, 0, none⟩ (.int .i64 (-q)) := ⟨_, rfl⟩
      have S := store_step KW0.out 0 (.int .i64 (-q))
      rw [← hW1] at S
      have KW1 : Hid (Blk W1 w.heap.size 42 #[.int .i64 (-q), .int .i64 (d1)]) := Lib.hid S.1
      have ZW1 := Lib.hid (S.2.1 _ _ _ (by omega) ZW0.out)
      have BW1 := Lib.hid (S.2.2 _ _ BW0.out (by omega))
      clear S
      go_upto_region 9 with fail
      rw [← hW1]
      clear hW1 zk e0 e1
      have e0 : W1.cell? ⟨w.heap.size, 0, none⟩ = some (.int .i64 (-q)) := KW1.out.cell 0
      have e1 : W1.cell? ⟨w.heap.size, 1, none⟩ = some (.int .i64 (d1)) := KW1.out.cell 1
      have f0 : W1.cell? ⟨w.heap.size + 1, 0, none⟩ = some (.int .i64 0) := ZW1.out.cell 0
      have f1 : W1.cell? ⟨w.heap.size + 1, 1, none⟩ = some (.int .i64 0) := ZW1.out.cell 1
      have z4 : ∀ j, W1.frozen? ⟨w.heap.size + 1, j, none⟩ = false := fun j => Joins.unfrozen_of_block ZW1.out _
      have s1 := store_step ZW1.out 0 (.int .i64 (-q))
      have s2 := store_step s1.1 1 (.int .i64 (d1))
      have HX := Lib.hid (s2.2.2 _ _ (s1.2.2 _ _ BW1.out (by omega)) (show w.heap.size ≤ w.heap.size + 1 by omega))
      have HK := Lib.hid s2.1
      clear s1 s2
      go_wp2
      refine bodyPost_ret (results_c1 rfl _ _ _ (w.heap.size + 1) _ rfl (load42 HK.out rfl)) rfl ?_
      rw [HR.out]
      exact ⟨rfl, HX.out⟩
    · go_enter Try.func45, Try.ntmps45
      go_upto_region 1 with fail
      rw [← hW0]
      clear hW0
      have HR := Lib.hid (show res = ⟨d0, d1⟩ by rw [HRES.out]; simp only [if_neg hq])
      go_wp2_with fail
      refine (CF.out W0).mono ?_
      rintro e w1 ⟨rfl, hw⟩
      replace hw := hw.symm
      subst hw
      clear e0 e1
      have e0 : W0.cell? ⟨w.heap.size, 0, none⟩ = some (.int .i64 d0) := KW0.out.cell 0
      go_upto_region 9 with fail
      clear e0
      have e0 : W0.cell? ⟨w.heap.size, 0, none⟩ = some (.int .i64 d0) := KW0.out.cell 0
      have e1 : W0.cell? ⟨w.heap.size, 1, none⟩ = some (.int .i64 d1) := KW0.out.cell 1
      have f0 : W0.cell? ⟨w.heap.size + 1, 0, none⟩ = some (.int .i64 0) := ZW0.out.cell 0
      have f1 : W0.cell? ⟨w.heap.size + 1, 1, none⟩ = some (.int .i64 0) := ZW0.out.cell 1
      have z4 : ∀ j, W0.frozen? ⟨w.heap.size + 1, j, none⟩ = false := fun j => Joins.unfrozen_of_block ZW0.out _
      have s1 := store_step ZW0.out 0 (.int .i64 d0)
      have s2 := store_step s1.1 1 (.int .i64 d1)
      have HX := Lib.hid (s2.2.2 _ _ (s1.2.2 _ _ BW0.out (by omega)) (show w.heap.size ≤ w.heap.size + 1 by omega))
      have HK := Lib.hid s2.1
      clear s1 s2
      go_wp2
      refine bodyPost_ret (results_c1 rfl _ _ _ (w.heap.size + 1) _ rfl (load42 HK.out rfl)) rfl ?_
      rw [HR.out]
      exact ⟨rfl, HX.out⟩
end Go.Proofs.Ytnoddkbpdfimmaa
