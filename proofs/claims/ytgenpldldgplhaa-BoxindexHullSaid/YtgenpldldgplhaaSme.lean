/- Which boxes meet. -/
import Derived.Test.YtgenpldldgplhaaSdl
import Derived.RegionTactic
namespace Go.Proofs.Ytgenpldldgplhaa
open Go.ChangeShapes Go.WideShapes Go.ChangeAt Go.RowKit Go.ChangeMaps

theorem below_drew_ {B : Nat} {w W : World} (h : Below B w W) : Below B w W.drew := ⟨h.os, h.tape, h.output, h.size, h.block⟩
set_option maxRecDepth 100000 in
set_option maxHeartbeats 4000000 in
theorem Meet_any (t u : Int) (A : Option Addr) (n c : Nat) (R : List Sd) (A2 : Option Addr) (m c2 : Nat) (S : List Sd) (w : World) (h : Sds w A n R) (h2 : Sds w A2 m S) (hn : n ≤ 1000) (hm : m ≤ 1000) :
    Calls Try.prog 25 #[.agg #[.int .i64 t, .slice A n c], .agg #[.int .i64 u, .slice A2 m c2]] w fun e w' => e = .returned (.bool (meetB t u R S)) ∧ Below w.heap.size w w' := by
  have HL := Lib.hid h.len
  have HM := Lib.hid h2.len
  have HA := Lib.hid h.at
  have HA2 := Lib.hid h2.at
  obtain ⟨ro, hro⟩ : ∃ r, meetB t u R S = r := ⟨_, rfl⟩
  rw [hro]
  unfold meetB at hro
  rw [h.len, h2.len] at hro
  have HRO := Lib.hid hro
  have HW := Lib.hid (((Below.refl w.heap.size w).alloc (Nat.le_refl _) (.cells #[.int .i64 t, .slice A n c] 40)).alloc (by simp) (.cells #[.int .i64 u, .slice A2 m c2] 40))
  clear h h2 hro
  by_cases htu : t = u
  case neg =>
    have HZ := Lib.hid (show ro = false by rw [← HRO.out, if_neg htu])
    have hti : (t == u) = false := by simp; omega
    go_enter Try.func25, Try.ntmps25
    go_wp2
    go_ret
    exact ⟨ret_bool HZ.out.symm, HW.out⟩
  subst htu
  by_cases hz : n = 0
  · subst hz
    have HZ := Lib.hid (show ro = false by rw [← HRO.out, if_pos rfl]; simp)
    have hmi : ((0 : Int) == m) = decide (0 = m) := by cases m <;> simp; omega
    by_cases hm0 : m = 0
    · subst hm0
      go_enter Try.func25, Try.ntmps25
      go_wp2
      go_ret
      exact ⟨ret_bool HZ.out.symm, HW.out⟩
    · have hmj : ((0 : Int) == m) = false := by simp; omega
      go_enter Try.func25, Try.ntmps25
      go_wp2
      go_ret
      exact ⟨ret_bool HZ.out.symm, HW.out⟩
  have hz0 : ((n : Int) == 0) = false := by simp; omega
  by_cases hmn : n = m
  case neg =>
    have HZ := Lib.hid (show ro = false by rw [← HRO.out, if_pos rfl, if_neg hmn])
    have hmi : ((n : Int) == m) = false := by simp; omega
    go_enter Try.func25, Try.ntmps25
    go_wp2
    go_ret
    exact ⟨ret_bool HZ.out.symm, HW.out⟩
  subst hmn
  have HZ := Lib.hid (show zipAll Sd.meetB R S = ro by rw [← HRO.out, if_pos rfl, if_pos rfl, if_neg hz])
  obtain ⟨W0, hW0⟩ : ∃ W0, W0 = (w.alloc (.cells #[.int .i64 t, .slice A n c] 40)).alloc (.cells #[.int .i64 t, .slice A2 n c2] 40) := ⟨_, rfl⟩
  have HK1 := Lib.hid (show Blk W0 w.heap.size 40 #[.int .i64 t, .slice A n c] by rw [hW0]; exact (Blk.new _ _ _).alloc _)
  have HK2 := Lib.hid (show Blk W0 (w.heap.size + 1) 40 #[.int .i64 t, .slice A2 n c2] by rw [hW0]; exact Blk.new_ (by simp) rfl)
  have HS0 := Lib.hid (show W0.heap.size = w.heap.size + 2 by rw [hW0]; simp)
  go_enter Try.func25, Try.ntmps25
  go_wp2
  rw [← hW0] at HW ⊢
  go_loopw [30] (fun iv wr => ∃ i : Nat, iv = .int .i64 (i : Int) ∧ i ≤ n ∧ zipAll Sd.meetB R S = zipAll Sd.meetB (R.drop i) (S.drop i) ∧ Below W0.heap.size W0 wr) (fun iv _ => n - (intOf iv).toNat)
  case atStart => exact ⟨0, rfl, Nat.zero_le _, rfl, Below.refl _ _⟩
  case round =>
    obtain ⟨i, rfl, hin, hall, hb⟩ := hrel
    have HB := Lib.hid hb
    have HB0 := Lib.hid (HW.out.trans (hb.mono HW.out.size))
    have q1 : wr.cell? ⟨w.heap.size, 1, none⟩ = some (.slice A n c) := keepcell hb (HK1.out.cell 1)
    have q2 : wr.cell? ⟨w.heap.size + 1, 1, none⟩ = some (.slice A2 n c2) := keepcell hb (HK2.out.cell 1)
    have HALL := Lib.hid hall
    clear hb hall
    by_cases hlt : i < n
    · have hlti : (i : Int) < n := by omega
      obtain ⟨b, off, rfl, hbl, hc⟩ := HA.out (by omega)
      obtain ⟨b2, off2, rfl, hbl2, hc2⟩ := HA2.out (by omega)
      have hi : i < R.length := by rw [HL.out]; exact hlt
      have hi2 : i < S.length := by rw [HM.out]; exact hlt
      obtain ⟨y0, y1, y2, y3, y4, y5⟩ := hc wr HB0.out i hi
      obtain ⟨z0, z1, z2, z3, z4, z5⟩ := hc2 wr HB0.out i hi2
      have HD := Lib.hid (HALL.out.trans (zip_drop Sd.meetB R S i hi hi2))
      have HC2 := Lib.hid (fun W hW => hc2 W hW i hi2)
      clear hc hc2
      generalize R[i] = x at *
      generalize S[i] = y at *
      obtain ⟨nu, ot, lo, hi', fr, to⟩ := x
      obtain ⟨nu2, ot2, lo2, hi2', fr2, to2⟩ := y
      dsimp only at *
      have CV := Lib.hid (fun W => meets_any ⟨nu, ot, lo, hi', fr, to⟩ ⟨nu2, ot2, lo2, hi2', fr2, to2⟩ W)
      unfold Sd.agg at CV
      dsimp only at CV
      obtain ⟨vb, hvb⟩ : ∃ r, Sd.meetB ⟨nu, ot, lo, hi', fr, to⟩ ⟨nu2, ot2, lo2, hi2', fr2, to2⟩ = r := ⟨_, rfl⟩
      rw [hvb] at HD CV
      unfold Sd.meetB at hvb
      dsimp only at hvb
      obtain ⟨mx, hmx⟩ : ∃ z, tmx fr fr2 = z := ⟨_, rfl⟩
      obtain ⟨mn, hmn⟩ : ∃ z, tmn to to2 = z := ⟨_, rfl⟩
      have g1 : ∀ w, (Builtin.max_ #[9, 9] 9 #[.string fr, .string fr2]).run Try.prog w = .ok (.string mx) w := fun w => by rw [run_max_str, hmx]
      have g2 : ∀ w, (Builtin.min_ #[9, 9] 9 #[.string to, .string to2]).run Try.prog w = .ok (.string mn) w := fun w => by rw [run_min_str, hmn]
      rw [hmx, hmn] at hvb
      have HV := Lib.hid hvb
      clear hvb hmx hmn
      go_wp2_with fail
      refine region_tail 6 (by kernel_rfl) (by kernel_rfl) (fun D hD hs => ?_)
      simp only [List.take_succ_cons, List.take_zero, List.drop_succ_cons, List.drop_zero]
      have HBD := Lib.hid ((HB0.out.alloc HB0.out.size _).trans (hD.mono (by have := HB0.out.size; simp; omega)))
      have HBB := Lib.hid ((HB.out.alloc HB.out.size _).trans (hD.mono (by have := HB.out.size; simp; omega)))
      have s0 : D.cell? ⟨wr.heap.size, 0, none⟩ = some (.bool nu) := keepcell hD ((Blk.new wr 56 _).cell 0)
      have s1 : D.cell? ⟨wr.heap.size, 1, none⟩ = some (.bool ot) := keepcell hD ((Blk.new wr 56 _).cell 1)
      have s2 : D.cell? ⟨wr.heap.size, 2, none⟩ = some (.int .i64 lo) := keepcell hD ((Blk.new wr 56 _).cell 2)
      have s3 : D.cell? ⟨wr.heap.size, 3, none⟩ = some (.int .i64 hi') := keepcell hD ((Blk.new wr 56 _).cell 3)
      have s4 : D.cell? ⟨wr.heap.size, 4, none⟩ = some (.string fr) := keepcell hD ((Blk.new wr 56 _).cell 4)
      have s5 : D.cell? ⟨wr.heap.size, 5, none⟩ = some (.string to) := keepcell hD ((Blk.new wr 56 _).cell 5)
      have r1 : D.cell? ⟨w.heap.size + 1, 1, none⟩ = some (.slice (some ⟨b2, off2, none⟩) n c2) := keepcell hD (pastcell q2)
      obtain ⟨e0, e1, e2, e3, e4, e5⟩ := HC2.out D HBD.out
      clear hD hs
      repeat still_step
      refine wpStill_nil ?_
      go_wp2_with fail
      refine (CV.out _).mono ?_
      rintro e w1 ⟨rfl, hb1⟩
      have HB1 := Lib.hid (HBD.out.trans (hb1.mono HBD.out.size))
      have HBA := Lib.hid (HBB.out.trans (hb1.mono HBB.out.size))
      clear hb1
      cases vb
      · have HF : Hid (ro = false) := Lib.hid (by rw [← HZ.out, HD.out]; rfl)
        go_wp2
        go_ret
        exact ⟨ret_bool HF.out.symm, HB1.out⟩
      · go_wp2
        go_roundw
        case rel => exact ⟨i + 1, by go_num, hlt, by rw [HD.out]; rfl, HBA.out⟩
        case measure => simp [intOf]; omega
    · obtain rfl : i = n := by omega
      have HF : Hid (ro = true) := Lib.hid (by rw [← HZ.out, HALL.out, zip_end _ _ _ _ (by rw [HL.out]; exact Nat.le_refl _)])
      go_wp2
      go_ret
      exact ⟨ret_bool HF.out.symm, HB0.out⟩
end Go.Proofs.Ytgenpldldgplhaa
