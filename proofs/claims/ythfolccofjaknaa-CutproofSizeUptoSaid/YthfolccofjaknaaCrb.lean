/- The reference's Bad. -/
import Derived.Test.YthfolccofjaknaaCsu
import Derived.Test.YthfolccofjaknaaBra
namespace Go.Proofs.Ythfolccofjaknaa
open Go.ChangeShapes Go.WideShapes Go.ChangeAt Go.RowKit Go.ChangeMaps

set_option maxRecDepth 100000 in
set_option maxHeartbeats 2000000 in
theorem Bad_any (w : World) (q : Iq) (N : Nat) (h : q.ok w N) (hN : N ≤ 40000) : Calls Try.prog 28 #[q.val] w fun e w' => e = .returned (.bool (badM q.m)) ∧ Below w.heap.size w w' := by
  obtain ⟨A, n, c, L, b⟩ := q
  obtain ⟨r, hr⟩ : ∃ r, badM (Iq.m ⟨A, n, c, L, b⟩) = r := ⟨_, rfl⟩
  rw [hr]
  have HE := Lib.hid (show r = (L.all (fun x => decide (x.z = 0)) && decide (b.z < 0)) by rw [← hr]; unfold badM Iq.m; simp [List.all_map]; rfl)
  clear hr
  have hn : n ≤ 9223372036854775807 := h.1.2.1
  have HL := Lib.hid h.1.len
  have HA := Lib.hid h.1.at
  have HO := Lib.hid h.1.2.2
  have HBG := Lib.hid h.2
  unfold Iq.val
  dsimp only
  obtain ⟨kx, hkx⟩ : ∃ kx, kx = w.heap.size := ⟨_, rfl⟩
  obtain ⟨W1, hW1⟩ : ∃ W1, W1 = w.alloc (.cells #[.slice A n c, .bool b.neg, .slice b.A b.n b.c] 44) := ⟨_, rfl⟩
  have HB1 := Lib.hid (show Below w.heap.size w W1 by rw [hW1]; exact (Below.refl _ _).alloc (Nat.le_refl _) _)
  have KX := Lib.hid (show Blk W1 kx 44 #[.slice A n c, .bool b.neg, .slice b.A b.n b.c] by rw [hW1]; exact Blk.new_ hkx rfl)
  clear h
  go_enter Try.func28, Try.ntmps28
  go_upto_region 1 with fail
  rw [← hkx, ← hW1]
  clear hkx hW1
  go_wp2
  go_loopw [3] (fun s3 wr => ∃ k : Nat, s3 = .int .i64 (k : Int) ∧ k ≤ n ∧ (L.take k).all (fun x => decide (x.z = 0)) = true ∧ Below W1.heap.size W1 wr) (fun s3 _ => n - (intOf s3).toNat)
  case atStart => exact ⟨0, rfl, Nat.zero_le _, rfl, Below.refl _ _⟩
  case round =>
    obtain ⟨k, rfl, hkn, hall, hB⟩ := hrel
    generalize wr = X0 at *
    have HALL := Lib.hid hall
    have HBB := Lib.hid hB
    have HB := Lib.hid (HB1.out.trans (hB.mono HB1.out.size))
    have c0 : X0.cell? ⟨kx, 0, none⟩ = some (.slice A n c) := (KX.out.below hB).cell 0
    have c1 : X0.cell? ⟨kx, 1, none⟩ = some (.bool b.neg) := (KX.out.below hB).cell 1
    have c2 : X0.cell? ⟨kx, 2, none⟩ = some (.slice b.A b.n b.c) := (KX.out.below hB).cell 2
    clear hall hB
    by_cases hlt : k < n
    · have hki : (k : Int) < (n : Int) := by omega
      have hk0 : (0 : Int) ≤ (k : Int) := by omega
      have hkL : k < L.length := by rw [HL.out]; exact hlt
      obtain ⟨bA, off, rfl, -, hc⟩ := HA.out (by omega)
      obtain ⟨d0, d1⟩ := hc X0 HB.out k hkL
      have hbk := HO.out _ (List.getElem_mem hkL)
      have HST := Lib.hid (show (L.take (k + 1)).all (fun x => decide (x.z = 0)) = decide (L[k].z = 0) by rw [List.take_succ_eq_append_getElem hkL, List.all_append, HALL.out]; simp)
      have HBAD := Lib.hid (show L[k].z ≠ 0 → r = false from fun hz => by
        rw [HE.out, List.all_eq_false.2 ⟨L[k], List.getElem_mem hkL, by simpa using hz⟩, Bool.false_and])
      clear hc
      generalize L[k] = x at *
      have CS := Lib.hid (RSign_any x.val x.z N X0 (hbk.below HB.out) (Nat.le_trans hN (by decide)))
      unfold Bg.val at CS
      clear hbk
      go_wp2_with fail
      clear c0 c1 c2 d0 d1
      refine CS.out.mono ?_
      rintro e3 w3 ⟨rfl, hb3⟩
      have HB3 := Lib.hid (HB.out.trans (hb3.mono HB.out.size))
      have HBB3 := Lib.hid (HBB.out.trans (hb3.mono HBB.out.size))
      clear hb3 CS
      by_cases hz : x.z = 0
      · have HST := Lib.hid (HST.out.trans (by rw [decide_eq_true hz]))
        have hs : x.z.sign = 0 := by rw [hz]; rfl
        rw [hs]
        clear hs hz
        go_wp2
        go_roundw
        case rel => exact ⟨k + 1, by go_num, hlt, HST.out, HBB3.out⟩
        case measure => simp [intOf]; omega
      · have HR := Lib.hid (HBAD.out hz)
        have hs := sign_ne hz
        have hs2 : (x.z.sign == 0) = false := by simpa using hs
        generalize x.z.sign = sg at *
        go_wp2
        go_ret
        exact ⟨by rw [HR.out]; rfl, HB3.out⟩
    · obtain rfl : k = n := by omega
      have hlt2 : ¬ ((k : Int) < (k : Int)) := by omega
      have HR := Lib.hid (show r = decide (b.z < 0) by
        have := HALL.out
        rw [List.take_of_length_le (by rw [HL.out]; exact Nat.le_refl _)] at this
        rw [HE.out, this, Bool.true_and])
      have CS := Lib.hid (RSign_any b.val b.z N X0 (HBG.out.below HB.out) (Nat.le_trans hN (by decide)))
      unfold Bg.val at CS
      go_wp2_with fail
      clear c0 c1 c2
      refine CS.out.mono ?_
      rintro e3 w3 ⟨rfl, hb3⟩
      have HB3 := Lib.hid (HB.out.trans (hb3.mono HB.out.size))
      clear hb3 CS
      have HSG := Lib.hid (show decide (b.z.sign < 0) = decide (b.z < 0) by simp [sign_lt])
      generalize b.z.sign = sg at *
      go_wp2
      go_ret
      exact ⟨by rw [HR.out, ← HSG.out]; rfl, HB3.out⟩
end Go.Proofs.Ythfolccofjaknaa
