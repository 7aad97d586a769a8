/- The cycle: its walk. -/
import Derived.Test.YtbmofagaammgmaaDcy
namespace Go.Proofs.Ytbmofagaammgmaa
open Go.ChangeShapes Go.WideShapes Go.ChangeAt Go.RowKit Go.ChangeMaps

def CyP (s : St) (nd : Nat → Nat) (N : Nat) (w : World) (e : Ending) (w' : World) : Prop := ∃ (A : Option Addr) (m c i j : Nat), e = .returned (.slice A m c) ∧ A ≠ none ∧ j < i ∧ i ≤ N ∧ nd i = nd j ∧ (∀ a b, j < a → a < b → b ≤ N → nd a ≠ nd b) ∧ m = i - j ∧ At w' A m 1 (ic .i64 ((pthL s nd N (N - j)).drop (N - i))) ∧ Below w.heap.size w w'
theorem Try.info3 : (Try.prog.info? 3).map (fun i => (i.zero, i.size, i.bytes)) = some (some (.int .i64 0), 1, 8) := by kernel_rfl
set_option maxRecDepth 100000 in
set_option maxHeartbeats 4000000 in
theorem cycle_any (w : World) (B g n : Nat) (s : St) (h : MX w B g n s) (N : Nat) (hN : N = n + 1) (A6 : Option Addr) (c6 : Nat) (fs : List Value) (fr : Nat → List Int) (h6 : At w A6 N 1 fs) (hfr : ∀ j, j < N → ∃ gj cj, fs[j]? = some (.slice (some ⟨gj, 0, none⟩) N cj) ∧ RW w gj 3 (fr j) ∧ (fr j).length = N)
    (nd : Nat → Nat) (hnd : ∀ j, j ≤ N → nd j < N) (hed : ∀ j, j < N → (nd (j + 1), nd j) ∈ s.prs ∧ (fr j).getD (nd (j + 1)) 0 = (nd j : Int)) :
    Calls Try.prog 30 #[.pointer (some ⟨g, 0, none⟩), .slice A6 N c6, .int .i64 (nd N : Int)] w (CyP s nd N w) := by
  obtain ⟨bm, v, M, z, h1, -, -, h4, -, -⟩ := h.all
  have HMP := Lib.hid h4
  have HG := Lib.hid h1
  have HMX := Lib.hid h
  have hn64 := h.n
  have HNN := Lib.hid (show ((n : Int) + 1) = (N : Int) by omega)
  have HN := Lib.hid hN
  have hN65 : N ≤ 65 := by omega
  have hN1 : 1 ≤ N := by omega
  have hmk2 := make36 N (by omega)
  have c0 : w.cell? ⟨g, 0, none⟩ = some (.int .i64 (n : Int)) := h1.cell 0
  have H6 := Lib.hid h6
  have HFR := Lib.hid hfr
  have HND := Lib.hid hnd
  have HED := Lib.hid hed
  obtain ⟨i0, hi0, hz0, hz1, hz2⟩ := info_parts Try.info3
  have HI0 := Lib.hid hi0
  have HZ0 := Lib.hid hz0
  have HZ1 := Lib.hid hz1
  have HZ2 := Lib.hid hz2
  clear h h1 h4 hN h6 hfr hnd hed hi0 hz0 hz1 hz2
  obtain ⟨gs, hgs⟩ : ∃ gs, gs = w.heap.size := ⟨_, rfl⟩
  have HGS := Lib.hid hgs
  have HB1 := Lib.hid ((Below.refl _ w).alloc (Nat.le_refl _) (.cells (ics (List.replicate N 0)) 3))
  have HS1 := Lib.hid (show RW (w.alloc (.cells (ics (List.replicate N 0)) 3)) gs 3 (List.replicate N 0) by rw [hgs]; exact RW.made w 3 _)
  clear hgs
  go_enter Try.func30, Try.ntmps30
  have hmk3 := hmk2
  simp only [← HNN.out] at hmk3
  go_upto_region 4 with fail
  rw [← HGS.out]
  clear c0 hmk2 hmk3
  go_loopw [20] (fun s20 wr => ∃ k : Nat, s20 = .int .i64 (k : Int) ∧ k ≤ N ∧ RW wr gs 3 (List.replicate k (-1) ++ List.replicate (N - k) 0) ∧ Below w.heap.size w wr) (fun s20 _ => N - (intOf s20).toNat)
  case atStart => exact ⟨0, rfl, Nat.zero_le _, HS1.out, HB1.out⟩
  case round =>
    obtain ⟨k, rfl, hkN, hf, hB⟩ := hrel
    by_cases hlt : k < N
    · have hki : (k : Int) < N := by omega
      have hk0 : (0 : Int) ≤ (k : Int) := by omega
      obtain ⟨u, hu⟩ : ∃ u, wr.cell? ⟨gs, k, none⟩ = some u := ⟨_, hf.cell (j := k) (by simp; omega)⟩
      have hfz := hf.free k
      have hf' := hf.set k (-1)
      rw [rep_set N k hlt] at hf'
      have HF' := Lib.hid hf'
      have HB' := Lib.hid (hB.setCell (p := ⟨gs, k, none⟩) (by rw [HGS.out]; exact Nat.le_refl _) (.int .i64 (-1)))
      clear hf hB hf'
      go_wp2
      go_roundw
      case rel => exact ⟨k + 1, by go_num, hlt, HF'.out, HB'.out⟩
      case measure => simp [intOf]; omega
    · obtain rfl : N = k := by omega
      have hlt2 : ¬ ((N : Int) < (N : Int)) := by omega
      have HF3 := Lib.hid (show RW wr gs 3 (List.replicate N (-1)) by rw [Nat.sub_self, List.replicate_zero, List.append_nil] at hf; exact hf)
      have HB3 := Lib.hid hB
      clear hf hB HS1 HB1
      go_upto_region 9 with fail
      go_loopw [2, 7, 10] (fun s2 s7 s10 wr => ∃ (t : Nat) (S : List Int), s10 = .int .i64 ((N : Int) - 1 - t) ∧ s2 = .int .i64 (nd (N - t) : Int) ∧ t ≤ N ∧ wr.ownsRow w.heap.size 3 1 s7 t (ic .i64 (pthL s nd N t)) ∧ s7.ownBlock ≠ some gs ∧ RW wr gs 3 S ∧ SI nd N t S ∧ Below w.heap.size w wr) (fun _ _ s10 _ => (intOf s10 + 1).toNat)
      case atStart => exact ⟨0, _, by simp, by simp, Nat.zero_le _, World.ownsRow_nil _ _ _ _, (fun e => by cases e), HF3.out, SI.start nd N, HB3.out⟩
      case round =>
        obtain ⟨t, S, rfl, rfl, htN, hO, hne, hS, hSI, hB⟩ := hrel
        generalize wr = W at *
        obtain ⟨A7, c7, rfl, -⟩ := At.of_own hO
        have HO := Lib.hid hO
        have HS := Lib.hid hS
        have HSI := Lib.hid hSI
        have HB := Lib.hid hB
        have hvN : nd (N - t) < N := HND.out _ (by omega)
        have hvi : ((nd (N - t) : Nat) : Int) < N := by omega
        have hv0 : (0 : Int) ≤ ((nd (N - t) : Nat) : Int) := by omega
        obtain ⟨sv, hsv⟩ : ∃ sv, S.getD (nd (N - t)) 0 = sv := ⟨_, rfl⟩
        have cs : W.cell? ⟨gs, nd (N - t), none⟩ = some (.int .i64 sv) := by rw [← hsv]; exact hS.cell (by rw [hSI.len]; exact hvN)
        have HSV := Lib.hid hsv
        clear hO hS hSI hB hsv
        by_cases hgo : t < N ∧ sv < 0
        · obtain ⟨ht, hs0⟩ := hgo
          obtain ⟨kk, hkk⟩ : ∃ kk, kk = N - 1 - t := ⟨_, rfl⟩
          have hki : ((N : Int) - 1 - t) = (kk : Int) := by omega
          have hNt : N - t = kk + 1 := by omega
          have hkN : kk < N := by omega
          have hk0 : (0 : Int) ≤ (kk : Int) := by omega
          have hkN' : (kk : Int) < N := by omega
          have HKK := Lib.hid hkk
          rw [hki]
          rw [hNt] at hvN hvi hv0 cs HSV ⊢
          have HSI2 := Lib.hid (show SI nd N (t + 1) (S.set (nd (kk + 1)) (t : Int)) by
            have := HSI.out.step ht (by rw [hNt]; exact hvN) (by rw [hNt, HSV.out]; exact hs0)
            rw [hNt] at this
            exact this)
          obtain ⟨hed1, hed2⟩ := HED.out kk hkN
          obtain ⟨gj, cj, hfj, hrj, hlj⟩ := HFR.out kk hkN
          obtain ⟨b6, o6, rfl, hb6, hc6⟩ := H6.out.2 hN1
          have fz := HS.out.free (nd (kk + 1))
          obtain ⟨W1, hW1⟩ : ∃ W1, W1 = W.setCell ⟨gs, nd (kk + 1), none⟩ (.int .i64 (t : Int)) := ⟨_, rfl⟩
          have HBW1 := Lib.hid (show Below w.heap.size w W1 by rw [hW1]; exact HB.out.setCell (p := ⟨gs, nd (kk + 1), none⟩) (by rw [HGS.out]; exact Nat.le_refl _) _)
          have HS1 := Lib.hid (show RW W1 gs 3 (S.set (nd (kk + 1)) (t : Int)) by rw [hW1]; exact HS.out.set _ _)
          have HO1 := Lib.hid (show W1.ownsRow w.heap.size 3 1 (.slice A7 t c7) t (ic .i64 (pthL s nd N t)) by rw [hW1]; exact HO.out.kept (grown_set W gs _ _) (.inr hne))
          have c6 : W1.cell? ⟨b6, o6 + kk, none⟩ = some (.slice (some ⟨gj, 0, none⟩) N cj) := keepcell HBW1.out (hc6 kk _ hfj)
          have cj1 : W1.cell? ⟨gj, nd (kk + 1), none⟩ = some (.int .i64 (nd kk : Int)) := by
            rw [← hed2]
            exact (hrj.below HBW1.out).cell (by omega)
          obtain ⟨q0, hq0, hqe⟩ := List.mem_map.1 hed1
          obtain ⟨⟨z1, z2⟩, z3, z4⟩ := HMX.out.ok q0 hq0
          obtain ⟨bo, hbo⟩ := Option.isSome_iff_exists.1 ((HMX.out.dom q0).2 hq0)
          obtain ⟨cc, ps⟩ := bo
          have hq1 : q0 = ((nd (kk + 1) : Int), (nd kk : Int)) := by
            injection hqe with e1 e2
            exact Prod.ext (by dsimp only; omega) (by dsimp only; omega)
          rw [hq1] at hbo
          have HPOS := Lib.hid (show s.pos (nd (kk + 1), nd kk) = ps by unfold St.pos; rw [hbo]; rfl)
          have HPS := Lib.hid (show pthL s nd N (t + 1) = pthL s nd N t ++ [ps] by rw [pthL_succ, hNt, Nat.add_sub_cancel, HPOS.out])
          have hndk : nd kk < N := HND.out kk (by omega)
          have hl := (HMP.out.below HBW1.out).look Try.underlying68 (z := .agg #[.int .i64 0, .int .i64 0]) (show (zeroValue 74).run Try.prog W1 = _ by kernel_rfl) (a := ((nd (kk + 1) : Int), (nd kk : Int))) ⟨w64_of (by omega) (by omega), w64_of (by omega) (by omega)⟩
          rw [hbo] at hl
          have hl2 : (Instr.lookup 68 (.map (some bm)) (.agg #[.int .i64 (nd (kk + 1) : Int), .int .i64 (nd kk : Int)]) false).run Try.prog W1 = .ok (.agg #[.int .i64 cc, .int .i64 ps]) W1 := hl
          have hfl : ∀ w', (Instr.field 74 (.agg #[.int .i64 cc, .int .i64 ps]) 1).run Try.prog w' = .ok (.int .i64 ps) w' := fun w' => by kernel_rfl
          have cg : W1.cell? ⟨g, 1, none⟩ = some (.map (some bm)) := (HG.out.below HBW1.out).cell 1
          have HO2 := Lib.hid (own_below HO1.out ((Below.refl _ W1).alloc (Nat.le_refl _) (.cells #[.int .i64 ps] 3)))
          have HBW2 := Lib.hid (HBW1.out.alloc HBW1.out.size (.cells #[.int .i64 ps] 3))
          have HS2 := Lib.hid (HS1.out.below ((Below.refl _ W1).alloc (Nat.le_refl _) (.cells #[.int .i64 ps] 3)))
          have HSRC := Lib.hid (src_blk (P := Try.prog) (c := 1) (n := 1) (size := 1) (xs := [.int .i64 ps]) Try.underlying36 rfl (by simp [Value.oneCell']) (show Blk (W1.alloc (.cells #[.int .i64 ps] 3)) W1.heap.size 3 _ from Blk.new _ _ _))
          clear hl hbo hq1 hqe hq0 hed1 hed2 hfj hrj hc6 hki hkk z1 z2 z3 z4
          go_upto_region 12 with fail
          rw [← hW1]
          clear hW1 cs fz
          go_wp2_with (at_builtin; go_loud (refine wpList_append_src _ rfl _ _ 36 36 rfl w.heap.size 3 i0 _ 1 8 Try.underlying36 HI0.out HZ0.out HZ1.out HZ2.out rfl (.slice A7 t c7) t (ic .i64 (pthL s nd N t)) rfl HO2.out _ 1 [.int .i64 ps] rfl HSRC.out (by unfold maxLen; omega) (by omega) HBW2.out.size ?_))
          intro v' W2 own' hg hmv
          have hgl : gs < (W1.alloc (.cells #[.int .i64 ps] 3)).heap.size := HS2.out.lt
          have hne' : v'.ownBlock ≠ some gs := by
            rcases hmv with e | ⟨k, e, hk⟩
            · rw [e]; exact hne
            · rw [e]
              intro e2
              injection e2 with e2
              omega
          have HS3 := Lib.hid (show RW W2 gs 3 (S.set (nd (kk + 1)) (t : Int)) from let ⟨cs, h1, h2⟩ := HS2.out; ⟨cs, (hg.block gs hgl (fun e => hne e.symm)).trans h1, h2⟩)
          have HO3 := Lib.hid (show W2.ownsRow w.heap.size 3 1 v' (t + 1) (ic .i64 (pthL s nd N (t + 1))) by
            rw [HPS.out]
            unfold ic at own' ⊢
            rw [List.map_append]
            exact own')
          have HBW3 := Lib.hid (grown_below HBW2.out HBW2.out.size HO2.out hg)
          have hk2 : N - (t + 1) = kk := by have := HKK.out; omega
          have HNE := Lib.hid hne'
          clear own' hg hmv hne' hgl
          obtain ⟨A8, c8, rfl, -⟩ := At.of_own HO3.out
          go_wp2
          go_roundw
          case rel => exact ⟨t + 1, _, by (have := HKK.out; go_num), by rw [hk2], by omega, HO3.out, HNE.out, HS3.out, HSI2.out, HBW3.out⟩
          case measure => have := HKK.out; simp [intOf] <;> omega
        · obtain ⟨i, hi1, hi2, hi3, hi4⟩ := HSI.out.seen htN HND.out (by rw [HSV.out]; omega)
          rw [HSV.out] at hi4
          obtain ⟨lo, hlo⟩ : ∃ lo, lo = N - i := ⟨_, rfl⟩
          have hsl : sv = (lo : Int) := by omega
          subst hsl
          have hlt : lo ≤ t := by omega
          have ht1 : 1 ≤ t := by omega
          obtain ⟨g7, rfl, hb7⟩ : ∃ g7, A7 = some ⟨g7, 0, none⟩ ∧ g7 < W.heap.size := by
            rcases HO.out.2 with ⟨e, h0⟩ | ⟨g7, cap, cur, e, hb, hh, -⟩
            · omega
            · injection e with e1 e2 e3
              exact ⟨g7, e1, (show Blk W g7 3 cur from hh).lt⟩
          have hlc : t ≤ c7 := by
            rcases HO.out.2 with ⟨e, h0⟩ | ⟨g7', cap, cur, e, hb, hh, hnc, -⟩
            · omega
            · injection e with e1 e2 e3
              omega
          have hlti : (lo : Int) ≤ t := by omega
          have hlci : (t : Int) ≤ c7 := by omega
          have hl0 : (0 : Int) ≤ (lo : Int) := by omega
          have hls : lo < t := by omega
          obtain ⟨A', c', e', hat, -⟩ := At.of_own HO.out
          injection e' with e1 e2 e3
          subst e1
          have HFIN := Lib.hid (show CyP s nd N w (.returned (.slice (some ⟨g7, lo, none⟩) (t - lo) (c7 - lo))) W from by
            refine ⟨_, _, _, i, N - t, rfl, by simp, hi1, hi2, hi3, fun a b h1 h2 h3 => HSI.out.ne a b h1 h2 h3, by omega, ?_, HB.out⟩
            rw [show N - (N - t) = t by omega, ← hlo]
            refine ⟨?_, fun _ => ⟨g7, lo, rfl, hb7, fun j u hu => ?_⟩⟩
            · simp [ic, pthL_len]
            · obtain ⟨b', o', e4, -, hc⟩ := hat.2 (by omega)
              injection e4 with e4
              injection e4 with e4 e5
              subst e4
              subst e5
              have := hc (lo + j) u (by
                unfold ic at hu ⊢
                rw [List.map_drop, List.getElem?_drop] at hu
                exact hu)
              rw [Nat.zero_add] at this
              exact this)
          clear e2 e3 hat
          clear hi1 hi2 hi3 hi4 hlo
          by_cases ht : t < N
          · have hk0 : (0 : Int) ≤ (N : Int) - 1 - t := by omega
            have hs0 : ¬ ((lo : Int) < 0) := by omega
            go_wp2
            all_goals (try (exfalso; omega))
            go_ret
            exact HFIN.out
          · have hk0 : ¬ (0 : Int) ≤ (N : Int) - 1 - t := by omega
            go_wp2
            all_goals (try (exfalso; omega))
            go_ret
            exact HFIN.out
end Go.Proofs.Ytbmofagaammgmaa
