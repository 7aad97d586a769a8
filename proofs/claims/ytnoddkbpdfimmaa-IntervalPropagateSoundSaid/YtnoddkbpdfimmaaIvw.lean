/- The reference's union of intervals. -/
import Derived.Test.YtnoddkbpdfimmaaIvm
import Derived.Test.YtnoddkbpdfimmaaIvs
namespace Go.Proofs.Ytnoddkbpdfimmaa
open Go.ChangeShapes Go.WideShapes Go.ChangeAt Go.RowKit Go.ChangeMaps

def slen : Value → Nat
  | .slice _ n _ => n
  | _ => 0
def bval : Value → Nat
  | .bool true => 1
  | _ => 0
set_option maxRecDepth 100000 in
set_option maxHeartbeats 2000000 in
theorem ROf_any (A : Option Addr) (n c : Nat) (R : List Iv) (w : World) (h : Ivs w A n R) (hn : n ≤ 100000) (hok : ∀ x ∈ R, x.ok) : Calls Try.prog 17 #[.slice A n c] w fun e w' => ∃ v, e = .returned v ∧ ∃ S, Uni R S ∧ (∀ x ∈ S, x.ok) ∧ S.length ≤ n ∧ OR 42 w' w.heap.size v S ∧ Below w.heap.size w w' := by
  obtain ⟨i0, hi, hz0, hz1, hz2⟩ := info_parts Try.info42
  have HL := Lib.hid h.len
  have HA := Lib.hid h.at
  have HK := Lib.hid hok
  clear h hok
  go_enter Try.func17, Try.ntmps17
  go_wp2
  go_loopw [3] (fun s3 wr => ∃ (S : List Iv), OR 42 wr w.heap.size s3 S ∧ OfI R S ∧ Below w.heap.size w wr) (fun s3 _ => n - slen s3)
  case atStart => exact ⟨[], World.ownsRow_nil _ _ _ _, ofI_nil, Below.refl _ _⟩
  case round =>
    obtain ⟨wq, rfl⟩ : ∃ x, x = wr := ⟨_, rfl⟩
    obtain ⟨S, hO, hI, hB⟩ := hrel
    have HO := Lib.hid hO
    have HI := Lib.hid hI
    have HB := Lib.hid hB
    have hs3 := hO.ivs
    clear hO hI hB
    obtain ⟨A3, c3, rfl, i3, hcc, -⟩ := hs3
    have H3 := Lib.hid i3
    obtain ⟨m, hm⟩ : ∃ m, S.length = m := ⟨_, rfl⟩
    rw [hm] at HO hcc H3 ⊢
    have HM := Lib.hid hm
    have hmn : m ≤ n := by
      have h1 := HI.out.2.2.2.2.2
      have h2 := HL.out
      omega
    clear hm i3
    go_wp2
    go_loopw [4, 5, 6] (fun s4 s5 s6 wr => ∃ (i : Nat) (f : Bool) (low : Int), s4 = .int .i64 low ∧ s5 = .bool f ∧ s6 = .int .i64 (i : Int) ∧ i ≤ n ∧ LoI R S i f low ∧ Below wq.heap.size wq wr) (fun _ _ s6 _ => n - (intOf s6).toNat)
    case atStart => exact ⟨0, false, 0, rfl, rfl, rfl, Nat.zero_le _, loI_zero, Below.refl _ _⟩
    case round =>
      obtain ⟨wp, rfl⟩ : ∃ x, x = wr := ⟨_, rfl⟩
      obtain ⟨i, f, low, rfl, rfl, rfl, hin, hLo, hB⟩ := hrel
      have HLO := Lib.hid hLo
      have HB2 := Lib.hid hB
      have HBW := Lib.hid (HB.out.trans (hB.mono HB.out.size))
      clear hLo hB
      by_cases hlt : i < n
      · have hki : (i : Int) < n := by omega
        have hk0 : (0 : Int) ≤ (i : Int) := by omega
        obtain ⟨b, off, rfl, hbl, hc⟩ := HA.out (by omega)
        have hi' : i < R.length := by rw [HL.out]; exact hlt
        obtain ⟨c0, c1⟩ := hc wp HBW.out i hi'
        have HX := Lib.hid (HK.out _ (List.getElem_mem hi'))
        obtain ⟨x, hxe⟩ : ∃ x, R[i] = x := ⟨_, rfl⟩
        have HXE := Lib.hid hxe
        rw [hxe] at HX c0 c1
        have HO4 := Lib.hid (HI.out.2.2.2.1 x (by rw [← hxe]; exact List.getElem_mem hi'))
        clear hc hbl hxe
        obtain ⟨x0, x1⟩ := x
        simp only at c0 c1
        obtain ⟨X, hX⟩ : ∃ W, W = wp.alloc (.cells #[.int .i64 x0, .int .i64 x1] 42) := ⟨_, rfl⟩
        have X7 := Lib.hid (show Blk X wp.heap.size 42 #[.int .i64 x0, .int .i64 x1] by rw [hX]; exact Blk.new _ _ _)
        have XB := Lib.hid (show Below wq.heap.size wq X by rw [hX]; exact HB2.out.alloc HB2.out.size _)
        have g0 : X.cell? ⟨wp.heap.size, 0, none⟩ = some (.int .i64 x0) := X7.out.cell 0
        have g1 : X.cell? ⟨wp.heap.size, 1, none⟩ = some (.int .i64 x1) := X7.out.cell 1
        go_upto_region 7 with fail
        rw [← hX]
        clear hX c0 c1
        by_cases he : x1 < x0
        · have HQ := Lib.hid (loI_skip HLO.out hi' (by rw [HXE.out]; unfold cand; simp only [Bool.and_eq_false_iff, decide_eq_false_iff_not]; left; show ¬ x0 ≤ x1; omega))
          go_wp2
          go_roundw
          case rel => exact ⟨i + 1, f, low, rfl, rfl, by go_num, hlt, HQ.out, XB.out⟩
          case measure => simp only [intOf]; omega
        · rcases m with _ | p
          · have HCN : Hid (cand S ⟨x0, x1⟩ = true) := Lib.hid (by unfold cand; simp only [HM.out, decide_true, Bool.true_or, Bool.and_true, decide_eq_true_eq]; omega)
            cases f
            · have HQ := Lib.hid (loI_new HLO.out hi' (by rw [HXE.out]; exact HCN.out) nofun)
              rw [HXE.out] at HQ
              go_wp2
              go_roundw
              case rel => exact ⟨i + 1, true, x0, rfl, rfl, by go_num, hlt, HQ.out, XB.out⟩
              case measure => simp only [intOf]; omega
            · by_cases hl : x0 < low
              · have HQ := Lib.hid (loI_new HLO.out hi' (by rw [HXE.out]; exact HCN.out) (fun _ => by rw [HXE.out]; exact hl))
                rw [HXE.out] at HQ
                go_wp2
                go_roundw
                case rel => exact ⟨i + 1, true, x0, rfl, rfl, by go_num, hlt, HQ.out, XB.out⟩
                case measure => simp only [intOf]; omega
              · have HQ := Lib.hid (loI_keep HLO.out hi' (by rw [HXE.out]; show low ≤ x0; omega))
                go_wp2
                go_roundw
                case rel => exact ⟨i + 1, true, low, rfl, rfl, by go_num, hlt, HQ.out, XB.out⟩
                case measure => simp only [intOf]; omega
          · have HI3 := H3.out.at (Nat.succ_pos p)
            obtain ⟨b3, off3, rfl, hb3, hc3⟩ := HI3
            obtain ⟨-, l1c⟩ := hc3 X XB.out p (by rw [HM.out]; omega)
            have HLE : Hid (S.getD p ⟨0, 0⟩ = S[p]'(by rw [HM.out]; omega)) := Lib.hid (by simp [List.getD, List.getElem?_eq_getElem (show p < S.length by rw [HM.out]; omega)])
            have HCD : Hid (cand S ⟨x0, x1⟩ = (decide (x0 ≤ x1) && decide ((S.getD p ⟨0, 0⟩).hi < x1))) := Lib.hid (by
              unfold cand
              rw [HM.out]
              simp)
            rw [HLE.out] at HCD
            have HMY := Lib.hid (show S[p]'(by rw [HM.out]; omega) ∈ S from List.getElem_mem _)
            clear hc3
            generalize (S[p]'(by rw [HM.out]; omega)) = l at *
            have hp1 : (0 : Int) < (p : Int) + 1 := by omega
            have hp0 : (0 : Int) ≤ (p : Int) := by omega
            obtain ⟨l0, l1⟩ := l
            simp only at l1c HCD
            by_cases hl1 : x1 ≤ l1
            · have HQ := Lib.hid (loI_skip HLO.out hi' (by rw [HXE.out]; rw [HCD.out]; simp only [Bool.and_eq_false_iff, decide_eq_false_iff_not]; right; omega))
              go_wp2
              go_roundw
              case rel => exact ⟨i + 1, f, low, rfl, rfl, by go_num, hlt, HQ.out, XB.out⟩
              case measure => simp only [intOf]; omega
            · have HCN : Hid (cand S ⟨x0, x1⟩ = true) := Lib.hid (by rw [HCD.out]; simp only [Bool.and_eq_true, decide_eq_true_eq]; omega)
              have hgap := HO4.out (by show x0 ≤ x1; omega) HCN.out _ HMY.out
              simp only at hgap
              have hl2 : ¬ x0 ≤ l1 := by omega
              clear hgap
              cases f
              · have HQ := Lib.hid (loI_new HLO.out hi' (by rw [HXE.out]; exact HCN.out) nofun)
                rw [HXE.out] at HQ
                go_wp2
                go_roundw
                case rel => exact ⟨i + 1, true, x0, rfl, rfl, by go_num, hlt, HQ.out, XB.out⟩
                case measure => simp only [intOf]; omega
              · by_cases hl : x0 < low
                · have HQ := Lib.hid (loI_new HLO.out hi' (by rw [HXE.out]; exact HCN.out) (fun _ => by rw [HXE.out]; exact hl))
                  rw [HXE.out] at HQ
                  go_wp2
                  go_roundw
                  case rel => exact ⟨i + 1, true, x0, rfl, rfl, by go_num, hlt, HQ.out, XB.out⟩
                  case measure => simp only [intOf]; omega
                · have HQ := Lib.hid (loI_keep HLO.out hi' (by rw [HXE.out]; show low ≤ x0; omega))
                  go_wp2
                  go_roundw
                  case rel => exact ⟨i + 1, true, low, rfl, rfl, by go_num, hlt, HQ.out, XB.out⟩
                  case measure => simp only [intOf]; omega
      · obtain rfl : i = n := by omega
        have hlt2 : ¬ ((i : Int) < (i : Int)) := by omega
        cases f
        · have HU := Lib.hid (loI_none HLO.out (by rw [HL.out]; exact Nat.le_refl _) HI.out)
          have HOE := Lib.hid (HO.out.below HB2.out)
          go_wp2
          go_ret
          refine ⟨_, rfl, S, HU.out, HI.out.2.1, by rw [HM.out]; exact hmn, ?_, HBW.out⟩
          have h := HOE.out
          unfold OR at h ⊢
          exact h
        · have HST := Lib.hid (hiI_start HLO.out HK.out)
          go_wp2
          go_loopw [9, 10] (fun s9 s10 wr => ∃ (high : Int) (ch : Bool), s9 = .int .i64 high ∧ s10 = .bool ch ∧ HiI R low high ∧ (ch = false → ClI R i high high false) ∧ Below wq.heap.size wq wr) (fun s9 s10 _ => (9223372036854775807 - intOf s9).toNat * 2 + bval s10)
          case atStart => exact ⟨low, true, rfl, rfl, HST.out, nofun, HB2.out⟩
          case round =>
            obtain ⟨wo, rfl⟩ : ∃ x, x = wr := ⟨_, rfl⟩
            obtain ⟨h0, c1h, rfl, rfl, hHI, hCL, hB⟩ := hrel
            have HHI0 := Lib.hid hHI
            have HCL0 := Lib.hid hCL
            have HB3 := Lib.hid hB
            clear hHI hCL hB HST
            cases c1h
            · have HFI := Lib.hid (ofI_snoc HI.out HLO.out (by rw [HL.out]; exact Nat.le_refl _) HHI0.out (HCL0.out rfl) (by rw [HL.out]; exact Nat.le_refl _) (fun p hp => nrm_last HI.out.1 hp)).1
              obtain ⟨W3, hW3⟩ : ∃ W3, W3 = wo.alloc (.cells #[.int .i64 low, .int .i64 h0] 42) := ⟨_, rfl⟩
              have HB5 := Lib.hid (HB.out.trans (HB3.out.mono HB.out.size))
              have HO3 := Lib.hid (show W3.ownsRow w.heap.size 42 2 (.slice A3 m c3) m (S.flatMap Iv.cells) by
                rw [hW3]
                have h := HO.out.below HB3.out
                unfold OR at h
                rw [HM.out] at h
                exact h.alloc _)
              have HB6 := Lib.hid (show Below w.heap.size w W3 by rw [hW3]; exact HB5.out.alloc HB5.out.size _)
              have HN3 : Hid (Src Try.prog 2 22 (.slice (some ⟨wo.heap.size, 0, none⟩) 1 1) 1 (Iv.cells ⟨low, h0⟩) W3) := Lib.hid (src_blk (c := 1) Try.underlying22 rfl (iv_one _) (show Blk W3 wo.heap.size 42 (Iv.cells ⟨low, h0⟩).toArray by rw [hW3]; exact Blk.new_ rfl rfl))
              have HS3 := Lib.hid HB6.out.size
              subst hW3
              go_wp2_with (at_builtin; go_loud (refine wpList_append_src _ rfl _ _ 22 22 rfl w.heap.size 42 i0 _ 2 16 Try.underlying22 hi hz0 hz1 hz2 rfl _ m _ rfl HO3.out _ 1 (Iv.cells ⟨low, h0⟩) rfl HN3.out ?c1 ?c2 HS3.out ?_))
              case c1 => unfold maxLen; omega
              case c2 => omega
              intro v' w1 own' hg _
              have HBn := Lib.hid (HB6.out.grown hg HS3.out (fun j hj => (HO3.out.lt j hj).1))
              have HOn := Lib.hid (show OR 42 w1 w.heap.size v' (S ++ [⟨low, h0⟩]) by unfold OR; rw [List.length_append, HM.out, List.flatMap_append]; simpa using own')
              have HSL := Lib.hid (show slen v' = m + 1 by
                obtain ⟨A', c', e, -, -, -⟩ := HOn.out.ivs
                rw [e]
                show (S ++ [_]).length = _
                rw [List.length_append, HM.out]; rfl)
              clear own' hg HO3 HB6 HN3 HS3
              go_wp2
              go_roundw
              case rel => exact ⟨S ++ [⟨low, h0⟩], HOn.out, HFI.out, HBn.out⟩
              case measure =>
                rw [HSL.out]
                have h1 := HFI.out.2.2.2.2.2
                have h2 := HL.out
                have h3 := HM.out
                rw [List.length_append, h2, h3] at h1
                simp only [List.length_cons, List.length_nil] at h1
                show _ < i - slen (.slice A3 m c3)
                simp only [slen]
                omega
            · go_wp2
              go_loopw [9, 10, 11] (fun s9 s10 s11 wr => ∃ (j : Nat) (high : Int) (ch : Bool), s9 = .int .i64 high ∧ s10 = .bool ch ∧ s11 = .int .i64 (j : Int) ∧ j ≤ i ∧ HiI R low high ∧ ClI R j h0 high ch ∧ Below wq.heap.size wq wr) (fun _ _ s11 _ => i - (intOf s11).toNat)
              case atStart => exact ⟨0, h0, false, rfl, rfl, rfl, Nat.zero_le _, HHI0.out, clI_zero, HB3.out⟩
              case round =>
                obtain ⟨j, high, ch, rfl, rfl, rfl, hin, hHI, hCL, hB⟩ := hrel
                have HHI := Lib.hid hHI
                have HCL := Lib.hid hCL
                have HB4 := Lib.hid hB
                have HBW4 := Lib.hid (HB.out.trans (hB.mono HB.out.size))
                clear hHI hCL hB
                by_cases hlt : j < i
                · have hki : (j : Int) < i := by omega
                  have hk0 : (0 : Int) ≤ (j : Int) := by omega
                  obtain ⟨b, off, rfl, hbl, hc⟩ := HA.out (by omega)
                  have hi' : j < R.length := by rw [HL.out]; exact hlt
                  obtain ⟨c0, c1⟩ := hc wr HBW4.out j hi'
                  have HX := Lib.hid (HK.out _ (List.getElem_mem hi'))
                  obtain ⟨x, hxe⟩ : ∃ x, R[j] = x := ⟨_, rfl⟩
                  have HXE := Lib.hid hxe
                  rw [hxe] at HX c0 c1
                  clear hc hbl hxe
                  obtain ⟨x0, x1⟩ := x
                  simp only at c0 c1
                  have hxb := HX.out.2.2
                  simp only at hxb
                  have hwl := HHI.out.2.1
                  have hwk := HHI.out.1
                  cases q1 : decide (x0 ≤ x1)
                  · have q1' : ¬ x0 ≤ x1 := by simpa using q1
                    have HQ := Lib.hid (clI_skip HCL.out hi' (fun g => by rw [HXE.out] at g ⊢; show x1 ≤ high ∨ high + 1 < x0; simp only at g; omega))
                    go_upto_region 24 with fail
                    go_quiet (fail)
                    go_wp2
                    go_roundw
                    case rel => exact ⟨j + 1, high, ch, rfl, rfl, by go_num, hlt, HHI.out, HQ.out, (by first | exact HB4.out | exact below_drew HB4.out | exact HB4.out.drewN _ | exact below_drewN HB4.out)⟩
                    case measure => simp only [intOf]; omega
                  · have q1' : x0 ≤ x1 := by simpa using q1
                    cases q2 : decide (high < x1)
                    · have q2' : ¬ high < x1 := by simpa using q2
                      have HQ := Lib.hid (clI_skip HCL.out hi' (fun g => by rw [HXE.out] at g ⊢; show x1 ≤ high ∨ high + 1 < x0; simp only at g; omega))
                      go_upto_region 24 with fail
                      go_quiet (fail)
                      go_wp2
                      go_roundw
                      case rel => exact ⟨j + 1, high, ch, rfl, rfl, by go_num, hlt, HHI.out, HQ.out, (by first | exact HB4.out | exact below_drew HB4.out | exact HB4.out.drewN _ | exact below_drewN HB4.out)⟩
                      case measure => simp only [intOf]; omega
                    · have q2' : high < x1 := by simpa using q2
                      have hwr : IntKind.i64.wrap (high + 1) = high + 1 := by rw [IntKind.wrap_i64]; omega
                      cases q3 : decide (x0 ≤ high)
                      · have q3' : ¬ x0 ≤ high := by simpa using q3
                        cases q4 : (x0 == high + 1)
                        · have q4' : ¬ x0 = high + 1 := by simpa using q4
                          have HQ := Lib.hid (clI_skip HCL.out hi' (fun g => by rw [HXE.out] at g ⊢; show x1 ≤ high ∨ high + 1 < x0; simp only at g; omega))
                          go_upto_region 24 with fail
                          go_quiet (fail)
                          go_wp2
                          go_roundw
                          case rel => exact ⟨j + 1, high, ch, rfl, rfl, by go_num, hlt, HHI.out, HQ.out, (by first | exact HB4.out | exact below_drew HB4.out | exact HB4.out.drewN _ | exact below_drewN HB4.out)⟩
                          case measure => simp only [intOf]; omega
                        · have q4' : x0 = high + 1 := by simpa using q4
                          have HQ := Lib.hid (clI_new HCL.out (show high < x1 by omega))
                          have HQ2 := Lib.hid (hiI_new (x := ⟨x0, x1⟩) HHI.out (by rw [← HXE.out]; exact List.getElem_mem hi') HX.out (show high < x1 by omega) (show x0 ≤ high + 1 by omega))
                          clear q4'
                          go_upto_region 24 with fail
                          go_quiet (fail)
                          go_wp2
                          go_roundw
                          case rel => exact ⟨j + 1, x1, true, rfl, rfl, by go_num, hlt, HQ2.out, HQ.out, (by first | exact HB4.out | exact below_drew HB4.out | exact HB4.out.drewN _ | exact below_drewN HB4.out)⟩
                          case measure => simp only [intOf]; omega
                      · have q3' : x0 ≤ high := by simpa using q3
                        have HQ := Lib.hid (clI_new HCL.out (show high < x1 by omega))
                        have HQ2 := Lib.hid (hiI_new (x := ⟨x0, x1⟩) HHI.out (by rw [← HXE.out]; exact List.getElem_mem hi') HX.out (show high < x1 by omega) (show x0 ≤ high + 1 by omega))
                        go_upto_region 24 with fail
                        go_quiet (fail)
                        go_wp2
                        go_roundw
                        case rel => exact ⟨j + 1, x1, true, rfl, rfl, by go_num, hlt, HQ2.out, HQ.out, (by first | exact HB4.out | exact below_drew HB4.out | exact HB4.out.drewN _ | exact below_drewN HB4.out)⟩
                        case measure => simp only [intOf]; omega
                · obtain rfl : j = i := by omega
                  have hlt2 : ¬ ((j : Int) < (j : Int)) := by omega
                  have HC3 : Hid (ch = false → ClI R j high high false) := Lib.hid (fun e => by
                    have h := HCL.out
                    rw [e] at h
                    unfold ClI at h ⊢
                    simp only [Bool.false_eq_true, ↓reduceIte] at h ⊢
                    exact ⟨by trivial, h.2⟩)
                  have HME : Hid ((9223372036854775807 - high).toNat * 2 + bval (.bool ch) < (9223372036854775807 - h0).toNat * 2 + 1) := Lib.hid (by
                    have h := HCL.out
                    have hb := HHI.out.2.2.1
                    unfold ClI at h
                    cases ch
                    · simp only [Bool.false_eq_true, ↓reduceIte] at h
                      simp only [bval]
                      omega
                    · simp only [↓reduceIte] at h
                      simp only [bval]
                      omega)
                  go_wp2
                  go_roundw
                  case rel => exact ⟨high, ch, rfl, rfl, HHI.out, HC3.out, HB4.out⟩
                  case measure => exact HME.out
end Go.Proofs.Ytnoddkbpdfimmaa
