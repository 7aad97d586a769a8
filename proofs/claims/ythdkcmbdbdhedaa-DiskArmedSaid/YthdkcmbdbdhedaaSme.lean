/- A disk and its reference are in the same state. -/
import Derived.Test.YthdkcmbdbdhedaaRun
namespace Go.Proofs.Ythdkcmbdbdhedaa
open Go.ChangeShapes Go.WideShapes Go.ChangeAt Go.RowKit Go.ChangeMaps

set_option maxRecDepth 100000 in
set_option maxHeartbeats 2000000 in
theorem same_any (w : World) (p q r t : Nat) (s : St) (h : DM w p q r t s) :
    Calls Try.prog 12 #[.pointer (some ⟨p, 0, none⟩), .pointer (some ⟨r, 0, none⟩)] w fun e w' => e = .returned (.bool true) ∧ DM w' p q r t s.Re ∧ Chg (F4 p q r t) w w' := by
  have HM := Lib.hid h
  have HN := Lib.hid h.ne
  have hn : s.R.length ≤ 65536 := h.d.2.2.2.2.2.1
  have C1 := Lib.hid (fun W (hW : Below w.heap.size w W) => Failed_any W p q s (h.d.below hW))
  have C2 := Lib.hid (fun W (hW : Below w.heap.size w W) => Writes_any W p q s (h.d.below hW))
  have C3 := Lib.hid (fun W (hW : Below w.heap.size w W) => Sectors_any W p q s (h.d.below hW))
  obtain ⟨cap, hcap, c0, c1, c2, c3, c4, fz⟩ := h.rk.cells
  have c0 := fun d os => cell_regrown c0 d os
  have c1 := fun d os => cell_regrown c1 d os
  have c4 := fun d os => cell_regrown c4 d os
  clear h fz c2 c3
  obtain ⟨n, hnn⟩ : ∃ n, s.R.length = n := ⟨_, rfl⟩
  rw [hnn] at C3 c0 hn hcap
  have HNN := Lib.hid hnn
  clear hnn
  go_enter Try.func12, Try.ntmps12
  go_wp2_with fail
  refine wp_region_quiet_below (by kernel_rfl) (by kernel_rfl) ?_
  repeat (go_big_quiet_step ((first | (go_at_call 15; exact Calls.regrown_of (pure_below (C1.out _ (below_regrown _ _ _)))) | (go_at_call 16; exact Calls.regrown_of (pure_below (C2.out _ (below_regrown _ _ _)))) | (go_at_call 14; exact Calls.regrown_of (pure_below (C3.out _ (below_regrown _ _ _)))))))
  refine wpQuiet_nil ?_
  intro _ hw'
  obtain ⟨⟨dq, osq⟩, hw''⟩ := hw'
  subst hw''
  have hb := below_regrown w dq osq
  replace HM := Lib.hid (HM.out.below hb)
  have HC := Lib.hid (show Chg (F4 p q r t) w (Go.Sort.grow (redrawn w dq) osq) from Chg.of_below hb)
  clear hb c0 c1 c4 C1 C2 C3
  generalize Go.Sort.grow (redrawn w dq) osq = v0 at *
  go_wp2_with fail
  refine (Restart_any v0 p q s HM.out.d).mono ?_
  rintro e v1 ⟨rfl, hd1, hc1⟩
  have HD1 := Lib.hid hd1
  have HR1 := Lib.hid (HM.out.rk.pq HN.out hc1)
  have HC1 := Lib.hid (HC.out.trans (hc1.mono (fun _ => F4_pq)))
  clear hd1 hc1
  go_wp2_with fail
  refine (RRestart_any (F4 p q r t) v1 r t s HR1.out (.inr (.inr (.inl rfl)))).mono ?_
  rintro e v2 ⟨rfl, hr2, hc2⟩
  have HM2 := Lib.hid (show DM v2 p q r t s.Re from ⟨HD1.out.rt HN.out hc2, hr2, HN.out⟩)
  have HC2 := Lib.hid (HC1.out.trans (hc2.mono (fun _ => F4_rt)))
  clear hr2 hc2 HC HC1 HD1 HR1 HM
  obtain ⟨cap2, hcap2, c0, -⟩ := HM2.out.rk.cells
  rw [show s.Re.R.length = n from HNN.out] at c0 hcap2
  go_wp2
  go_loopw [43] (fun i wr => ∃ k : Nat, k ≤ n ∧ i = .int .i64 (k : Int) ∧ DM wr p q r t s.Re ∧ Chg (F4 p q r t) w wr) (fun i _ => n - (intOf i).toNat)
  case atStart => exact ⟨0, Nat.zero_le _, rfl, HM2.out, HC2.out⟩
  case round =>
    clear HM2 HC2 c0
    obtain ⟨k, hk, rfl, hM, hC⟩ := hrel
    have HM := Lib.hid hM
    have HC := Lib.hid hC
    clear hM hC
    by_cases hlt : k < n
    · have hkl : k < s.Re.R.length := by rw [show s.Re.R.length = n from HNN.out]; exact hlt
      have hki : (k : Int) < n := by omega
      have hkk : (0 : Int) ≤ k := by omega
      have CRD := Lib.hid (Read_ok wr p q _ HM.out.d rfl k hkl)
      go_wp2_with fail
      refine CRD.out.mono ?_
      rintro e v5 ⟨g5, rfl, hg5, hk5, hb5⟩
      have HB5 := Lib.hid (bytes_of_blk (n := 64) hk5 (getD_len64 HM.out.d.2.2.2.1 hkl))
      replace HM := Lib.hid (HM.out.below hb5)
      replace HC := Lib.hid (HC.out.trans (Chg.of_below hb5))
      clear hk5 hb5 hg5 CRD
      obtain ⟨cap3, hcap3, d0, -⟩ := HM.out.rk.cells
      obtain ⟨A9, c9, e9, -, -, b9, -⟩ := HM.out.rk.sec k hkl
      have HB9 := Lib.hid b9.at
      rw [show s.Re.R.length = n from HNN.out] at d0 hcap3
      clear b9
      go_wp2_with fail
      refine (Same_any v5 _ _ 64 64 64 c9 _ _ HB5.out HB9.out true (by simp)).mono ?_
      rintro e v6 ⟨rfl, rfl⟩
      go_wp2
      go_roundw
      case rel => exact ⟨k + 1, by omega, by go_num, HM.out, HC.out⟩
      case measure => simp [intOf]; omega
    · obtain rfl : k = n := by omega
      go_wp2
      go_ret
      exact ⟨rfl, HM.out, HC.out⟩
end Go.Proofs.Ythdkcmbdbdhedaa
