/- A session and its reference agree. -/
import Derived.Test.YtgcjbpiofcggcaaRnx
namespace Go.Proofs.Ytgcjbpiofcggcaa
open Go.ChangeShapes Go.WideShapes Go.ChangeAt Go.RowKit Go.ChangeMaps

set_option maxRecDepth 100000 in
set_option maxHeartbeats 4000000 in
theorem agree_yes (w : World) (B M p num : Nat) (K : List Int) (cur ex : Nat) (h : Ses w B M p num K cur ex) (A : Option Addr) (n c : Nat) (hr : At w A n 1 (ic .i64 K)) (hn : n ≤ 300000000000) (hc : cur ≤ 300000000000 ∧ ex ≤ 300000000000) (hc2 : cur ≤ (splitM K).length) (hok : (nx K cur ex).2 = true) :
    Calls Try.prog 15 #[.pointer (some ⟨p, 0, none⟩), .agg #[.int .i64 (num : Int), .slice A n c, .int .i64 (cur : Int), .int .i64 (ex : Int)]] w fun e w' => e = .returned (.bool true) ∧ Below w.heap.size w w' := by
  have HC2 := Lib.hid hc2
  clear hc2
  have HR := Lib.hid hr
  have HS := Lib.hid h
  have HL := Lib.hid hr.int
  have HC := Lib.hid hc
  have HO := Lib.hid hok
  have hnum : num < 8 := by obtain ⟨_, _, _, _, _, _, _, _, _, _, _, _, _, _, hm, _⟩ := h.parts; exact hm
  obtain ⟨i, ok, hnx⟩ : ∃ i ok, nx K cur ex = (i, ok) := ⟨_, _, rfl⟩
  rw [hnx] at hok
  simp only at hok
  subst hok
  have HN := Lib.hid hnx
  clear hr h hc hnx
  go_enter Try.func15, Try.ntmps15
  go_wp2_with fail
  have HW := Lib.hid ((Below.refl _ w).alloc (Nat.le_refl _) (.cells #[.int .i64 (num : Int), .slice A n c, .int .i64 (cur : Int), .int .i64 (ex : Int)] 36))
  have KA := Lib.hid (Blk.new w 36 #[.int .i64 (num : Int), .slice A n c, .int .i64 (cur : Int), .int .i64 (ex : Int)])
  replace HR := Lib.hid (HR.out.alloc (.cells #[.int .i64 (num : Int), .slice A n c, .int .i64 (cur : Int), .int .i64 (ex : Int)] 36))
  replace HS := Lib.hid (HS.out.below ((Below.refl _ w).alloc (Nat.le_refl _) (.cells #[.int .i64 (num : Int), .slice A n c, .int .i64 (cur : Int), .int .i64 (ex : Int)] 36)))
  refine (next_at _ _ _ _ _ _ _ _ HS.out _ i true HN.out rfl).mono ?_
  rintro e w1 ⟨rfl, hb⟩
  replace HW := Lib.hid (HW.out.trans (hb.mono HW.out.size))
  replace HS := Lib.hid (HS.out.below hb)
  replace HR := Lib.hid (HR.out.below hb)
  replace KA := Lib.hid (KA.out.below hb)
  have a0 : w1.cell? ⟨w.heap.size, 0, none⟩ = some (.int .i64 (num : Int)) := KA.out.cell 0
  have a1 : w1.cell? ⟨w.heap.size, 1, none⟩ = some (.slice A n c) := KA.out.cell 1
  have a2 : w1.cell? ⟨w.heap.size, 2, none⟩ = some (.int .i64 (cur : Int)) := KA.out.cell 2
  have a3 : w1.cell? ⟨w.heap.size, 3, none⟩ = some (.int .i64 (ex : Int)) := KA.out.cell 3
  clear hb
  go_wp2_with fail
  refine (RNext_any A n c K _ HR.out hn num cur ex HC.out.1 HC.out.2 i true HN.out).mono ?_
  rintro e w2 ⟨rfl, hb⟩
  replace HW := Lib.hid (HW.out.trans (hb.mono HW.out.size))
  replace HS := Lib.hid (HS.out.below hb)
  replace HR := Lib.hid (HR.out.below hb)
  replace KA := Lib.hid (KA.out.below hb)
  clear a0 a1 a2 a3 hb
  go_wp2_with fail
  refine (stm_yes _ _ _ _ _ _ _ _ HS.out i HN.out).mono ?_
  rintro e v1 ⟨cs, rfl, hcz, hca, hc20, hc0, hb⟩
  replace HW := Lib.hid (HW.out.trans (hb.mono HW.out.size))
  replace HS := Lib.hid (HS.out.below hb)
  replace HR := Lib.hid (HR.out.below hb)
  replace KA := Lib.hid (KA.out.below hb)
  have hcz := Lib.hid hcz
  have hca := Lib.hid hca
  have hc20 := Lib.hid hc20
  have hc0 := Lib.hid hc0
  clear hb
  go_wp2_with (refine wpList_store_new (op := ⟨none, _, _, _, _, _⟩) rfl 56 _ _ rfl v1 _ cs rfl rfl (by rw [hcz.out]; exact size56) (by rw [hcz.out]; rfl) hca.out ?_)
  have b20 : (v1.alloc (.cells cs 56)).cell? ⟨v1.heap.size, 20, none⟩ = _ := newcell 20 _ rfl hc20.out
  have b0 : (v1.alloc (.cells cs 56)).cell? ⟨v1.heap.size, 0, none⟩ = _ := newcell 0 _ rfl hc0.out
  replace HW := Lib.hid (HW.out.alloc HW.out.size (.cells cs 56))
  replace HS := Lib.hid (HS.out.below ((Below.refl _ v1).alloc (Nat.le_refl _) (.cells cs 56)))
  replace HR := Lib.hid (HR.out.alloc (.cells cs 56))
  replace KA := Lib.hid (KA.out.alloc (.cells cs 56))
  have hv : v1.heap.size < (v1.alloc (.cells cs 56)).heap.size := by simp
  generalize v1.alloc (.cells cs 56) = v2 at *
  generalize v1.heap.size = g at *
  have a1 : v2.cell? ⟨w.heap.size, 1, none⟩ = some (.slice A n c) := KA.out.cell 1
  have hi := nx_lt HN.out
  have hin : i < n := by rw [← HL.out]; exact hi.1
  obtain ⟨bk, off, rfl, hbl, hcc⟩ := HR.out.2 (by omega)
  have kc : v2.cell? ⟨bk, off + i, none⟩ = some (.int .i64 (K.getD i 0)) := hcc i _ (ic_get _ _ _ (by rw [HL.out]; exact hin))
  have hin2 : (i : Int) < n := by omega
  clear hcc hi
  have kc := fun d os => cell_regrown kc d os
  generalize K.getD i 0 = ki at *
  have b20 := fun d os => cell_regrown b20 d os
  have b0 := fun d os => cell_regrown b0 d os
  have a1 := fun d os => cell_regrown a1 d os
  go_wp2_with fail
  refine wp_region_quiet_below (by kernel_rfl) (by kernel_rfl) ?_
  repeat (go_big_quiet_step (fail))
  refine wpQuiet_nil ?_
  intro _ hw'
  obtain ⟨⟨dq, osq⟩, hw''⟩ := hw'
  subst hw''
  have hb := below_regrown v2 dq osq
  replace HW := Lib.hid (HW.out.trans (hb.mono HW.out.size))
  replace HS := Lib.hid (HS.out.below hb)
  replace HR := Lib.hid (HR.out.below hb)
  replace KA := Lib.hid (KA.out.below hb)
  clear hb b20 b0 a1
  generalize Go.Sort.grow (redrawn v2 dq) osq = v3 at *
  clear hv
  obtain ⟨b, hbb⟩ : ∃ b, decide ((splitM K).length ≤ cur) = b := ⟨_, rfl⟩
  have hD : decide (cur = (splitM K).length) = b := by rw [← hbb, Bool.eq_iff_iff]; have := HC2.out; simp; omega
  have CA := Lib.hid (fun (x : World) (hx : Below v3.heap.size v3 x) => done_at x _ _ _ _ _ _ _ (HS.out.below hx) b hD)
  have CB := Lib.hid (fun (x : World) (hx : Below v3.heap.size v3 x) => RDone_any (some ⟨bk, off, none⟩) n c K x (HR.out.below hx) hn num cur ex HC.out.1 b hbb)
  have CC := Lib.hid (fun (x : World) (hx : Below v3.heap.size v3 x) => Transaction_any x _ _ _ _ _ _ _ (HS.out.below hx))
  have CD := Lib.hid (fun (x : World) => RTrans_any (some ⟨bk, off, none⟩) n c x num cur ex HC.out.1 hnum)
  clear hD hbb
  have a0 : v3.cell? ⟨w.heap.size, 0, none⟩ = some (.int .i64 (num : Int)) := KA.out.cell 0
  have a1 : v3.cell? ⟨w.heap.size, 1, none⟩ = some (.slice (some ⟨bk, off, none⟩) n c) := KA.out.cell 1
  have a2 : v3.cell? ⟨w.heap.size, 2, none⟩ = some (.int .i64 (cur : Int)) := KA.out.cell 2
  have a3 : v3.cell? ⟨w.heap.size, 3, none⟩ = some (.int .i64 (ex : Int)) := KA.out.cell 3
  have a0 := fun d os => cell_regrown a0 d os
  have a1 := fun d os => cell_regrown a1 d os
  have a2 := fun d os => cell_regrown a2 d os
  have a3 := fun d os => cell_regrown a3 d os
  go_wp2_with fail
  refine wp_region_quiet_below (by kernel_rfl) (by kernel_rfl) ?_
  repeat (go_big_quiet_step ((first | (go_at_call 20; exact Calls.regrown_of (CA.out _ (below_regrown _ _ _))) | (go_at_call 28; exact Calls.regrown_of (CB.out _ (below_regrown _ _ _))) | (go_at_call 23; exact Calls.regrown_of (CC.out _ (below_regrown _ _ _))) | (go_at_call 29; exact Calls.regrown_of (CD.out _)))))
  refine wpQuiet_nil ?_
  intro _ hw'
  obtain ⟨⟨dq, osq⟩, hw''⟩ := hw'
  subst hw''
  have HZ := Lib.hid (below_regrown v3 dq osq)
  go_wp2
  go_ret
  exact ⟨rfl, more_below HW.out HZ.out⟩

set_option maxRecDepth 100000 in
set_option maxHeartbeats 4000000 in
theorem agree_no (w : World) (B M p num : Nat) (K : List Int) (cur ex : Nat) (h : Ses w B M p num K cur ex) (A : Option Addr) (n c : Nat) (hr : At w A n 1 (ic .i64 K)) (hn : n ≤ 300000000000) (hc : cur ≤ 300000000000 ∧ ex ≤ 300000000000) (hc2 : cur ≤ (splitM K).length) (hok : (nx K cur ex).2 = false) :
    Calls Try.prog 15 #[.pointer (some ⟨p, 0, none⟩), .agg #[.int .i64 (num : Int), .slice A n c, .int .i64 (cur : Int), .int .i64 (ex : Int)]] w fun e w' => e = .returned (.bool true) ∧ Below w.heap.size w w' := by
  have HC2 := Lib.hid hc2
  clear hc2
  have HR := Lib.hid hr
  have HS := Lib.hid h
  have HL := Lib.hid hr.int
  have HC := Lib.hid hc
  have HO := Lib.hid hok
  have hnum : num < 8 := by obtain ⟨_, _, _, _, _, _, _, _, _, _, _, _, _, _, hm, _⟩ := h.parts; exact hm
  obtain ⟨i, ok, hnx⟩ : ∃ i ok, nx K cur ex = (i, ok) := ⟨_, _, rfl⟩
  rw [hnx] at hok
  simp only at hok
  subst hok
  have HN := Lib.hid hnx
  clear hr h hc hnx
  go_enter Try.func15, Try.ntmps15
  go_wp2_with fail
  have HW := Lib.hid ((Below.refl _ w).alloc (Nat.le_refl _) (.cells #[.int .i64 (num : Int), .slice A n c, .int .i64 (cur : Int), .int .i64 (ex : Int)] 36))
  have KA := Lib.hid (Blk.new w 36 #[.int .i64 (num : Int), .slice A n c, .int .i64 (cur : Int), .int .i64 (ex : Int)])
  replace HR := Lib.hid (HR.out.alloc (.cells #[.int .i64 (num : Int), .slice A n c, .int .i64 (cur : Int), .int .i64 (ex : Int)] 36))
  replace HS := Lib.hid (HS.out.below ((Below.refl _ w).alloc (Nat.le_refl _) (.cells #[.int .i64 (num : Int), .slice A n c, .int .i64 (cur : Int), .int .i64 (ex : Int)] 36)))
  refine (next_at _ _ _ _ _ _ _ _ HS.out _ i false HN.out rfl).mono ?_
  rintro e w1 ⟨rfl, hb⟩
  replace HW := Lib.hid (HW.out.trans (hb.mono HW.out.size))
  replace HS := Lib.hid (HS.out.below hb)
  replace HR := Lib.hid (HR.out.below hb)
  replace KA := Lib.hid (KA.out.below hb)
  have a0 : w1.cell? ⟨w.heap.size, 0, none⟩ = some (.int .i64 (num : Int)) := KA.out.cell 0
  have a1 : w1.cell? ⟨w.heap.size, 1, none⟩ = some (.slice A n c) := KA.out.cell 1
  have a2 : w1.cell? ⟨w.heap.size, 2, none⟩ = some (.int .i64 (cur : Int)) := KA.out.cell 2
  have a3 : w1.cell? ⟨w.heap.size, 3, none⟩ = some (.int .i64 (ex : Int)) := KA.out.cell 3
  clear hb
  go_wp2_with fail
  refine (RNext_any A n c K _ HR.out hn num cur ex HC.out.1 HC.out.2 i false HN.out).mono ?_
  rintro e w2 ⟨rfl, hb⟩
  replace HW := Lib.hid (HW.out.trans (hb.mono HW.out.size))
  replace HS := Lib.hid (HS.out.below hb)
  replace HR := Lib.hid (HR.out.below hb)
  replace KA := Lib.hid (KA.out.below hb)
  clear a0 a1 a2 a3 hb
  go_wp2_with fail
  refine (stm_no _ _ _ _ _ _ _ _ HS.out (by rw [HN.out])).mono ?_
  rintro e v1 ⟨cs, rfl, hcz, hca, hc20, hc0, hb⟩
  replace HW := Lib.hid (HW.out.trans (hb.mono HW.out.size))
  replace HS := Lib.hid (HS.out.below hb)
  replace HR := Lib.hid (HR.out.below hb)
  replace KA := Lib.hid (KA.out.below hb)
  have hcz := Lib.hid hcz
  have hca := Lib.hid hca
  have hc20 := Lib.hid hc20
  have hc0 := Lib.hid hc0
  clear hb
  go_wp2_with (refine wpList_store_new (op := ⟨none, _, _, _, _, _⟩) rfl 56 _ _ rfl v1 _ cs rfl rfl (by rw [hcz.out]; exact size56) (by rw [hcz.out]; rfl) hca.out ?_)
  have b20 : (v1.alloc (.cells cs 56)).cell? ⟨v1.heap.size, 20, none⟩ = _ := newcell 20 _ rfl hc20.out
  have b0 : (v1.alloc (.cells cs 56)).cell? ⟨v1.heap.size, 0, none⟩ = _ := newcell 0 _ rfl hc0.out
  replace HW := Lib.hid (HW.out.alloc HW.out.size (.cells cs 56))
  replace HS := Lib.hid (HS.out.below ((Below.refl _ v1).alloc (Nat.le_refl _) (.cells cs 56)))
  replace HR := Lib.hid (HR.out.alloc (.cells cs 56))
  replace KA := Lib.hid (KA.out.alloc (.cells cs 56))
  have hv : v1.heap.size < (v1.alloc (.cells cs 56)).heap.size := by simp
  generalize v1.alloc (.cells cs 56) = v2 at *
  generalize v1.heap.size = g at *
  have a1 : v2.cell? ⟨w.heap.size, 1, none⟩ = some (.slice A n c) := KA.out.cell 1
  have b20 := fun d os => cell_regrown b20 d os
  have b0 := fun d os => cell_regrown b0 d os
  have a1 := fun d os => cell_regrown a1 d os
  go_wp2_with fail
  refine wp_region_quiet_below (by kernel_rfl) (by kernel_rfl) ?_
  repeat (go_big_quiet_step (fail))
  refine wpQuiet_nil ?_
  intro _ hw'
  obtain ⟨⟨dq, osq⟩, hw''⟩ := hw'
  subst hw''
  have hb := below_regrown v2 dq osq
  replace HW := Lib.hid (HW.out.trans (hb.mono HW.out.size))
  replace HS := Lib.hid (HS.out.below hb)
  replace HR := Lib.hid (HR.out.below hb)
  replace KA := Lib.hid (KA.out.below hb)
  clear hb b20 b0 a1
  generalize Go.Sort.grow (redrawn v2 dq) osq = v3 at *
  clear hv
  obtain ⟨b, hbb⟩ : ∃ b, decide ((splitM K).length ≤ cur) = b := ⟨_, rfl⟩
  have hD : decide (cur = (splitM K).length) = b := by rw [← hbb, Bool.eq_iff_iff]; have := HC2.out; simp; omega
  have CA := Lib.hid (fun (x : World) (hx : Below v3.heap.size v3 x) => done_at x _ _ _ _ _ _ _ (HS.out.below hx) b hD)
  have CB := Lib.hid (fun (x : World) (hx : Below v3.heap.size v3 x) => RDone_any A n c K x (HR.out.below hx) hn num cur ex HC.out.1 b hbb)
  have CC := Lib.hid (fun (x : World) (hx : Below v3.heap.size v3 x) => Transaction_any x _ _ _ _ _ _ _ (HS.out.below hx))
  have CD := Lib.hid (fun (x : World) => RTrans_any A n c x num cur ex HC.out.1 hnum)
  clear hD hbb
  have a0 : v3.cell? ⟨w.heap.size, 0, none⟩ = some (.int .i64 (num : Int)) := KA.out.cell 0
  have a1 : v3.cell? ⟨w.heap.size, 1, none⟩ = some (.slice A n c) := KA.out.cell 1
  have a2 : v3.cell? ⟨w.heap.size, 2, none⟩ = some (.int .i64 (cur : Int)) := KA.out.cell 2
  have a3 : v3.cell? ⟨w.heap.size, 3, none⟩ = some (.int .i64 (ex : Int)) := KA.out.cell 3
  have a0 := fun d os => cell_regrown a0 d os
  have a1 := fun d os => cell_regrown a1 d os
  have a2 := fun d os => cell_regrown a2 d os
  have a3 := fun d os => cell_regrown a3 d os
  go_wp2_with fail
  refine wp_region_quiet_below (by kernel_rfl) (by kernel_rfl) ?_
  repeat (go_big_quiet_step ((first | (go_at_call 20; exact Calls.regrown_of (CA.out _ (below_regrown _ _ _))) | (go_at_call 28; exact Calls.regrown_of (CB.out _ (below_regrown _ _ _))) | (go_at_call 23; exact Calls.regrown_of (CC.out _ (below_regrown _ _ _))) | (go_at_call 29; exact Calls.regrown_of (CD.out _)))))
  refine wpQuiet_nil ?_
  intro _ hw'
  obtain ⟨⟨dq, osq⟩, hw''⟩ := hw'
  subst hw''
  have HZ := Lib.hid (below_regrown v3 dq osq)
  go_wp2
  go_ret
  exact ⟨rfl, more_below HW.out HZ.out⟩

theorem agree_any (w : World) (B M p num : Nat) (K : List Int) (cur ex : Nat) (h : Ses w B M p num K cur ex) (A : Option Addr) (n c : Nat) (hr : At w A n 1 (ic .i64 K)) (hn : n ≤ 300000000000) :
    Calls Try.prog 15 #[.pointer (some ⟨p, 0, none⟩), .agg #[.int .i64 (num : Int), .slice A n c, .int .i64 (cur : Int), .int .i64 (ex : Int)]] w fun e w' => e = .returned (.bool true) ∧ Below w.heap.size w w' := by
  obtain ⟨_, _, _, _, _, _, _, _, _, _, _, h1, h2, h3, h4, h5⟩ := h.parts
  rcases hok : (nx K cur ex).2 with _ | _
  · exact agree_no w B M p num K cur ex h A n c hr hn ⟨by omega, by omega⟩ h1 hok
  · exact agree_yes w B M p num K cur ex h A n c hr hn ⟨by omega, by omega⟩ h1 hok
end Go.Proofs.Ytgcjbpiofcggcaa
