/- The next statement. -/
import Derived.Test.YtgcjbpiofcggcaaDon
import Derived.Test.YtgcjbpiofcggcaaKep
namespace Go.Proofs.Ytgcjbpiofcggcaa
open Go.ChangeShapes Go.WideShapes Go.ChangeAt Go.RowKit Go.ChangeMaps

theorem fs_facts {K : List Int} {cur : Nat} (h : cur < (splitM K).length) : (splitM K)[cur]? = some (fs K cur, endM K (fs K cur)) ∧ fs K cur ≤ endM K (fs K cur) ∧ endM K (fs K cur) < K.length := by
  have h1 := (splitM_chain K).2 cur h
  have h2 := endM_bd K _ h1.2.1
  have e := h1.1
  rw [List.getD_eq_getElem?_getD, List.getElem?_eq_getElem h, Option.getD_some] at e
  exact ⟨by rw [List.getElem?_eq_getElem h, e]; rfl, h2⟩
set_option maxRecDepth 100000 in
set_option maxHeartbeats 2000000 in
theorem Next_in (w : World) (B M p num : Nat) (K : List Int) (cur ex : Nat) (h : Ses w B M p num K cur ex) (hlt : cur < (splitM K).length) :
    Calls Try.prog 22 #[.pointer (some ⟨p, 0, none⟩)] w fun e w' => e = .returned (.tuple #[.int .i64 ((nx K cur ex).1 : Nat), .bool (nx K cur ex).2]) ∧ Below w.heap.size w w' := by
  have CD := Lib.hid (Done_any w B M p num K cur ex h)
  have HS := Lib.hid h
  obtain ⟨_, _, _, _, _, _, _, _, _, _, _, hc, hx, hn, hm, hl⟩ := h.parts
  clear h
  obtain ⟨hT, hle, hlen⟩ := fs_facts hlt
  have e1 : decide (cur = (splitM K).length) = false := by simp; omega
  rw [e1] at CD
  have HX : Hid (nx K cur ex = if fs K cur + ex ≤ endM K (fs K cur) then (fs K cur + ex, true) else (endM K (fs K cur), false)) := Lib.hid (by unfold nx; rw [if_pos hlt])
  have HG : Hid ((splitM K).length ≤ K.length) := Lib.hid hl
  clear e1 hl
  go_enter Try.func22, Try.ntmps22
  go_upto_region 3 with (go_at_call 20; ((with_reducible refine CD.out.mono ?_); rintro e w2 ⟨rfl, hb2⟩))
  have HB2 := Lib.hid hb2
  obtain ⟨A, a, D, d, hA, hD, c0, c1, c2, c3, c4, _⟩ := (HS.out.below hb2).parts
  clear hA hb2
  obtain ⟨b, off, rfl, hb, hcc⟩ := hD.2 (by omega)
  have z0 := hcc _ _ (pC_get0 (splitM K) cur hlt)
  have z1 := hcc _ _ (pC_get1 (splitM K) cur hlt)
  rw [List.getElem?_eq_getElem hlt] at hT
  injection hT with hT
  rw [hT] at z0 z1
  rw [← Nat.add_assoc] at z1
  clear hT hcc hD c0 c1
  generalize (splitM K).length = t at *
  generalize endM K (fs K cur) = el at *
  generalize fs K cur = s at *
  have hcur : (cur : Int) < t := by omega
  have hpl : p < w2.heap.size := block_lt_of_cell c2
  have s0 : w2.cell? ⟨p, 2, none⟩ = some (.slice (some ⟨b, off, none⟩) t d) ∧ w2.cell? ⟨p, 3, none⟩ = some (.int .i64 (cur : Int)) ∧ w2.cell? ⟨p, 4, none⟩ = some (.int .i64 (ex : Int)) ∧ w2.cell? ⟨b, off + cur * 2, none⟩ = some (.int .i64 (s : Int)) ∧ w2.cell? ⟨b, off + cur * 2 + 1, none⟩ = some (.int .i64 (el : Int)) ∧ Below w2.heap.size w2 w2 := ⟨c2, c3, c4, z0, z1, Below.refl _ _⟩
  clear c2 c3 c4 z0 z1
  go_cut [4] (fun s4 wx => ∃ g : Nat, s4 = .pointer (some ⟨g, 0, none⟩) ∧ wx.cell? ⟨g, 0, none⟩ = some (.int .i64 (s : Int)) ∧ wx.cell? ⟨g, 1, none⟩ = some (.int .i64 (el : Int)) ∧ wx.cell? ⟨p, 2, none⟩ = some (.slice (some ⟨b, off, none⟩) t d) ∧ wx.cell? ⟨p, 3, none⟩ = some (.int .i64 (cur : Int)) ∧ wx.cell? ⟨p, 4, none⟩ = some (.int .i64 (ex : Int)) ∧ wx.cell? ⟨b, off + cur * 2, none⟩ = some (.int .i64 (s : Int)) ∧ wx.cell? ⟨b, off + cur * 2 + 1, none⟩ = some (.int .i64 (el : Int)) ∧ Below w2.heap.size w2 wx)
  case first =>
    go_region_held3 (fun w' => w'.cell? ⟨p, 2, none⟩ = some (.slice (some ⟨b, off, none⟩) t d) ∧ w'.cell? ⟨p, 3, none⟩ = some (.int .i64 (cur : Int)) ∧ w'.cell? ⟨p, 4, none⟩ = some (.int .i64 (ex : Int)) ∧ w'.cell? ⟨b, off + cur * 2, none⟩ = some (.int .i64 (s : Int)) ∧ w'.cell? ⟨b, off + cur * 2 + 1, none⟩ = some (.int .i64 (el : Int)) ∧ Below w2.heap.size w2 w') (first | exact s0 | exact keepD s0 | exact keepA s0 | exact keepD (keepA s0) | exact keepA (keepD s0) | exact keepD ‹_› | exact keepA ‹_› | exact keepN ‹_› (by first | omega | (simp; omega)) (by first | omega | (simp; omega)) (by first | omega | (simp)) | go_keep) (fail)
    all_goals (go_wp2_with fail; go_meet)
    all_goals exact ⟨_, rfl, newcell 0 _ rfl rfl, newcell 1 _ rfl rfl, ‹_›⟩
  case rest =>
    obtain ⟨g, rfl, g0, g1, _, _, g4, _, _, hB⟩ := hcut
    have HB := Lib.hid (HB2.out.trans (hB.mono HB2.out.size))
    have g1k := g1
    have g0 := fun d os => cell_regrown g0 d os
    have g1 := fun d os => cell_regrown g1 d os
    have g4 := fun d os => cell_regrown g4 d os
    clear hB s0
    have w1 : IntKind.i64.wrap ((s : Int) + (ex : Int)) = ((s + ex : Nat) : Int) := by rw [IntWalk.i64_in _ (by omega)]; simp
    go_wp2
    refine wp_region_quiet_below (by kernel_rfl) (by kernel_rfl) ?_
    repeat (go_big_quiet_step (fail))
    refine wpQuiet_nil ?_
    intro _ hw'
    obtain ⟨⟨dq, osq⟩, hw''⟩ := hw'
    subst hw''
    by_cases hse : s + ex ≤ el
    · have HY := Lib.hid (HX.out.trans (if_pos hse))
      go_wp2
      go_ret2
      exact ⟨by rw [HY.out]; simp, more_below HB.out (below_regrown _ dq osq)⟩
    · have HY := Lib.hid (HX.out.trans (if_neg hse))
      go_wp2
      go_ret2
      exact ⟨by rw [HY.out]; rfl, more_below HB.out (below_regrown _ dq osq)⟩
set_option maxRecDepth 100000 in
theorem Next_any (w : World) (B M p num : Nat) (K : List Int) (cur ex : Nat) (h : Ses w B M p num K cur ex) :
    Calls Try.prog 22 #[.pointer (some ⟨p, 0, none⟩)] w fun e w' => e = .returned (.tuple #[.int .i64 ((nx K cur ex).1 : Nat), .bool (nx K cur ex).2]) ∧ Below w.heap.size w w' := by
  have CD := Lib.hid (Done_any w B M p num K cur ex h)
  by_cases hlt : cur < (splitM K).length
  · exact Next_in w B M p num K cur ex h hlt
  · have hle : cur ≤ (splitM K).length := by obtain ⟨_, _, _, _, _, _, _, _, _, _, _, hc, _⟩ := h.parts; exact hc
    have e1 : decide (cur = (splitM K).length) = true := by simp; omega
    rw [e1] at CD
    have e2 : Hid (nx K cur ex = (0, false)) := Lib.hid (by unfold nx; rw [if_neg hlt])
    clear e1 hlt hle h
    go_enter Try.func22, Try.ntmps22
    go_wp2_with (go_at_call 20; ((with_reducible refine CD.out.mono ?_); rintro e w2 ⟨rfl, hb2⟩))
    go_ret2
    exact ⟨by rw [e2.out]; rfl, hb2⟩
end Go.Proofs.Ytgcjbpiofcggcaa
