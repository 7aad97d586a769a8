/- IsKeyword of the reference; of the program in any case. -/
import Derived.Test.YtdkkflmhpncglaaDoorLxk
namespace Go.Proofs.YtdkkflmhpncglaaDoor
open Go.ChangeShapes Go.WideShapes Go.ChangeAt Go.RowKit Go.ChangeMaps

theorem kw_cell {w : World} {g : Nat} (h : Blk w g 9 (KWS.map (fun l => Value.string ⟨l.toArray⟩)).toArray) (k : Nat) (hk : k < KWS.length) : w.cell? ⟨g, k, none⟩ = some (.string ⟨KWS[k].toArray⟩) := by
  rw [h.cell, List.getElem?_toArray, List.getElem?_map, List.getElem?_eq_getElem hk]
  rfl
set_option maxRecDepth 100000 in
set_option maxHeartbeats 2000000 in
theorem rIsKeyword_any (s : ByteArray) (w : World) (hs : s.size ≤ 100000) : Calls Tryd.prog 17 #[.string s] w fun e w' => e = .returned (.bool (kwL ((lst s).map upB))) ∧ Below w.heap.size w w' := by
  have CK := Lib.hid (keywords_any w)
  have CU := Lib.hid (fun W => rupper_any s W hs)
  obtain ⟨r, hr⟩ : ∃ r, kwL ((lst s).map upB) = r := ⟨_, rfl⟩
  rw [hr]
  have HR := Lib.hid hr
  clear hr
  obtain ⟨u, hu⟩ : ∃ u : ByteArray, (⟨((lst s).map upB).toArray⟩ : ByteArray) = u := ⟨_, rfl⟩
  have HU := Lib.hid (show u.toList = (lst s).map upB by rw [tol, ← hu])
  rw [hu] at CU
  clear hu
  go_enter Tryd.func17, Tryd.ntmps17
  go_wp2_with fail
  refine CK.out.mono ?_
  rintro e w1 ⟨rfl, hk, hb⟩
  have HK := Lib.hid hk
  have HB1 := Lib.hid hb
  clear hk hb CK
  go_wp2
  go_loopw [4] (fun s4 wr => ∃ k : Nat, s4 = .int .i64 (k : Int) ∧ k ≤ 47 ∧ (KWS.take k).any (fun x => x == (lst s).map upB) = false ∧ Below w1.heap.size w1 wr) (fun s4 _ => 47 - (intOf s4).toNat)
  case atStart => exact ⟨0, rfl, Nat.zero_le _, by simp, Below.refl _ _⟩
  case round =>
    obtain ⟨k, rfl, hkn, hE, hB⟩ := hrel
    have HE := Lib.hid hE
    have HB := Lib.hid hB
    clear hE hB
    by_cases hlt : k < 47
    · have hki : (k : Int) < 47 := by omega
      have hk0 : (0 : Int) ≤ (k : Int) := by omega
      have hkl : k < KWS.length := by rw [kws_len]; exact hlt
      have cc : wr.cell? ⟨w.heap.size, k, none⟩ = some (.string ⟨KWS[k].toArray⟩) := kw_cell (HK.out.below HB.out) k hkl
      have HTK := Lib.hid (show (KWS.take (k + 1)).any (fun x => x == (lst s).map upB) = ((KWS.take k).any (fun x => x == (lst s).map upB) || (KWS[k] == (lst s).map upB)) by
        rw [List.take_succ_eq_append_getElem hkl, List.any_append]; simp)
      have HMEM := Lib.hid (show (KWS[k] == (lst s).map upB) = true → r = true from fun h => by
        rw [← HR.out]
        exact List.any_eq_true.2 ⟨_, List.getElem_mem hkl, h⟩)
      obtain ⟨q, hq⟩ : ∃ q : ByteArray, (⟨KWS[k].toArray⟩ : ByteArray) = q := ⟨_, rfl⟩
      have HQ := Lib.hid (show q.toList = KWS[k] by rw [tol, ← hq])
      rw [hq] at cc
      have HEQ := Lib.hid (show (q.toList == u.toList) = (KWS[k] == (lst s).map upB) by rw [HQ.out, HU.out])
      clear hq
      generalize KWS[k] = kk at *
      have hy : Below wr.heap.size wr wr.drew := below_drew (Below.refl _ _)
      go_upto_region 5 with fail
      refine wp_region_mix 6 (fun w' => Below wr.heap.size wr w') (by kernel_rfl) (by decide) ?_
      generalize wr.drew = y0 at hy ⊢
      refine wpM_take (i := 0) (oi := ⟨some 12, _, _, _, _, _⟩) (v := ?_) rfl (by decide +kernel) (by decide +kernel) (by decide +kernel) (fun _ _ _ h => h) (Or.inl ⟨by rfl, ?_⟩) hy ?_
      case refine_2 =>
        intro w' hSw
        have cc' := keepcell hSw cc
        go_simp
        try (with_reducible rfl)
      try simp only [Act.put, List.setIfInBounds_toArray, List.set_cons_zero, List.set_cons_succ]
      refine wpM_take (i := 1) (oi := ⟨some 13, _, _, _, _, _⟩) (v := ?_) rfl (by decide +kernel) (by decide +kernel) (by decide +kernel) (fun _ _ _ h => h) (Or.inl ⟨by rfl, ?_⟩) hy ?_
      case refine_2 =>
        intro w' hSw
        have cc' := keepcell hSw cc
        go_simp
        try (with_reducible rfl)
      try simp only [Act.put, List.setIfInBounds_toArray, List.set_cons_zero, List.set_cons_succ]
      refine wpM_take (i := 2) (oi := ⟨some 14, _, _, _, _, _⟩) (v := ?_) rfl (by decide +kernel) (by decide +kernel) (by decide +kernel) (fun _ _ _ h => h) (Or.inl ⟨by rfl, ?_⟩) hy ?_
      case refine_2 =>
        intro w' hSw
        have cc' := keepcell hSw cc
        go_simp
        try (with_reducible rfl)
      try simp only [Act.put, List.setIfInBounds_toArray, List.set_cons_zero, List.set_cons_succ]
      refine wpM_take (i := 3) (oi := ⟨some 15, _, _, _, _, _⟩) (v := ?_) rfl (by decide +kernel) (by decide +kernel) (by decide +kernel) (fun _ _ _ h => h) (Or.inl ⟨by rfl, ?_⟩) hy ?_
      case refine_2 =>
        intro w' hSw
        have cc' := keepcell hSw cc
        go_simp
        try (with_reducible rfl)
      try simp only [Act.put, List.setIfInBounds_toArray, List.set_cons_zero, List.set_cons_succ]
      refine wpM_take (i := 4) (oi := ⟨some 16, _, _, _, _, _⟩) (v := ?_) rfl (by decide +kernel) (by decide +kernel) (by decide +kernel) (fun _ _ _ h => h) (Or.inl ⟨by rfl, ?_⟩) hy ?_
      case refine_2 =>
        intro w' hSw
        have cc' := keepcell hSw cc
        go_simp
        try (with_reducible rfl)
      try simp only [Act.put, List.setIfInBounds_toArray, List.set_cons_zero, List.set_cons_succ]
      refine wpM_step (i := 5) (o := ⟨some 17, _, _, _, _, _⟩) rfl (by decide +kernel) (by decide) (fun K hK => ?_)
      go_simp
      refine (CU.out y0).mono ?_
      rintro e y1 ⟨rfl, hb⟩
      have hy1 : Below wr.heap.size wr y1 := hy.trans (hb.mono hy.size)
      refine hK.out _ _ hy1 ?_
      clear hK K hb
      try simp only [Act.put, List.setIfInBounds_toArray, List.set_cons_zero, List.set_cons_succ]
      refine wpM_done (by decide +kernel) ?_
      simp only [List.drop_succ_cons, List.drop_zero]
      have HBY := Lib.hid (HB.out.trans (hy1.mono HB.out.size))
      have HBW := Lib.hid (HB1.out.trans (HBY.out.mono HB1.out.size))
      cases t0 : (q.toList == u.toList)
      · have HQ2 := Lib.hid (show (KWS.take (k + 1)).any (fun x => x == (lst s).map upB) = false by rw [HTK.out, HE.out, ← HEQ.out, t0]; rfl)
        go_wp2
        go_roundw
        case rel => exact ⟨k + 1, by go_num, hlt, HQ2.out, HBY.out⟩
        case measure => simp only [intOf]; omega
      · have HQ2 := Lib.hid (HMEM.out (by rw [← HEQ.out]; exact t0))
        go_wp2
        go_ret
        exact ⟨by rw [HQ2.out]; rfl, HBW.out⟩
    · obtain rfl : k = 47 := by omega
      have HF := Lib.hid (show r = false by
        have h := HE.out
        rw [List.take_of_length_le (by rw [kws_len]; exact Nat.le_refl _)] at h
        rw [← HR.out]
        exact h)
      have HBW := Lib.hid (HB1.out.trans (HB.out.mono HB1.out.size))
      go_wp2
      go_ret
      exact ⟨by rw [HF.out]; rfl, HBW.out⟩
set_option maxRecDepth 100000 in
set_option maxHeartbeats 2000000 in
theorem lIsKeyword_any (s : ByteArray) (w : World) (hs : s.size ≤ 100000) (hE : LEnv w) : Calls Tryd.prog 16 #[.string s] w fun e w' => e = .returned (.bool (kwL (Lib.mapD upF (lst s)))) ∧ Below w.heap.size w w' := by
  have CU := Lib.hid (Upper_any s w hs hE)
  obtain ⟨u, hu⟩ : ∃ u : ByteArray, (⟨(Lib.mapD upF (lst s)).toArray⟩ : ByteArray) = u := ⟨_, rfl⟩
  have HU := Lib.hid (show lst u = Lib.mapD upF (lst s) by rw [← hu])
  rw [hu] at CU
  rw [← HU.out]
  have CI := Lib.hid (fun W => isKeyword_any u W)
  generalize kwL (lst u) = r at *
  clear hu
  go_enter Tryd.func16, Tryd.ntmps16
  go_wp2_with fail
  refine CU.out.mono ?_
  rintro e w1 ⟨rfl, hb⟩
  have HB := Lib.hid hb
  clear hb CU
  go_wp2_with fail
  refine (CI.out _).mono ?_
  rintro e w2 ⟨rfl, hw⟩
  replace hw := hw.symm
  subst hw
  go_wp2
  go_ret
  exact ⟨rfl, HB.out⟩
end Go.Proofs.YtdkkflmhpncglaaDoor
