/- Meet: the walk. -/
import Derived.Test.YtnoddkbpdfimmaaIvy
import Derived.Test.YtnoddkbpdfimmaaChi
namespace Go.Proofs.Ytnoddkbpdfimmaa
open Go.ChangeShapes Go.WideShapes Go.ChangeAt Go.RowKit Go.ChangeMaps

set_option maxRecDepth 100000 in
set_option maxHeartbeats 2000000 in
theorem Meet_any (A B : Option Addr) (c c2 : Nat) (R T : List Iv) (w : World) (h1 : Ivs w A R.length R) (h2 : Ivs w B T.length T) (hn : R.length + T.length ≤ 100000) (n1 : Nrm R) (n2 : Nrm T) (o1 : ∀ x ∈ R, x.ok) (o2 : ∀ x ∈ T, x.ok) :
    Calls Try.prog 23 #[.slice A R.length c, .slice B T.length c2] w fun e w' => ∃ v, e = .returned v ∧ ∃ S, Cut R T S ∧ (∀ x ∈ S, x.ok) ∧ S.length ≤ R.length + T.length ∧ OR 39 w' w.heap.size v S ∧ Below w.heap.size w w' := by
  obtain ⟨i0, hii, hz0, hz1, hz2⟩ := info_parts Try.info39
  have CE := Lib.hid (fun (x : Iv) W => empty_any x W)
  have HEND := Lib.hid (fun i j S (h : MtI R T i j S) he => mt_end h he)
  have HMI0 := Lib.hid (fun i j S (h : MtI R T i j S) hi hj hl => mt_i h hi hj o1 o2 n1 n2 hl)
  have HMJ0 := Lib.hid (fun i j S (h : MtI R T i j S) hi hj hl => mt_j h hi hj o1 o2 n1 n2 hl)
  obtain ⟨n, hnn⟩ : ∃ n, R.length = n := ⟨_, rfl⟩
  obtain ⟨m, hmm⟩ : ∃ m, T.length = m := ⟨_, rfl⟩
  have HN := Lib.hid hnn
  have HM := Lib.hid hmm
  rw [hnn, hmm] at hn ⊢
  rw [hnn] at h1
  rw [hmm] at h2
  have HA := Lib.hid h1.at
  have HB := Lib.hid h2.at
  clear h1 h2 o1 o2 n1 n2 hnn hmm
  go_enter Try.func23, Try.ntmps23
  go_wp2
  go_loopw [5, 6, 7] (fun s5 s6 s7 wr => ∃ (i j : Nat) (S : List Iv), s6 = .int .i64 (i : Int) ∧ s7 = .int .i64 (j : Int) ∧ i ≤ n ∧ j ≤ m ∧ OR 39 wr w.heap.size s5 S ∧ MtI R T i j S ∧ Below w.heap.size w wr) (fun _ s6 s7 _ => n + m - ((intOf s6).toNat + (intOf s7).toNat))
  case atStart => exact ⟨0, 0, [], rfl, rfl, Nat.zero_le _, Nat.zero_le _, World.ownsRow_nil _ _ _ _, mt_start R T, Below.refl _ _⟩
  case round =>
    obtain ⟨i, j, S, rfl, rfl, hin, hjm, hO, hI, hBw⟩ := hrel
    have HO := Lib.hid hO
    have HI := Lib.hid hI
    have HBW := Lib.hid hBw
    obtain ⟨A5, c5, rfl, -, hcc, -⟩ := hO.ivs
    obtain ⟨q, hq⟩ : ∃ q, S.length = q := ⟨_, rfl⟩
    have hqb : q ≤ i + j := by rw [← hq]; exact hI.2.2.1
    have HQ0 := Lib.hid hq
    rw [hq] at HO ⊢
    clear hO hI hBw hq hcc
    by_cases hi : i < n
    · by_cases hj : j < m
      · have hki : (i : Int) < n := by omega
        have hk0 : (0 : Int) ≤ (i : Int) := by omega
        have hkj : (j : Int) < m := by omega
        have hj0 : (0 : Int) ≤ (j : Int) := by omega
        obtain ⟨b, off, rfl, hbl, hc⟩ := HA.out (by omega)
        obtain ⟨b2, off2, rfl, hbl2, hc2⟩ := HB.out (by omega)
        have hi' : i < R.length := by rw [HN.out]; exact hi
        have hj' : j < T.length := by rw [HM.out]; exact hj
        have HC1 := Lib.hid (fun W hW => hc W hW i hi')
        have HC2 := Lib.hid (fun W hW => hc2 W hW j hj')
        have hbl' : b < wr.heap.size := Nat.lt_of_lt_of_le hbl HBW.out.size
        have hbl2' : b2 < wr.heap.size := Nat.lt_of_lt_of_le hbl2 HBW.out.size
        have HMI := Lib.hid (HMI0.out i j S HI.out hi' hj')
        have HMJ := Lib.hid (HMJ0.out i j S HI.out hi' hj')
        clear hc hc2 hbl hbl2
        generalize R[i] = x at *
        generalize T[j] = y at *
        obtain ⟨x0, x1⟩ := x
        obtain ⟨y0, y1⟩ := y
        obtain ⟨lo, hlo⟩ : ∃ z, (if x0 < y0 then y0 else x0) = z := ⟨_, rfl⟩
        obtain ⟨hh, hhi⟩ : ∃ z, (if y1 < x1 then y1 else x1) = z := ⟨_, rfl⟩
        have hlo2 : max x0 y0 = lo := by rw [← hlo, Int.max_def]; split <;> split <;> omega
        have hhi2 : min x1 y1 = hh := by rw [← hhi, Int.min_def]; split <;> split <;> omega
        have HCT := Lib.hid (show cutI ⟨x0, x1⟩ ⟨y0, y1⟩ = ⟨lo, hh⟩ by unfold cutI; simp only [hlo, hhi])
        rw [HCT.out] at HMI HMJ
        obtain ⟨c0, c1⟩ := HC1.out wr HBW.out
        obtain ⟨d0, d1⟩ := HC2.out wr HBW.out
        try simp only at c0 c1 d0 d1
        go_upto_region 4 with fail
        have hy : Below wr.heap.size wr wr.drew := below_drew (Below.refl _ _)
        refine wp_region_mix 24 (fun w' => Below wr.heap.size wr w') (by kernel_rfl) (by decide) ?_
        generalize hy0e : wr.drew = y0 at hy ⊢
        refine wpM_take (i := 0) (oi := ⟨some 19, _, _, _, _, _⟩) (v := ?_) rfl (by decide +kernel) (by decide +kernel) (by decide +kernel) (fun _ _ _ h => h) (Or.inl ⟨by rfl, ?_⟩) hy ?_
        case refine_2 =>
          intro w' hSw
          have c0' := keepcell hSw c0
          have c1' := keepcell hSw c1
          have d0' := keepcell hSw d0
          have d1' := keepcell hSw d1
          go_simp
          try (with_reducible rfl)
        try simp only [Act.put, List.setIfInBounds_toArray, List.set_cons_zero, List.set_cons_succ]
        refine wpM_take (i := 1) (oi := ⟨some 20, _, _, _, _, _⟩) (v := ?_) rfl (by decide +kernel) (by decide +kernel) (by decide +kernel) (fun _ _ _ h => h) (Or.inl ⟨by rfl, ?_⟩) hy ?_
        case refine_2 =>
          intro w' hSw
          have c0' := keepcell hSw c0
          have c1' := keepcell hSw c1
          have d0' := keepcell hSw d0
          have d1' := keepcell hSw d1
          go_simp
          try (with_reducible rfl)
        try simp only [Act.put, List.setIfInBounds_toArray, List.set_cons_zero, List.set_cons_succ]
        refine wpM_take (i := 2) (oi := ⟨some 21, _, _, _, _, _⟩) (v := ?_) rfl (by decide +kernel) (by decide +kernel) (by decide +kernel) (fun _ _ _ h => h) (Or.inl ⟨by rfl, ?_⟩) hy ?_
        case refine_2 =>
          intro w' hSw
          have c0' := keepcell hSw c0
          have c1' := keepcell hSw c1
          have d0' := keepcell hSw d0
          have d1' := keepcell hSw d1
          go_simp
          try (with_reducible rfl)
        try simp only [Act.put, List.setIfInBounds_toArray, List.set_cons_zero, List.set_cons_succ]
        refine wpM_take (i := 3) (oi := ⟨some 22, _, _, _, _, _⟩) (v := ?_) rfl (by decide +kernel) (by decide +kernel) (by decide +kernel) (fun _ _ _ h => h) (Or.inl ⟨by rfl, ?_⟩) hy ?_
        case refine_2 =>
          intro w' hSw
          have c0' := keepcell hSw c0
          have c1' := keepcell hSw c1
          have d0' := keepcell hSw d0
          have d1' := keepcell hSw d1
          go_simp
          try (with_reducible rfl)
        try simp only [Act.put, List.setIfInBounds_toArray, List.set_cons_zero, List.set_cons_succ]
        refine wpM_take (i := 4) (oi := ⟨some 23, _, _, _, _, _⟩) (v := ?_) rfl (by decide +kernel) (by decide +kernel) (by decide +kernel) (fun _ _ _ h => h) (Or.inl ⟨by rfl, ?_⟩) hy ?_
        case refine_2 =>
          intro w' hSw
          have c0' := keepcell hSw c0
          have c1' := keepcell hSw c1
          have d0' := keepcell hSw d0
          have d1' := keepcell hSw d1
          go_simp
          try (with_reducible rfl)
        try simp only [Act.put, List.setIfInBounds_toArray, List.set_cons_zero, List.set_cons_succ]
        refine wpM_take (i := 5) (oi := ⟨some 24, _, _, _, _, _⟩) (v := ?_) rfl (by decide +kernel) (by decide +kernel) (by decide +kernel) (fun _ _ _ h => h) (Or.inl ⟨by rfl, ?_⟩) hy ?_
        case refine_2 =>
          intro w' hSw
          have c0' := keepcell hSw c0
          have c1' := keepcell hSw c1
          have d0' := keepcell hSw d0
          have d1' := keepcell hSw d1
          go_simp
          try (with_reducible rfl)
        try simp only [Act.put, List.setIfInBounds_toArray, List.set_cons_zero, List.set_cons_succ]
        refine wpM_take (i := 6) (oi := ⟨some 25, _, _, _, _, _⟩) (v := ?_) rfl (by decide +kernel) (by decide +kernel) (by decide +kernel) (fun _ _ _ h => h) (Or.inl ⟨by rfl, ?_⟩) hy ?_
        case refine_2 =>
          intro w' hSw
          have c0' := keepcell hSw c0
          have c1' := keepcell hSw c1
          have d0' := keepcell hSw d0
          have d1' := keepcell hSw d1
          go_simp
          try (with_reducible rfl)
        try simp only [Act.put, List.setIfInBounds_toArray, List.set_cons_zero, List.set_cons_succ]
        refine wpM_take (i := 7) (oi := ⟨some 26, _, _, _, _, _⟩) (v := ?_) rfl (by decide +kernel) (by decide +kernel) (by decide +kernel) (fun _ _ _ h => h) (Or.inl ⟨by rfl, ?_⟩) hy ?_
        case refine_2 =>
          intro w' hSw
          have c0' := keepcell hSw c0
          have c1' := keepcell hSw c1
          have d0' := keepcell hSw d0
          have d1' := keepcell hSw d1
          go_simp
          try (with_reducible rfl)
        try simp only [Act.put, List.setIfInBounds_toArray, List.set_cons_zero, List.set_cons_succ]
        refine wpM_take (i := 8) (oi := ⟨some 27, _, _, _, _, _⟩) (v := ?_) rfl (by decide +kernel) (by decide +kernel) (by decide +kernel) (fun _ _ _ h => h) (Or.inl ⟨by rfl, ?_⟩) hy ?_
        case refine_2 =>
          intro w' hSw
          have c0' := keepcell hSw c0
          have c1' := keepcell hSw c1
          have d0' := keepcell hSw d0
          have d1' := keepcell hSw d1
          go_simp
          try (with_reducible rfl)
        try simp only [Act.put, List.setIfInBounds_toArray, List.set_cons_zero, List.set_cons_succ]
        refine wpM_take (i := 9) (oi := ⟨some 28, _, _, _, _, _⟩) (v := ?_) rfl (by decide +kernel) (by decide +kernel) (by decide +kernel) (fun _ _ _ h => h) (Or.inl ⟨by rfl, ?_⟩) hy ?_
        case refine_2 =>
          intro w' hSw
          have c0' := keepcell hSw c0
          have c1' := keepcell hSw c1
          have d0' := keepcell hSw d0
          have d1' := keepcell hSw d1
          go_simp
          try (with_reducible rfl)
        try simp only [Act.put, List.setIfInBounds_toArray, List.set_cons_zero, List.set_cons_succ]
        refine wpM_take (i := 10) (oi := ⟨some 29, _, _, _, _, _⟩) (v := ?_) rfl (by decide +kernel) (by decide +kernel) (by decide +kernel) (fun _ _ _ h => h) (Or.inl ⟨by rfl, ?_⟩) hy ?_
        case refine_2 =>
          intro w' hSw
          have c0' := keepcell hSw c0
          have c1' := keepcell hSw c1
          have d0' := keepcell hSw d0
          have d1' := keepcell hSw d1
          go_simp
          try (with_reducible rfl)
        try simp only [Act.put, List.setIfInBounds_toArray, List.set_cons_zero, List.set_cons_succ]
        refine wpM_take (i := 11) (oi := ⟨some 30, _, _, _, _, _⟩) (v := ?_) rfl (by decide +kernel) (by decide +kernel) (by decide +kernel) (fun _ _ _ h => h) (Or.inl ⟨by rfl, ?_⟩) hy ?_
        case refine_2 =>
          intro w' hSw
          have c0' := keepcell hSw c0
          have c1' := keepcell hSw c1
          have d0' := keepcell hSw d0
          have d1' := keepcell hSw d1
          go_simp
          try (with_reducible rfl)
        try simp only [Act.put, List.setIfInBounds_toArray, List.set_cons_zero, List.set_cons_succ]
        refine wpM_take (i := 12) (oi := ⟨some 31, _, _, _, _, _⟩) (v := ?_) rfl (by decide +kernel) (by decide +kernel) (by decide +kernel) (fun _ _ _ h => h) (Or.inl ⟨by rfl, ?_⟩) hy ?_
        case refine_2 =>
          intro w' hSw
          have c0' := keepcell hSw c0
          have c1' := keepcell hSw c1
          have d0' := keepcell hSw d0
          have d1' := keepcell hSw d1
          go_simp
          try (with_reducible rfl)
        try simp only [Act.put, List.setIfInBounds_toArray, List.set_cons_zero, List.set_cons_succ]
        refine wpM_take (i := 13) (oi := ⟨some 32, _, _, _, _, _⟩) (v := ?_) rfl (by decide +kernel) (by decide +kernel) (by decide +kernel) (fun _ _ _ h => h) (Or.inl ⟨by rfl, ?_⟩) hy ?_
        case refine_2 =>
          intro w' hSw
          have c0' := keepcell hSw c0
          have c1' := keepcell hSw c1
          have d0' := keepcell hSw d0
          have d1' := keepcell hSw d1
          go_simp
          try (with_reducible rfl)
        try simp only [Act.put, List.setIfInBounds_toArray, List.set_cons_zero, List.set_cons_succ]
        refine wpM_take (i := 14) (oi := ⟨some 33, _, _, _, _, _⟩) (v := ?_) rfl (by decide +kernel) (by decide +kernel) (by decide +kernel) (fun _ _ _ h => h) (Or.inl ⟨by rfl, ?_⟩) hy ?_
        case refine_2 =>
          intro w' hSw
          have c0' := keepcell hSw c0
          have c1' := keepcell hSw c1
          have d0' := keepcell hSw d0
          have d1' := keepcell hSw d1
          go_simp
          try (with_reducible rfl)
        try simp only [Act.put, List.setIfInBounds_toArray, List.set_cons_zero, List.set_cons_succ]
        refine wpM_take (i := 15) (oi := ⟨some 34, _, _, _, _, _⟩) (v := ?_) rfl (by decide +kernel) (by decide +kernel) (by decide +kernel) (fun _ _ _ h => h) (Or.inl ⟨by rfl, ?_⟩) hy ?_
        case refine_2 =>
          intro w' hSw
          have c0' := keepcell hSw c0
          have c1' := keepcell hSw c1
          have d0' := keepcell hSw d0
          have d1' := keepcell hSw d1
          go_simp
          try (with_reducible rfl)
        try simp only [Act.put, List.setIfInBounds_toArray, List.set_cons_zero, List.set_cons_succ]
        refine wpM_take (i := 16) (oi := ⟨some 35, _, _, _, _, _⟩) (v := ?_) rfl (by decide +kernel) (by decide +kernel) (by decide +kernel) (fun _ _ _ h => h) (Or.inl ⟨by rfl, ?_⟩) hy ?_
        case refine_2 =>
          intro w' hSw
          have c0' := keepcell hSw c0
          have c1' := keepcell hSw c1
          have d0' := keepcell hSw d0
          have d1' := keepcell hSw d1
          go_simp
          try (with_reducible rfl)
        try simp only [Act.put, List.setIfInBounds_toArray, List.set_cons_zero, List.set_cons_succ]
        refine wpM_take (i := 17) (oi := ⟨some 36, _, _, _, _, _⟩) (v := ?_) rfl (by decide +kernel) (by decide +kernel) (by decide +kernel) (fun _ _ _ h => h) (Or.inl ⟨by rfl, ?_⟩) hy ?_
        case refine_2 =>
          intro w' hSw
          have c0' := keepcell hSw c0
          have c1' := keepcell hSw c1
          have d0' := keepcell hSw d0
          have d1' := keepcell hSw d1
          go_simp
          try (with_reducible rfl)
        try simp only [Act.put, List.setIfInBounds_toArray, List.set_cons_zero, List.set_cons_succ]
        refine wpM_take (i := 18) (oi := ⟨some 37, _, _, _, _, _⟩) (v := ?_) rfl (by decide +kernel) (by decide +kernel) (by decide +kernel) (fun _ _ _ h => h) (Or.inl ⟨by rfl, ?_⟩) hy ?_
        case refine_2 =>
          intro w' hSw
          have c0' := keepcell hSw c0
          have c1' := keepcell hSw c1
          have d0' := keepcell hSw d0
          have d1' := keepcell hSw d1
          go_simp
          try (with_reducible rfl)
        try simp only [Act.put, List.setIfInBounds_toArray, List.set_cons_zero, List.set_cons_succ]
        refine wpM_take (i := 19) (oi := ⟨some 38, _, _, _, _, _⟩) (v := ?_) rfl (by decide +kernel) (by decide +kernel) (by decide +kernel) (fun _ _ _ h => h) (Or.inl ⟨by rfl, ?_⟩) hy ?_
        case refine_2 =>
          intro w' hSw
          have c0' := keepcell hSw c0
          have c1' := keepcell hSw c1
          have d0' := keepcell hSw d0
          have d1' := keepcell hSw d1
          go_simp
          try (with_reducible rfl)
        try simp only [Act.put, List.setIfInBounds_toArray, List.set_cons_zero, List.set_cons_succ]
        refine wpM_take (i := 20) (oi := ⟨some 39, _, _, _, _, _⟩) (v := ?_) rfl (by decide +kernel) (by decide +kernel) (by decide +kernel) (fun _ _ _ h => h) (Or.inl ⟨by rfl, ?_⟩) hy ?_
        case refine_2 =>
          intro w' hSw
          have c0' := keepcell hSw c0
          have c1' := keepcell hSw c1
          have d0' := keepcell hSw d0
          have d1' := keepcell hSw d1
          go_simp
          try (with_reducible rfl)
        try simp only [Act.put, List.setIfInBounds_toArray, List.set_cons_zero, List.set_cons_succ]
        refine wpM_take (i := 21) (oi := ⟨some 40, _, _, _, _, _⟩) (v := ?_) rfl (by decide +kernel) (by decide +kernel) (by decide +kernel) (fun _ _ _ h => h) (Or.inl ⟨by rfl, ?_⟩) hy ?_
        case refine_2 =>
          intro w' hSw
          have c0' := keepcell hSw c0
          have c1' := keepcell hSw c1
          have d0' := keepcell hSw d0
          have d1' := keepcell hSw d1
          go_simp
          try (with_reducible rfl)
        try simp only [Act.put, List.setIfInBounds_toArray, List.set_cons_zero, List.set_cons_succ]
        refine wpM_take (i := 22) (oi := ⟨some 41, _, _, _, _, _⟩) (v := ?_) rfl (by decide +kernel) (by decide +kernel) (by decide +kernel) (fun _ _ _ h => h) (Or.inl ⟨by rfl, ?_⟩) hy ?_
        case refine_2 =>
          intro w' hSw
          have c0' := keepcell hSw c0
          have c1' := keepcell hSw c1
          have d0' := keepcell hSw d0
          have d1' := keepcell hSw d1
          go_simp
          try (with_reducible rfl)
        try simp only [Act.put, List.setIfInBounds_toArray, List.set_cons_zero, List.set_cons_succ]
        refine wpM_step (i := 23) (o := ⟨some 8, _, _, _, _, _⟩) rfl (by decide +kernel) (by decide) (fun K hK => ?_)
        go_simp
        refine hK.out _ _ (hy.alloc hy.size _) ?_
        clear hK K
        try simp only [Act.put, List.setIfInBounds_toArray, List.set_cons_zero, List.set_cons_succ]
        refine wpM_done (by decide +kernel) ?_
        simp only [List.drop_succ_cons, List.drop_zero]
        clear c0 c1 d0 d1
        have hys : y0.heap.size = wr.heap.size := by rw [← hy0e]; rfl
        clear hy0e
        obtain ⟨X, hX⟩ : ∃ W, W = y0.alloc (.cells #[.int .i64 lo, .int .i64 hh] 39) := ⟨_, rfl⟩
        have X8 := Lib.hid (show Blk X wr.heap.size 39 #[.int .i64 lo, .int .i64 hh] by rw [hX, ← hys]; exact Blk.new _ _ _)
        have XB0 := Lib.hid (show Below wr.heap.size wr X by rw [hX]; exact hy.alloc hy.size _)
        have XB := Lib.hid (HBW.out.trans (XB0.out.mono HBW.out.size))
        have XO := Lib.hid (HO.out.below XB0.out)
        have g0 : X.cell? ⟨wr.heap.size, 0, none⟩ = some (.int .i64 lo) := X8.out.cell 0
        have g1 : X.cell? ⟨wr.heap.size, 1, none⟩ = some (.int .i64 hh) := X8.out.cell 1
        go_upto_region 5 with fail
        rw [← hX, hys]
        clear hX hy hlo hhi hlo2 hhi2
        go_wp2_with fail
        refine (CE.out ⟨lo, hh⟩ _).mono ?_
        rintro e w3 ⟨rfl, hb⟩
        have Y8 := Lib.hid (X8.out.below hb)
        have YB := Lib.hid (XB.out.trans (hb.mono XB.out.size))
        have YO := Lib.hid (XO.out.below hb)
        clear hb g0 g1
        obtain ⟨c0, c1⟩ := HC1.out w3 YB.out
        obtain ⟨d0, d1⟩ := HC2.out w3 YB.out
        try simp only at c0 c1 d0 d1
        cases hE : Iv.emp ⟨lo, hh⟩
        · have HMS := Lib.hid (show mtS S ⟨lo, hh⟩ = S ++ [⟨lo, hh⟩] by unfold mtS; rw [hE]; rfl)
          have g0 : w3.cell? ⟨wr.heap.size, 0, none⟩ = some (.int .i64 lo) := Y8.out.cell 0
          have g1 : w3.cell? ⟨wr.heap.size, 1, none⟩ = some (.int .i64 hh) := Y8.out.cell 1
          have HO8 := Lib.hid (show w3.ownsRow w.heap.size 39 2 (.slice A5 q c5) q (S.flatMap Iv.cells) by have := YO.out; unfold OR at this; rwa [HQ0.out] at this)
          obtain ⟨W3, hW3⟩ : ∃ W3, W3 = w3.alloc (.cells #[.int .i64 lo, .int .i64 hh] 39) := ⟨_, rfl⟩
          have HO9 := Lib.hid (show W3.ownsRow w.heap.size 39 2 (.slice A5 q c5) q (S.flatMap Iv.cells) by rw [hW3]; exact HO8.out.alloc _)
          have HB9 := Lib.hid (show Below w.heap.size w W3 by rw [hW3]; exact YB.out.alloc YB.out.size _)
          have HN9 : Hid (Src Try.prog 2 28 (.slice (some ⟨w3.heap.size, 0, none⟩) 1 1) 1 (Iv.cells ⟨lo, hh⟩) W3) := Lib.hid (src_blk (c := 1) Try.underlying28 rfl (iv_one _) (show Blk W3 w3.heap.size 39 (Iv.cells ⟨lo, hh⟩).toArray by rw [hW3]; exact Blk.new_ rfl rfl))
          have HS9 := Lib.hid HB9.out.size
          subst hW3
          clear c0 c1 d0 d1
          go_wp2_with (at_builtin; go_loud (refine wpList_append_src _ rfl _ _ 28 28 rfl w.heap.size 39 i0 _ 2 16 Try.underlying28 hii hz0 hz1 hz2 rfl _ q _ rfl HO9.out _ 1 (Iv.cells ⟨lo, hh⟩) rfl HN9.out ?c1 ?c2 HS9.out ?_))
          case c1 => unfold maxLen; omega
          case c2 => omega
          intro v' w5 own' hg _
          have HBn := Lib.hid (HB9.out.grown hg HS9.out (fun j hj => (HO9.out.lt j hj).1))
          have HOn := Lib.hid (show OR 39 w5 w.heap.size v' (S ++ [⟨lo, hh⟩]) by unfold OR; rw [List.length_append, HQ0.out, List.flatMap_append]; simpa using own')
          clear own' hg HO8 HO9 HB9 HN9 HS9
          obtain ⟨c0, c1⟩ := HC1.out w5 HBn.out
          obtain ⟨d0, d1⟩ := HC2.out w5 HBn.out
          try simp only at c0 c1 d0 d1
          by_cases hl : x1 < y1
          · have HQ := Lib.hid (HMI.out (by omega))
            rw [HMS.out] at HQ
            go_upto_region 7 with fail
            go_quiet (fail)
            go_wp2
            go_roundw
            case rel => exact ⟨i + 1, j, S ++ [⟨lo, hh⟩], by go_num, rfl, hi, hjm, by first | exact HOn.out | exact HOn.out.below (below_drew (Below.refl _ _)) | exact HOn.out.below (below_drewN (Below.refl _ _)), HQ.out, by first | exact HBn.out | exact below_drew HBn.out | exact HBn.out.drewN _ | exact below_drewN HBn.out⟩
            case measure => simp only [intOf]; omega
          · have HQ := Lib.hid (HMJ.out (by omega))
            rw [HMS.out] at HQ
            go_upto_region 7 with fail
            go_quiet (fail)
            go_wp2
            go_roundw
            case rel => exact ⟨i, j + 1, S ++ [⟨lo, hh⟩], rfl, by go_num, hin, hj, by first | exact HOn.out | exact HOn.out.below (below_drew (Below.refl _ _)) | exact HOn.out.below (below_drewN (Below.refl _ _)), HQ.out, by first | exact HBn.out | exact below_drew HBn.out | exact HBn.out.drewN _ | exact below_drewN HBn.out⟩
            case measure => simp only [intOf]; omega
        · have HMS := Lib.hid (show mtS S ⟨lo, hh⟩ = S by unfold mtS; rw [hE]; rfl)
          by_cases hl : x1 < y1
          · have HQ := Lib.hid (HMI.out (by omega))
            rw [HMS.out] at HQ
            go_upto_region 7 with fail
            go_quiet (fail)
            go_wp2
            go_roundw
            case rel => exact ⟨i + 1, j, S, by go_num, rfl, hi, hjm, by first | exact YO.out | exact YO.out.below (below_drew (Below.refl _ _)) | exact YO.out.below (below_drewN (Below.refl _ _)), HQ.out, by first | exact YB.out | exact below_drew YB.out | exact YB.out.drewN _ | exact below_drewN YB.out⟩
            case measure => simp only [intOf]; omega
          · have HQ := Lib.hid (HMJ.out (by omega))
            rw [HMS.out] at HQ
            go_upto_region 7 with fail
            go_quiet (fail)
            go_wp2
            go_roundw
            case rel => exact ⟨i, j + 1, S, rfl, by go_num, hin, hj, by first | exact YO.out | exact YO.out.below (below_drew (Below.refl _ _)) | exact YO.out.below (below_drewN (Below.refl _ _)), HQ.out, by first | exact YB.out | exact below_drew YB.out | exact YB.out.drewN _ | exact below_drewN YB.out⟩
            case measure => simp only [intOf]; omega
      · obtain rfl : j = m := by omega
        have HF := Lib.hid (HEND.out i j S HI.out (.inr (by rw [HM.out]; exact Nat.le_refl _)))
        have hki : (i : Int) < n := by omega
        have hlt2 : ¬ ((j : Int) < (j : Int)) := by omega
        go_wp2
        go_ret
        refine ⟨_, rfl, S, HF.out, HI.out.2.1, by rw [HQ0.out]; omega, HO.out, HBW.out⟩
    · obtain rfl : i = n := by omega
      have HF := Lib.hid (HEND.out i j S HI.out (.inl (by rw [HN.out]; exact Nat.le_refl _)))
      have hlt2 : ¬ ((i : Int) < (i : Int)) := by omega
      go_wp2
      go_ret
      refine ⟨_, rfl, S, HF.out, HI.out.2.1, by rw [HQ0.out]; omega, HO.out, HBW.out⟩
end Go.Proofs.Ytnoddkbpdfimmaa
