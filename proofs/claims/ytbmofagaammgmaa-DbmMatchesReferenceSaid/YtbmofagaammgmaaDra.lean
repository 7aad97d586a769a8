/- The reference's Add. -/
import Derived.Test.YtbmofagaammgmaaDlm
import Derived.Test.YtbmofagaammgmaaDad
import Derived.Test.YtbmofagaammgmaaMxe
namespace Go.Proofs.Ytbmofagaammgmaa
open Go.ChangeShapes Go.WideShapes Go.ChangeAt Go.RowKit Go.ChangeMaps

set_option maxRecDepth 100000 in
set_option maxHeartbeats 2000000 in
theorem radd_any (w : World) (n : Nat) (i j c : Int) (hn : n ≤ 64) : Calls Try.prog 26 #[.int .i64 (n : Int), .agg #[.int .i64 i, .int .i64 j, .int .i64 c]] w fun e w' => e = .returned (.int .i64 (addE n i j c)) ∧ Below w.heap.size w w' := by
  obtain ⟨r, hr⟩ : ∃ r, addE n i j c = r := ⟨_, rfl⟩
  rw [hr]
  obtain ⟨W1, hW1⟩ : ∃ W1, W1 = w.alloc (.cells #[.int .i64 i, .int .i64 j, .int .i64 c] 41) := ⟨_, rfl⟩
  have HB := Lib.hid (show Below w.heap.size w W1 by rw [hW1]; exact (Below.refl _ _).alloc (Nat.le_refl _) _)
  have hbk : Blk W1 w.heap.size 41 #[.int .i64 i, .int .i64 j, .int .i64 c] := by rw [hW1]; exact Blk.new _ _ _
  have d0 : W1.cell? ⟨w.heap.size, 0, none⟩ = some (.int .i64 i) := hbk.cell 0
  have d1 : W1.cell? ⟨w.heap.size, 1, none⟩ = some (.int .i64 j) := hbk.cell 1
  have d2 : W1.cell? ⟨w.heap.size, 2, none⟩ = some (.int .i64 c) := hbk.cell 2
  clear hbk
  have hwn : IntKind.i64.wrap (-1125899906842624) = -1125899906842624 := by decide
  have ME : (0 ≤ i ∧ i ≤ n ∧ 0 ≤ j ∧ j ≤ n) ∨ (i < 0 ∨ i > n ∨ j < 0 ∨ j > n) := by omega
  rcases ME with ⟨h1, h2, h3, h4⟩ | hbad
  · have hi0 : ¬ i < 0 := by omega
    have hi1 : ¬ i > (n : Int) := by omega
    have hj0 : ¬ j < 0 := by omega
    have hj1 : ¬ j > (n : Int) := by omega
    have HE0 := Lib.hid (show r = if c < -1125899906842624 ∨ c > 1125899906842624 then 3 else 0 by
      rw [← hr]; unfold addE bad; simp [h1, h2, h3, h4])
    clear hr h1 h2 h3 h4
    by_cases hc : c < -1125899906842624
    · have HE := Lib.hid (show r = 3 by rw [HE0.out, if_pos (.inl hc)])
      go_enter Try.func26, Try.ntmps26
      go_upto_region 3 with fail
      rw [← hW1]
      clear hW1
      have hb0 : Below W1.heap.size W1 W1.drew := below_drew (Below.refl _ _)
      refine wp_region_mixE (fun w' => Below W1.heap.size W1 w') (by kernel_rfl) ?_
      have HBD := Lib.hid (HB.out.trans (hb0.mono HB.out.size))
      generalize W1.drew = y0 at hb0 HBD ⊢
      refine wpE_take (i := 0) (oi := ⟨some 25, _, _, _, _, _⟩) (v := ?_) rfl (by decide +kernel) (by decide +kernel) (by decide +kernel) (fun _ _ _ h => h) (Or.inl ⟨by rfl, ?_⟩) hb0 ?_
      case refine_2 =>
        intro w' hSw
        skip
        go_simp
        try (with_reducible rfl)
      try simp only [Act.put, List.setIfInBounds_toArray, List.set_cons_zero, List.set_cons_succ]
      refine wpE_take (i := 1) (oi := ⟨some 26, _, _, _, _, _⟩) (v := ?_) rfl (by decide +kernel) (by decide +kernel) (by decide +kernel) (fun _ _ _ h => h) (Or.inl ⟨by rfl, ?_⟩) hb0 ?_
      case refine_2 =>
        intro w' hSw
        have d2' := keepcell hSw d2
        go_simp
        try (with_reducible rfl)
      try simp only [Act.put, List.setIfInBounds_toArray, List.set_cons_zero, List.set_cons_succ]
      refine wpE_step (i := 2) (o := ⟨some 27, _, _, _, _, _⟩) rfl (by decide +kernel) (fun K hK => ?_)
      go_simp
      refine (limit_any _).mono ?_
      rintro e y27 ⟨rfl, hy⟩
      subst y27
      refine hK.out _ _ hb0 ?_
      clear hK K
      try simp only [Act.put, List.setIfInBounds_toArray, List.set_cons_zero, List.set_cons_succ]
      refine wpE_take (i := 3) (oi := ⟨some 28, _, _, _, _, _⟩) (v := ?_) rfl (by decide +kernel) (by decide +kernel) (by decide +kernel) (fun _ _ _ h => h) (Or.inl ⟨by rfl, ?_⟩) hb0 ?_
      case refine_2 =>
        intro w' hSw
        skip
        go_simp
        try (with_reducible rfl)
      try simp only [Act.put, List.setIfInBounds_toArray, List.set_cons_zero, List.set_cons_succ]
      refine wpE_take (i := 4) (oi := ⟨some 29, _, _, _, _, _⟩) (v := .bool true) rfl (by decide +kernel) (by decide +kernel) (by decide +kernel) (fun _ _ _ h => h) (Or.inl ⟨by rfl, ?_⟩) hb0 ?_
      case refine_1 =>
        intro w' hSw
        skip
        go_simp
        try (with_reducible rfl)
      try simp only [Act.put, List.setIfInBounds_toArray, List.set_cons_zero, List.set_cons_succ]
      refine wpE_take (i := 5) (oi := ⟨some 30, _, _, _, _, _⟩) (v := .bool true) rfl (by decide +kernel) (by decide +kernel) (by decide +kernel) (fun _ _ _ h => h) (Or.inl ⟨by rfl, ?_⟩) hb0 ?_
      case refine_1 =>
        intro w' hSw
        skip
        go_simp
        try (with_reducible rfl)
      try simp only [Act.put, List.setIfInBounds_toArray, List.set_cons_zero, List.set_cons_succ]
      refine wpE_take (i := 6) (oi := ⟨some 31, _, _, _, _, _⟩) (v := undef) rfl (by decide +kernel) (by decide +kernel) (by decide +kernel) (fun _ _ _ h => h) (Or.inr ⟨by rfl, rfl⟩) hb0 ?_
      try simp only [Act.put, List.setIfInBounds_toArray, List.set_cons_zero, List.set_cons_succ]
      refine wpE_take (i := 7) (oi := ⟨some 32, _, _, _, _, _⟩) (v := undef) rfl (by decide +kernel) (by decide +kernel) (by decide +kernel) (fun _ _ _ h => h) (Or.inr ⟨by rfl, rfl⟩) hb0 ?_
      try simp only [Act.put, List.setIfInBounds_toArray, List.set_cons_zero, List.set_cons_succ]
      refine wpE_take (i := 8) (oi := ⟨some 33, _, _, _, _, _⟩) (v := undef) rfl (by decide +kernel) (by decide +kernel) (by decide +kernel) (fun _ _ _ h => h) (Or.inr ⟨by rfl, rfl⟩) hb0 ?_
      try simp only [Act.put, List.setIfInBounds_toArray, List.set_cons_zero, List.set_cons_succ]
      refine wpE_take (i := 9) (oi := ⟨some 34, _, _, _, _, _⟩) (v := undef) rfl (by decide +kernel) (by decide +kernel) (by decide +kernel) (fun _ _ _ h => h) (Or.inr ⟨by rfl, rfl⟩) hb0 ?_
      try simp only [Act.put, List.setIfInBounds_toArray, List.set_cons_zero, List.set_cons_succ]
      refine wpE_take (i := 10) (oi := ⟨some 35, _, _, _, _, _⟩) (v := .bool true) rfl (by decide +kernel) (by decide +kernel) (by decide +kernel) (fun _ _ _ h => h) (Or.inl ⟨by rfl, ?_⟩) hb0 ?_
      case refine_1 =>
        intro w' hSw
        skip
        go_simp
        try (with_reducible rfl)
      try simp only [Act.put, List.setIfInBounds_toArray, List.set_cons_zero, List.set_cons_succ]
      refine wpE_done (by decide +kernel) ?_
      clear d0 d1 d2 hb0
      go_wp2
      go_ret
      exact ⟨by rw [HE.out]; rfl, HBD.out⟩
    · by_cases hc2 : c > 1125899906842624
      · have HE := Lib.hid (show r = 3 by rw [HE0.out, if_pos (.inr hc2)])
        go_enter Try.func26, Try.ntmps26
        go_upto_region 3 with fail
        rw [← hW1]
        clear hW1
        have hb0 : Below W1.heap.size W1 W1.drew := below_drew (Below.refl _ _)
        refine wp_region_mixE (fun w' => Below W1.heap.size W1 w') (by kernel_rfl) ?_
        have HBD := Lib.hid (HB.out.trans (hb0.mono HB.out.size))
        generalize W1.drew = y0 at hb0 HBD ⊢
        refine wpE_take (i := 0) (oi := ⟨some 25, _, _, _, _, _⟩) (v := ?_) rfl (by decide +kernel) (by decide +kernel) (by decide +kernel) (fun _ _ _ h => h) (Or.inl ⟨by rfl, ?_⟩) hb0 ?_
        case refine_2 =>
          intro w' hSw
          skip
          go_simp
          try (with_reducible rfl)
        try simp only [Act.put, List.setIfInBounds_toArray, List.set_cons_zero, List.set_cons_succ]
        refine wpE_take (i := 1) (oi := ⟨some 26, _, _, _, _, _⟩) (v := ?_) rfl (by decide +kernel) (by decide +kernel) (by decide +kernel) (fun _ _ _ h => h) (Or.inl ⟨by rfl, ?_⟩) hb0 ?_
        case refine_2 =>
          intro w' hSw
          have d2' := keepcell hSw d2
          go_simp
          try (with_reducible rfl)
        try simp only [Act.put, List.setIfInBounds_toArray, List.set_cons_zero, List.set_cons_succ]
        refine wpE_step (i := 2) (o := ⟨some 27, _, _, _, _, _⟩) rfl (by decide +kernel) (fun K hK => ?_)
        go_simp
        refine (limit_any _).mono ?_
        rintro e y27 ⟨rfl, hy⟩
        subst y27
        refine hK.out _ _ hb0 ?_
        clear hK K
        try simp only [Act.put, List.setIfInBounds_toArray, List.set_cons_zero, List.set_cons_succ]
        refine wpE_take (i := 3) (oi := ⟨some 28, _, _, _, _, _⟩) (v := ?_) rfl (by decide +kernel) (by decide +kernel) (by decide +kernel) (fun _ _ _ h => h) (Or.inl ⟨by rfl, ?_⟩) hb0 ?_
        case refine_2 =>
          intro w' hSw
          skip
          go_simp
          try (with_reducible rfl)
        try simp only [Act.put, List.setIfInBounds_toArray, List.set_cons_zero, List.set_cons_succ]
        refine wpE_take (i := 4) (oi := ⟨some 29, _, _, _, _, _⟩) (v := .bool false) rfl (by decide +kernel) (by decide +kernel) (by decide +kernel) (fun _ _ _ h => h) (Or.inl ⟨by rfl, ?_⟩) hb0 ?_
        case refine_1 =>
          intro w' hSw
          skip
          go_simp
          try (with_reducible rfl)
        try simp only [Act.put, List.setIfInBounds_toArray, List.set_cons_zero, List.set_cons_succ]
        refine wpE_take (i := 5) (oi := ⟨some 30, _, _, _, _, _⟩) (v := .bool false) rfl (by decide +kernel) (by decide +kernel) (by decide +kernel) (fun _ _ _ h => h) (Or.inl ⟨by rfl, ?_⟩) hb0 ?_
        case refine_1 =>
          intro w' hSw
          skip
          go_simp
          try (with_reducible rfl)
        try simp only [Act.put, List.setIfInBounds_toArray, List.set_cons_zero, List.set_cons_succ]
        refine wpE_take (i := 6) (oi := ⟨some 31, _, _, _, _, _⟩) (v := ?_) rfl (by decide +kernel) (by decide +kernel) (by decide +kernel) (fun _ _ _ h => h) (Or.inl ⟨by rfl, ?_⟩) hb0 ?_
        case refine_2 =>
          intro w' hSw
          skip
          go_simp
          try (with_reducible rfl)
        try simp only [Act.put, List.setIfInBounds_toArray, List.set_cons_zero, List.set_cons_succ]
        refine wpE_take (i := 7) (oi := ⟨some 32, _, _, _, _, _⟩) (v := ?_) rfl (by decide +kernel) (by decide +kernel) (by decide +kernel) (fun _ _ _ h => h) (Or.inl ⟨by rfl, ?_⟩) hb0 ?_
        case refine_2 =>
          intro w' hSw
          have d2' := keepcell hSw d2
          go_simp
          try (with_reducible rfl)
        try simp only [Act.put, List.setIfInBounds_toArray, List.set_cons_zero, List.set_cons_succ]
        refine wpE_step (i := 8) (o := ⟨some 33, _, _, _, _, _⟩) rfl (by decide +kernel) (fun K hK => ?_)
        go_simp
        refine (limit_any _).mono ?_
        rintro e y33 ⟨rfl, hy⟩
        subst y33
        refine hK.out _ _ hb0 ?_
        clear hK K
        try simp only [Act.put, List.setIfInBounds_toArray, List.set_cons_zero, List.set_cons_succ]
        refine wpE_take (i := 9) (oi := ⟨some 34, _, _, _, _, _⟩) (v := .bool true) rfl (by decide +kernel) (by decide +kernel) (by decide +kernel) (fun _ _ _ h => h) (Or.inl ⟨by rfl, ?_⟩) hb0 ?_
        case refine_1 =>
          intro w' hSw
          skip
          go_simp
          try (with_reducible rfl)
        try simp only [Act.put, List.setIfInBounds_toArray, List.set_cons_zero, List.set_cons_succ]
        refine wpE_take (i := 10) (oi := ⟨some 35, _, _, _, _, _⟩) (v := .bool true) rfl (by decide +kernel) (by decide +kernel) (by decide +kernel) (fun _ _ _ h => h) (Or.inl ⟨by rfl, ?_⟩) hb0 ?_
        case refine_1 =>
          intro w' hSw
          skip
          go_simp
          try (with_reducible rfl)
        try simp only [Act.put, List.setIfInBounds_toArray, List.set_cons_zero, List.set_cons_succ]
        refine wpE_done (by decide +kernel) ?_
        clear d0 d1 d2 hb0
        go_wp2
        go_ret
        exact ⟨by rw [HE.out]; rfl, HBD.out⟩
      · have HE := Lib.hid (show r = 0 by rw [HE0.out, if_neg (by omega)])
        go_enter Try.func26, Try.ntmps26
        go_upto_region 3 with fail
        rw [← hW1]
        clear hW1
        have hb0 : Below W1.heap.size W1 W1.drew := below_drew (Below.refl _ _)
        refine wp_region_mixE (fun w' => Below W1.heap.size W1 w') (by kernel_rfl) ?_
        have HBD := Lib.hid (HB.out.trans (hb0.mono HB.out.size))
        generalize W1.drew = y0 at hb0 HBD ⊢
        refine wpE_take (i := 0) (oi := ⟨some 25, _, _, _, _, _⟩) (v := ?_) rfl (by decide +kernel) (by decide +kernel) (by decide +kernel) (fun _ _ _ h => h) (Or.inl ⟨by rfl, ?_⟩) hb0 ?_
        case refine_2 =>
          intro w' hSw
          skip
          go_simp
          try (with_reducible rfl)
        try simp only [Act.put, List.setIfInBounds_toArray, List.set_cons_zero, List.set_cons_succ]
        refine wpE_take (i := 1) (oi := ⟨some 26, _, _, _, _, _⟩) (v := ?_) rfl (by decide +kernel) (by decide +kernel) (by decide +kernel) (fun _ _ _ h => h) (Or.inl ⟨by rfl, ?_⟩) hb0 ?_
        case refine_2 =>
          intro w' hSw
          have d2' := keepcell hSw d2
          go_simp
          try (with_reducible rfl)
        try simp only [Act.put, List.setIfInBounds_toArray, List.set_cons_zero, List.set_cons_succ]
        refine wpE_step (i := 2) (o := ⟨some 27, _, _, _, _, _⟩) rfl (by decide +kernel) (fun K hK => ?_)
        go_simp
        refine (limit_any _).mono ?_
        rintro e y27 ⟨rfl, hy⟩
        subst y27
        refine hK.out _ _ hb0 ?_
        clear hK K
        try simp only [Act.put, List.setIfInBounds_toArray, List.set_cons_zero, List.set_cons_succ]
        refine wpE_take (i := 3) (oi := ⟨some 28, _, _, _, _, _⟩) (v := ?_) rfl (by decide +kernel) (by decide +kernel) (by decide +kernel) (fun _ _ _ h => h) (Or.inl ⟨by rfl, ?_⟩) hb0 ?_
        case refine_2 =>
          intro w' hSw
          skip
          go_simp
          try (with_reducible rfl)
        try simp only [Act.put, List.setIfInBounds_toArray, List.set_cons_zero, List.set_cons_succ]
        refine wpE_take (i := 4) (oi := ⟨some 29, _, _, _, _, _⟩) (v := .bool false) rfl (by decide +kernel) (by decide +kernel) (by decide +kernel) (fun _ _ _ h => h) (Or.inl ⟨by rfl, ?_⟩) hb0 ?_
        case refine_1 =>
          intro w' hSw
          skip
          go_simp
          try (with_reducible rfl)
        try simp only [Act.put, List.setIfInBounds_toArray, List.set_cons_zero, List.set_cons_succ]
        refine wpE_take (i := 5) (oi := ⟨some 30, _, _, _, _, _⟩) (v := .bool false) rfl (by decide +kernel) (by decide +kernel) (by decide +kernel) (fun _ _ _ h => h) (Or.inl ⟨by rfl, ?_⟩) hb0 ?_
        case refine_1 =>
          intro w' hSw
          skip
          go_simp
          try (with_reducible rfl)
        try simp only [Act.put, List.setIfInBounds_toArray, List.set_cons_zero, List.set_cons_succ]
        refine wpE_take (i := 6) (oi := ⟨some 31, _, _, _, _, _⟩) (v := ?_) rfl (by decide +kernel) (by decide +kernel) (by decide +kernel) (fun _ _ _ h => h) (Or.inl ⟨by rfl, ?_⟩) hb0 ?_
        case refine_2 =>
          intro w' hSw
          skip
          go_simp
          try (with_reducible rfl)
        try simp only [Act.put, List.setIfInBounds_toArray, List.set_cons_zero, List.set_cons_succ]
        refine wpE_take (i := 7) (oi := ⟨some 32, _, _, _, _, _⟩) (v := ?_) rfl (by decide +kernel) (by decide +kernel) (by decide +kernel) (fun _ _ _ h => h) (Or.inl ⟨by rfl, ?_⟩) hb0 ?_
        case refine_2 =>
          intro w' hSw
          have d2' := keepcell hSw d2
          go_simp
          try (with_reducible rfl)
        try simp only [Act.put, List.setIfInBounds_toArray, List.set_cons_zero, List.set_cons_succ]
        refine wpE_step (i := 8) (o := ⟨some 33, _, _, _, _, _⟩) rfl (by decide +kernel) (fun K hK => ?_)
        go_simp
        refine (limit_any _).mono ?_
        rintro e y33 ⟨rfl, hy⟩
        subst y33
        refine hK.out _ _ hb0 ?_
        clear hK K
        try simp only [Act.put, List.setIfInBounds_toArray, List.set_cons_zero, List.set_cons_succ]
        refine wpE_take (i := 9) (oi := ⟨some 34, _, _, _, _, _⟩) (v := .bool false) rfl (by decide +kernel) (by decide +kernel) (by decide +kernel) (fun _ _ _ h => h) (Or.inl ⟨by rfl, ?_⟩) hb0 ?_
        case refine_1 =>
          intro w' hSw
          skip
          go_simp
          try (with_reducible rfl)
        try simp only [Act.put, List.setIfInBounds_toArray, List.set_cons_zero, List.set_cons_succ]
        refine wpE_take (i := 10) (oi := ⟨some 35, _, _, _, _, _⟩) (v := .bool false) rfl (by decide +kernel) (by decide +kernel) (by decide +kernel) (fun _ _ _ h => h) (Or.inl ⟨by rfl, ?_⟩) hb0 ?_
        case refine_1 =>
          intro w' hSw
          skip
          go_simp
          try (with_reducible rfl)
        try simp only [Act.put, List.setIfInBounds_toArray, List.set_cons_zero, List.set_cons_succ]
        refine wpE_done (by decide +kernel) ?_
        clear d0 d1 d2 hb0
        go_wp2
        go_ret
        exact ⟨by rw [HE.out]; rfl, HBD.out⟩
  · have HE := Lib.hid (show r = 1 by
      rw [← hr]
      unfold addE
      rw [if_pos]
      unfold bad
      rcases hbad with h | h | h | h
      · left; rw [show decide (0 ≤ i) = false from decide_eq_false (by omega)]; rfl
      · left; rw [show decide (i ≤ (n : Int)) = false from decide_eq_false (by omega), Bool.and_false]; rfl
      · right; rw [show decide (0 ≤ j) = false from decide_eq_false (by omega)]; rfl
      · right; rw [show decide (j ≤ (n : Int)) = false from decide_eq_false (by omega), Bool.and_false]; rfl)
    clear hr
    by_cases g1 : i < 0
    · clear hbad
      go_enter Try.func26, Try.ntmps26
      go_wp2
      rw [← hW1]
      go_ret
      exact ⟨by rw [HE.out]; rfl, HB.out⟩
    by_cases g2 : i > (n : Int)
    · clear hbad
      go_enter Try.func26, Try.ntmps26
      go_wp2
      rw [← hW1]
      go_ret
      exact ⟨by rw [HE.out]; rfl, HB.out⟩
    by_cases g3 : j < 0
    · clear hbad
      go_enter Try.func26, Try.ntmps26
      go_wp2
      rw [← hW1]
      go_ret
      exact ⟨by rw [HE.out]; rfl, HB.out⟩
    have g4 : j > (n : Int) := by omega
    clear hbad
    go_enter Try.func26, Try.ntmps26
    go_wp2
    rw [← hW1]
    go_ret
    exact ⟨by rw [HE.out]; rfl, HB.out⟩
end Go.Proofs.Ytbmofagaammgmaa
