/- Add, where it adds: the walk. -/
import Derived.Test.YtbmofagaammgmaaDae
import Derived.Test.YtbmofagaammgmaaMxe
namespace Go.Proofs.Ytbmofagaammgmaa
open Go.ChangeShapes Go.WideShapes Go.ChangeAt Go.RowKit Go.ChangeMaps

theorem addS_ok {w : World} {B g n : Nat} {s : St} (h : MX w B g n s) {i j c : Int} (hi : 0 ≤ i ∧ i ≤ (n : Int)) (hj : 0 ≤ j ∧ j ≤ (n : Int)) (hc1 : ¬ c < -1125899906842624) (hc2 : ¬ c > 1125899906842624) (ha : s.a < 100000) :
    (∀ p ∈ (addS s i j c).P, (0 ≤ p.1 ∧ p.1 ≤ (n : Int)) ∧ 0 ≤ p.2 ∧ p.2 ≤ (n : Int)) ∧ (∀ p, ((addS s i j c).f p).isSome = true ↔ p ∈ (addS s i j c).P) ∧ (∀ p q, (addS s i j c).f p = some q → -1125899906842624 ≤ q.1 ∧ q.1 ≤ 1125899906842624 ∧ 0 ≤ q.2 ∧ q.2 < ((addS s i j c).a : Int)) ∧ (addS s i j c).P.length ≤ (addS s i j c).a ∧ (addS s i j c).a ≤ 100000 := by
  have hnew : ∀ q : Int × Int, (c, (s.a : Int)) = q → -1125899906842624 ≤ q.1 ∧ q.1 ≤ 1125899906842624 ∧ 0 ≤ q.2 ∧ q.2 < ((s.a + 1 : Nat) : Int) := fun q e => by
    rw [← e]
    refine ⟨?_, ?_, ?_, ?_⟩ <;> (dsimp only; omega)
  have hold : ∀ p q, s.f p = some q → -1125899906842624 ≤ q.1 ∧ q.1 ≤ 1125899906842624 ∧ 0 ≤ q.2 ∧ q.2 < ((s.a + 1 : Nat) : Int) := fun p q e => by
    obtain ⟨a1, a2, a3, a4⟩ := h.lim p q e
    exact ⟨a1, a2, a3, by omega⟩
  have hl := h.len
  unfold addS
  cases hf : s.f (i, j) with
  | none =>
    refine ⟨fun p hp => ?_, fun p => ?_, fun p q hq => ?_, ?_, ?_⟩
    · have hp : p ∈ s.P ++ [(i, j)] := hp
      rcases List.mem_append.1 hp with hp | hp
      · exact h.ok p hp
      · rw [List.mem_singleton.1 hp]; exact ⟨hi, hj⟩
    · show ((if p = (i, j) then some (c, (s.a : Int)) else s.f p).isSome = true) ↔ p ∈ s.P ++ [(i, j)]
      rw [List.mem_append, List.mem_singleton, ← h.dom p]
      by_cases e : p = (i, j)
      · simp [e]
      · simp [e]
    · have hq : (if p = (i, j) then some (c, (s.a : Int)) else s.f p) = some q := hq
      split at hq
      · injection hq with hq; exact hnew q hq
      · exact hold p q hq
    · show (s.P ++ [(i, j)]).length ≤ s.a + 1
      rw [List.length_append]
      exact Nat.succ_le_succ hl
    · show s.a + 1 ≤ 100000
      omega
  | some q0 =>
    have hm : (i, j) ∈ s.P := (h.dom _).1 (by rw [hf]; rfl)
    refine ⟨fun p hp => h.ok p hp, fun p => ?_, fun p q hq => ?_, ?_, ?_⟩
    · show (((if c < q0.1 then fun p => if p = (i, j) then some (c, (s.a : Int)) else s.f p else s.f) p).isSome = true) ↔ p ∈ s.P
      rw [← h.dom p]
      split
      · dsimp only
        by_cases e : p = (i, j)
        · rw [if_pos e, e, hf]; simp
        · rw [if_neg e]
      · exact Iff.rfl
    · have hq : (if c < q0.1 then fun p => if p = (i, j) then some (c, (s.a : Int)) else s.f p else s.f) p = some q := hq
      split at hq
      · dsimp only at hq
        split at hq
        · injection hq with hq; exact hnew q hq
        · exact hold p q hq
      · exact hold p q hq
    · show s.P.length ≤ s.a + 1
      omega
    · show s.a + 1 ≤ 100000
      omega
set_option maxRecDepth 100000 in
set_option maxHeartbeats 4000000 in
theorem Add_old (w : World) (B g n : Nat) (s : St) (h : MX w B g n s) (i j c : Int) (hi : 0 ≤ i ∧ i ≤ (n : Int)) (hj : 0 ≤ j ∧ j ≤ (n : Int)) (hc1 : ¬ c < -1125899906842624) (hc2 : ¬ c > 1125899906842624) (ha : s.a < 100000) (c0v p0 : Int) (hf : s.f (i, j) = some (c0v, p0)) : Calls Try.prog 22 #[.pointer (some ⟨g, 0, none⟩), .int .i64 i, .int .i64 j, .int .i64 c] w fun e w' => e = .returned (.int .i64 0) ∧ MX w' B g n (addS s i j c) ∧ KT w w' ∧ ∀ w0, Below B w0 w → Below B w0 w' := by
  have hc1' := hc1
  have hc2' := hc2
  have HMX := Lib.hid h
  obtain ⟨bm, v, M, z, h1, hgB, hbmB, h4, h5, h6⟩ := h.all
  have hn64 := h.n
  have HI := Lib.hid (has_any w g n _ _ _ h1 i)
  have HJ := Lib.hid (has_any w g n _ _ _ h1 j)
  rw [show (decide (0 ≤ i) && decide (i ≤ (n : Int))) = true by simp [hi.1, hi.2]] at HI
  rw [show (decide (0 ≤ j) && decide (j ≤ (n : Int))) = true by simp [hj.1, hj.2]] at HJ
  have hij : PK.ok (i, j) := ⟨w64_of (by omega) (by omega), w64_of (by omega) (by omega)⟩
  obtain ⟨a, hae⟩ : ∃ a, s.a = a := ⟨_, rfl⟩
  rw [hae] at h1 h5 ha
  obtain ⟨k1, hk1⟩ : ∃ k, k = w.heap.size := ⟨_, rfl⟩
  obtain ⟨W1, hW1⟩ : ∃ W, W = w.alloc (.cells #[.int .i64 i, .int .i64 j] 72) := ⟨_, rfl⟩
  have hb1 : Below w.heap.size w W1 := by rw [hW1]; exact (Below.refl _ _).alloc (Nat.le_refl _) _
  have KB1 := Lib.hid (show Blk W1 k1 72 #[.int .i64 i, .int .i64 j] by rw [hW1]; exact Blk.new_ hk1 rfl)
  have HB1 := Lib.hid hb1
  have HG := Lib.hid h1
  have HM := Lib.hid h4
  have HO := Lib.hid h6
  have hBw : B ≤ w.heap.size := by have := h1.lt; omega
  have hvk : ∀ k, v.ownBlock = some k → k ≠ k1 := fun k hk => by have := (h6.lt k hk).2; omega
  clear h h1 h4 h6 hb1
  obtain ⟨Fv, hFv⟩ : ∃ Fv : Int × Int → Option Value, (fun p => (s.f p).map bdV) = Fv := ⟨_, rfl⟩
  have HFV := Lib.hid hFv
  rw [hFv] at HM
  clear hFv
  have HVK := Lib.hid hvk
  clear hvk
  have HAE := Lib.hid hae
  clear hae
  have HLK := Lib.hid (show ∀ W', Below W1.heap.size W1 W' → (Instr.lookup 68 (.map (some bm)) (.agg #[.int .i64 i, .int .i64 j]) true).run Try.prog W' = .ok (.tuple #[.agg #[.int .i64 c0v, .int .i64 p0], .bool true]) W' from fun W' hW => by
    have hl := ((HM.out.below HB1.out).below hW).look_ok Try.underlying68 (z := .agg #[.int .i64 0, .int .i64 0]) (show (zeroValue 74).run Try.prog W' = _ by kernel_rfl) hij
    rw [← HFV.out] at hl
    dsimp only at hl
    rw [hf] at hl
    exact hl)
  go_enter Try.func22, Try.ntmps22
  go_wp2_with fail
  refine HI.out.mono ?_
  rintro e x1 ⟨rfl, hx1⟩
  subst x1
  go_wp2_with fail
  refine HJ.out.mono ?_
  rintro e x1 ⟨rfl, hx1⟩
  subst x1
  go_upto_region 6 with fail
  rw [← hk1, ← hW1]
  clear hW1
  have HK1 := Lib.hid hk1
  clear hk1
  have c1 : W1.cell? ⟨g, 1, none⟩ = some (.map (some bm)) := (HG.out.below HB1.out).cell 1
  have d0 : W1.cell? ⟨k1, 0, none⟩ = some (.int .i64 i) := KB1.out.cell 0
  have d1 : W1.cell? ⟨k1, 1, none⟩ = some (.int .i64 j) := KB1.out.cell 1
  have hb0 : Below W1.heap.size W1 W1.drew := below_drew (Below.refl _ _)
  clear HI HJ
  refine wp_region_mixE (fun w' => Below W1.heap.size W1 w') (by kernel_rfl) ?_
  generalize W1.drew = y6 at hb0 ⊢
  refine wpE_take (i := 0) (oi := ⟨some 32, _, _, _, _, _⟩) (v := ?_) rfl (by decide +kernel) (by decide +kernel) (by decide +kernel) (fun _ _ _ h => h) (Or.inl ⟨by rfl, ?_⟩) hb0 ?_
  case refine_2 =>
    intro w' hSw
    have c1' := keepcell hSw c1
    have d0' := keepcell hSw d0
    have d1' := keepcell hSw d1
    go_simp
    try (with_reducible rfl)
  try simp only [Act.put, List.setIfInBounds_toArray, List.set_cons_zero, List.set_cons_succ]
  refine wpE_take (i := 1) (oi := ⟨some 33, _, _, _, _, _⟩) (v := ?_) rfl (by decide +kernel) (by decide +kernel) (by decide +kernel) (fun _ _ _ h => h) (Or.inl ⟨by rfl, ?_⟩) hb0 ?_
  case refine_2 =>
    intro w' hSw
    have c1' := keepcell hSw c1
    have d0' := keepcell hSw d0
    have d1' := keepcell hSw d1
    go_simp
    try (with_reducible rfl)
  try simp only [Act.put, List.setIfInBounds_toArray, List.set_cons_zero, List.set_cons_succ]
  refine wpE_take (i := 2) (oi := ⟨some 34, _, _, _, _, _⟩) (v := ?_) rfl (by decide +kernel) (by decide +kernel) (by decide +kernel) (fun _ _ _ h => h) (Or.inl ⟨by rfl, ?_⟩) hb0 ?_
  case refine_2 =>
    intro w' hSw
    have c1' := keepcell hSw c1
    have d0' := keepcell hSw d0
    have d1' := keepcell hSw d1
    go_simp
    try (with_reducible rfl)
  try simp only [Act.put, List.setIfInBounds_toArray, List.set_cons_zero, List.set_cons_succ]
  refine wpE_take (i := 3) (oi := ⟨some 35, _, _, _, _, _⟩) (v := ?_) rfl (by decide +kernel) (by decide +kernel) (by decide +kernel) (fun _ _ _ h => h) (Or.inl ⟨by rfl, ?_⟩) hb0 ?_
  case refine_2 =>
    intro w' hSw
    have c1' := keepcell hSw c1
    have d0' := keepcell hSw d0
    have d1' := keepcell hSw d1
    go_simp
    try (with_reducible rfl)
  try simp only [Act.put, List.setIfInBounds_toArray, List.set_cons_zero, List.set_cons_succ]
  refine wpE_take (i := 4) (oi := ⟨some 36, _, _, _, _, _⟩) (v := ?_) rfl (by decide +kernel) (by decide +kernel) (by decide +kernel) (fun _ _ _ h => h) (Or.inl ⟨by rfl, ?_⟩) hb0 ?_
  case refine_2 =>
    intro w' hSw
    have c1' := keepcell hSw c1
    have d0' := keepcell hSw d0
    have d1' := keepcell hSw d1
    go_simp
    try (with_reducible rfl)
  try simp only [Act.put, List.setIfInBounds_toArray, List.set_cons_zero, List.set_cons_succ]
  refine wpE_take (i := 5) (oi := ⟨some 37, _, _, _, _, _⟩) (v := ?_) rfl (by decide +kernel) (by decide +kernel) (by decide +kernel) (fun _ _ _ h => h) (Or.inl ⟨by rfl, ?_⟩) hb0 ?_
  case refine_2 =>
    intro w' hSw
    have hl := HLK.out w' hSw
    go_simp
    try (with_reducible rfl)
  try simp only [Act.put, List.setIfInBounds_toArray, List.set_cons_zero, List.set_cons_succ]
  refine wpE_take (i := 6) (oi := ⟨some 31, _, _, _, _, _⟩) (v := ?_) rfl (by decide +kernel) (by decide +kernel) (by decide +kernel) (fun _ _ _ h => h) (Or.inl ⟨by rfl, ?_⟩) hb0 ?_
  case refine_2 =>
    intro w' hSw
    skip
    go_simp
    try (with_reducible rfl)
  try simp only [Act.put, List.setIfInBounds_toArray, List.set_cons_zero, List.set_cons_succ]
  refine wpE_take (i := 7) (oi := ⟨some 38, _, _, _, _, _⟩) (v := ?_) rfl (by decide +kernel) (by decide +kernel) (by decide +kernel) (fun _ _ _ h => h) (Or.inl ⟨by rfl, ?_⟩) hb0 ?_
  case refine_2 =>
    intro w' hSw
    skip
    go_simp
    try (with_reducible rfl)
  try simp only [Act.put, List.setIfInBounds_toArray, List.set_cons_zero, List.set_cons_succ]
  refine wpE_take (i := 8) (oi := ⟨some 39, _, _, _, _, _⟩) (v := ?_) rfl (by decide +kernel) (by decide +kernel) (by decide +kernel) (fun _ _ _ h => h) (Or.inl ⟨by rfl, ?_⟩) hb0 ?_
  case refine_2 =>
    intro w' hSw
    skip
    go_simp
    try (with_reducible rfl)
  try simp only [Act.put, List.setIfInBounds_toArray, List.set_cons_zero, List.set_cons_succ]
  refine wpE_step (i := 9) (o := ⟨some 10, _, _, _, _, _⟩) rfl (by decide +kernel) (fun K hK => ?_)
  go_simp
  refine hK.out _ _ (hb0.alloc hb0.size _) ?_
  clear hK K
  try simp only [Act.put, List.setIfInBounds_toArray, List.set_cons_zero, List.set_cons_succ]
  refine wpE_step (i := 10) (o := ⟨none, _, _, _, _, _⟩) rfl (by decide +kernel) (fun K hK => ?_)
  rw [if_pos (by rfl)]
  refine wp_store_row 74 (.tmp 10) (.tmp 38) (by rfl) _ #[.int .i64 c0v, .int .i64 p0] (by rfl) (by rfl) 74 #[.int .i64 0, .int .i64 0] (heap_alloc_new _ _) (by kernel_rfl) rfl (by simp [Value.oneCell']) ?_
  rw [World.setRow_alloc_new]
  refine hK.out _ _ (hb0.alloc hb0.size _) ?_
  clear hK K
  try simp only [Act.put, List.setIfInBounds_toArray, List.set_cons_zero, List.set_cons_succ]
  refine wpE_take (i := 11) (oi := ⟨some 11, _, _, _, _, _⟩) (v := ?_) rfl (by decide +kernel) (by decide +kernel) (by decide +kernel) (fun _ _ _ h => h) (Or.inl ⟨by rfl, ?_⟩) (hb0.alloc hb0.size _) ?_
  case refine_2 =>
    intro w' hSw
    skip
    go_simp
    try (with_reducible rfl)
  try simp only [Act.put, List.setIfInBounds_toArray, List.set_cons_zero, List.set_cons_succ]
  refine wpE_done (by decide +kernel) ?_
  go_upto_region 7 with fail
  have hby : Below w.heap.size w y6 := HB1.out.trans (hb0.mono HB1.out.size)
  have hb3 : Below w.heap.size w (y6.alloc (.cells #[.int .i64 c0v, .int .i64 p0] 74)) := hby.alloc hby.size _
  have HAS0 : AS w (y6.alloc (.cells #[.int .i64 c0v, .int .i64 p0] 74)) B g n k1 y6.heap.size bm v M z a s.P Fv i j c0v p0 :=
    ⟨HG.out.below hb3, HM.out.below hb3, own_below HO.out hb3, (KB1.out.below hb0).alloc _, Blk.new _ _ _, KT.of_below hb3, fun w0 q => q.trans (hb3.mono hBw), Nat.le_trans hBw hb3.size⟩
  have HAS := Lib.hid HAS0
  clear HAS0 hb3 hby HLK c1 d0 d1 HB1 KB1
  obtain ⟨W3, hW3⟩ : ∃ W, W = y6.alloc (.cells #[.int .i64 c0v, .int .i64 p0] 74) := ⟨_, rfl⟩
  rw [← hW3] at HAS ⊢
  clear hW3
  clear hb0
  generalize y6.heap.size = k2 at *
  have c0 : W3.cell? ⟨g, 0, none⟩ = some (.int .i64 (n : Int)) := HAS.out.blk.cell 0
  have c1 : W3.cell? ⟨g, 1, none⟩ = some (.map (some bm)) := HAS.out.blk.cell 1
  have c2 : W3.cell? ⟨g, 2, none⟩ = some (v) := HAS.out.blk.cell 2
  have c3 : W3.cell? ⟨g, 3, none⟩ = some (.int .i64 (a : Int)) := HAS.out.blk.cell 3
  have d0 : W3.cell? ⟨k1, 0, none⟩ = some (.int .i64 i) := HAS.out.b1.cell 0
  have d1 : W3.cell? ⟨k1, 1, none⟩ = some (.int .i64 j) := HAS.out.b1.cell 1
  have e0 : W3.cell? ⟨k2, 0, none⟩ = some (.int .i64 c0v) := HAS.out.b2.cell 0
  by_cases hlt : c < c0v
  · clear c0 c1 c2 c3 d0 d1 e0
    have c0 : W3.cell? ⟨g, 0, none⟩ = some (.int .i64 (n : Int)) := HAS.out.blk.cell 0
    have c1 : W3.cell? ⟨g, 1, none⟩ = some (.map (some bm)) := HAS.out.blk.cell 1
    have c2 : W3.cell? ⟨g, 2, none⟩ = some (v) := HAS.out.blk.cell 2
    have c3 : W3.cell? ⟨g, 3, none⟩ = some (.int .i64 (a : Int)) := HAS.out.blk.cell 3
    have d0 : W3.cell? ⟨k1, 0, none⟩ = some (.int .i64 i) := HAS.out.b1.cell 0
    have d1 : W3.cell? ⟨k1, 1, none⟩ = some (.int .i64 j) := HAS.out.b1.cell 1
    have e0 : W3.cell? ⟨k2, 0, none⟩ = some (.int .i64 c0v) := HAS.out.b2.cell 0
    go_upto_region 10 with fail
    have hb0 : Below W3.heap.size W3 W3.drew := below_drew (Below.refl _ _)
    have K10 := Lib.hid (HAS.out.below hb0)
    refine wp_region_mix 11 (fun w' => Below W3.heap.size W3 w') (by kernel_rfl) (by decide) ?_
    generalize W3.drew = y10 at hb0 K10 ⊢
    refine wpM_take (i := 0) (oi := ⟨some 60, _, _, _, _, _⟩) (v := ?_) rfl (by decide +kernel) (by decide +kernel) (by decide +kernel) (fun _ _ _ h => h) (Or.inl ⟨by rfl, ?_⟩) hb0 ?_
    case refine_2 =>
      intro w' hSw
      have c1' := keepcell hSw c1
      have c3' := keepcell hSw c3
      have d0' := keepcell hSw d0
      have d1' := keepcell hSw d1
      go_simp
      try (with_reducible rfl)
    try simp only [Act.put, List.setIfInBounds_toArray, List.set_cons_zero, List.set_cons_succ]
    refine wpM_take (i := 1) (oi := ⟨some 61, _, _, _, _, _⟩) (v := ?_) rfl (by decide +kernel) (by decide +kernel) (by decide +kernel) (fun _ _ _ h => h) (Or.inl ⟨by rfl, ?_⟩) hb0 ?_
    case refine_2 =>
      intro w' hSw
      have c1' := keepcell hSw c1
      have c3' := keepcell hSw c3
      have d0' := keepcell hSw d0
      have d1' := keepcell hSw d1
      go_simp
      try (with_reducible rfl)
    try simp only [Act.put, List.setIfInBounds_toArray, List.set_cons_zero, List.set_cons_succ]
    refine wpM_take (i := 2) (oi := ⟨some 62, _, _, _, _, _⟩) (v := ?_) rfl (by decide +kernel) (by decide +kernel) (by decide +kernel) (fun _ _ _ h => h) (Or.inl ⟨by rfl, ?_⟩) hb0 ?_
    case refine_2 =>
      intro w' hSw
      have c1' := keepcell hSw c1
      have c3' := keepcell hSw c3
      have d0' := keepcell hSw d0
      have d1' := keepcell hSw d1
      go_simp
      try (with_reducible rfl)
    try simp only [Act.put, List.setIfInBounds_toArray, List.set_cons_zero, List.set_cons_succ]
    refine wpM_take (i := 3) (oi := ⟨some 63, _, _, _, _, _⟩) (v := ?_) rfl (by decide +kernel) (by decide +kernel) (by decide +kernel) (fun _ _ _ h => h) (Or.inl ⟨by rfl, ?_⟩) hb0 ?_
    case refine_2 =>
      intro w' hSw
      have c1' := keepcell hSw c1
      have c3' := keepcell hSw c3
      have d0' := keepcell hSw d0
      have d1' := keepcell hSw d1
      go_simp
      try (with_reducible rfl)
    try simp only [Act.put, List.setIfInBounds_toArray, List.set_cons_zero, List.set_cons_succ]
    refine wpM_take (i := 4) (oi := ⟨some 64, _, _, _, _, _⟩) (v := ?_) rfl (by decide +kernel) (by decide +kernel) (by decide +kernel) (fun _ _ _ h => h) (Or.inl ⟨by rfl, ?_⟩) hb0 ?_
    case refine_2 =>
      intro w' hSw
      have c1' := keepcell hSw c1
      have c3' := keepcell hSw c3
      have d0' := keepcell hSw d0
      have d1' := keepcell hSw d1
      go_simp
      try (with_reducible rfl)
    try simp only [Act.put, List.setIfInBounds_toArray, List.set_cons_zero, List.set_cons_succ]
    refine wpM_take (i := 5) (oi := ⟨some 65, _, _, _, _, _⟩) (v := ?_) rfl (by decide +kernel) (by decide +kernel) (by decide +kernel) (fun _ _ _ h => h) (Or.inl ⟨by rfl, ?_⟩) hb0 ?_
    case refine_2 =>
      intro w' hSw
      have c1' := keepcell hSw c1
      have c3' := keepcell hSw c3
      have d0' := keepcell hSw d0
      have d1' := keepcell hSw d1
      go_simp
      try (with_reducible rfl)
    try simp only [Act.put, List.setIfInBounds_toArray, List.set_cons_zero, List.set_cons_succ]
    refine wpM_take (i := 6) (oi := ⟨some 66, _, _, _, _, _⟩) (v := ?_) rfl (by decide +kernel) (by decide +kernel) (by decide +kernel) (fun _ _ _ h => h) (Or.inl ⟨by rfl, ?_⟩) hb0 ?_
    case refine_2 =>
      intro w' hSw
      have c1' := keepcell hSw c1
      have c3' := keepcell hSw c3
      have d0' := keepcell hSw d0
      have d1' := keepcell hSw d1
      go_simp
      try (with_reducible rfl)
    try simp only [Act.put, List.setIfInBounds_toArray, List.set_cons_zero, List.set_cons_succ]
    refine wpM_take (i := 7) (oi := ⟨some 67, _, _, _, _, _⟩) (v := ?_) rfl (by decide +kernel) (by decide +kernel) (by decide +kernel) (fun _ _ _ h => h) (Or.inl ⟨by rfl, ?_⟩) hb0 ?_
    case refine_2 =>
      intro w' hSw
      have c1' := keepcell hSw c1
      have c3' := keepcell hSw c3
      have d0' := keepcell hSw d0
      have d1' := keepcell hSw d1
      go_simp
      try (with_reducible rfl)
    try simp only [Act.put, List.setIfInBounds_toArray, List.set_cons_zero, List.set_cons_succ]
    refine wpM_take (i := 8) (oi := ⟨some 68, _, _, _, _, _⟩) (v := ?_) rfl (by decide +kernel) (by decide +kernel) (by decide +kernel) (fun _ _ _ h => h) (Or.inl ⟨by rfl, ?_⟩) hb0 ?_
    case refine_2 =>
      intro w' hSw
      have c1' := keepcell hSw c1
      have c3' := keepcell hSw c3
      have d0' := keepcell hSw d0
      have d1' := keepcell hSw d1
      go_simp
      try (with_reducible rfl)
    try simp only [Act.put, List.setIfInBounds_toArray, List.set_cons_zero, List.set_cons_succ]
    refine wpM_take (i := 9) (oi := ⟨some 69, _, _, _, _, _⟩) (v := ?_) rfl (by decide +kernel) (by decide +kernel) (by decide +kernel) (fun _ _ _ h => h) (Or.inl ⟨by rfl, ?_⟩) hb0 ?_
    case refine_2 =>
      intro w' hSw
      have c1' := keepcell hSw c1
      have c3' := keepcell hSw c3
      have d0' := keepcell hSw d0
      have d1' := keepcell hSw d1
      go_simp
      try (with_reducible rfl)
    try simp only [Act.put, List.setIfInBounds_toArray, List.set_cons_zero, List.set_cons_succ]
    refine wpM_take (i := 10) (oi := ⟨some 70, _, _, _, _, _⟩) (v := ?_) rfl (by decide +kernel) (by decide +kernel) (by decide +kernel) (fun _ _ _ h => h) (Or.inl ⟨by rfl, ?_⟩) hb0 ?_
    case refine_2 =>
      intro w' hSw
      have c1' := keepcell hSw c1
      have c3' := keepcell hSw c3
      have d0' := keepcell hSw d0
      have d1' := keepcell hSw d1
      go_simp
      try (with_reducible rfl)
    try simp only [Act.put, List.setIfInBounds_toArray, List.set_cons_zero, List.set_cons_succ]
    refine wpM_done (by decide +kernel) ?_
    simp only [List.drop_succ_cons, List.drop_zero]
    clear c0 c1 c2 c3 d0 d1 e0
    refine wpList_gput y10 rfl _ _ _ rfl Try.underlying68 rfl K10.out.map (by unfold maxLen; omega) (i, j) hij rfl _ rfl ?_
    intro w11 hm11 hg11
    have K11 := Lib.hid (K10.out.mapped hm11 hg11 hbmB)
    clear hm11 hg11 hb0
    have c0 : w11.cell? ⟨g, 0, none⟩ = some (.int .i64 (n : Int)) := K11.out.blk.cell 0
    have c1 : w11.cell? ⟨g, 1, none⟩ = some (.map (some bm)) := K11.out.blk.cell 1
    have c2 : w11.cell? ⟨g, 2, none⟩ = some (v) := K11.out.blk.cell 2
    have c3 : w11.cell? ⟨g, 3, none⟩ = some (.int .i64 (a : Int)) := K11.out.blk.cell 3
    have d0 : w11.cell? ⟨k1, 0, none⟩ = some (.int .i64 i) := K11.out.b1.cell 0
    have d1 : w11.cell? ⟨k1, 1, none⟩ = some (.int .i64 j) := K11.out.b1.cell 1
    have e0 : w11.cell? ⟨k2, 0, none⟩ = some (.int .i64 c0v) := K11.out.b2.cell 0
    have f3 : w11.frozen? ⟨g, 3, none⟩ = false := Joins.unfrozen_of_block K11.out.blk 3
    have HAD := Lib.hid (K11.out.added hgB ((a : Int) + 1))
    go_wp2
    go_ret
    obtain ⟨r1, r2, r3, r4, r5⟩ := HAD.out
    obtain ⟨z2, r2⟩ : ∃ z2, MG PK _ bm (M + 1) z2 _ := ⟨_, r2⟩
    obtain ⟨q1, q2, q3, q4, q5⟩ := addS_ok (c := c) HMX.out hi hj (by omega) (by omega) (by rw [HAE.out]; exact ha)
    refine ⟨rfl, ⟨⟨bm, v, M + 1, z2, ?_, hgB, hbmB, ?_, ?_, ?_⟩, q1, q2, q3, q4, q5, hn64⟩, r4, r5⟩
    · have e1 : addS s i j c = ⟨s.P, fun p => if p = (i, j) then some (c, (s.a : Int)) else s.f p, s.a + 1⟩ := by
        unfold addS
        rw [hf]
        dsimp only
        rw [if_pos (show c < c0v by omega)]
        rfl
      rw [e1, HAE.out]
      exact r1
    · refine r2.ext rfl (fun p _ => ?_)
      unfold addS
      rw [hf, ← HFV.out, HAE.out]
      unfold gup
      dsimp only
      rw [if_pos (show c < c0v by omega)]
      by_cases e : p = (i, j)
      · rw [if_pos e, if_pos e]; rfl
      · rw [if_neg e, if_neg e]
    · show M + 1 ≤ s.a + 1
      rw [HAE.out]; omega
    · unfold addS
      rw [hf]
      exact r3
  · clear c0 c1 c2 c3 d0 d1 e0
    have c0 : W3.cell? ⟨g, 0, none⟩ = some (.int .i64 (n : Int)) := HAS.out.blk.cell 0
    have c1 : W3.cell? ⟨g, 1, none⟩ = some (.map (some bm)) := HAS.out.blk.cell 1
    have c2 : W3.cell? ⟨g, 2, none⟩ = some (v) := HAS.out.blk.cell 2
    have c3 : W3.cell? ⟨g, 3, none⟩ = some (.int .i64 (a : Int)) := HAS.out.blk.cell 3
    have d0 : W3.cell? ⟨k1, 0, none⟩ = some (.int .i64 i) := HAS.out.b1.cell 0
    have d1 : W3.cell? ⟨k1, 1, none⟩ = some (.int .i64 j) := HAS.out.b1.cell 1
    have e0 : W3.cell? ⟨k2, 0, none⟩ = some (.int .i64 c0v) := HAS.out.b2.cell 0
    have f3 : W3.frozen? ⟨g, 3, none⟩ = false := Joins.unfrozen_of_block HAS.out.blk 3
    have HAD := Lib.hid (HAS.out.added hgB ((a : Int) + 1))
    go_wp2
    go_ret
    obtain ⟨r1, r2, r3, r4, r5⟩ := HAD.out
    obtain ⟨q1, q2, q3, q4, q5⟩ := addS_ok (c := c) HMX.out hi hj (by omega) (by omega) (by rw [HAE.out]; exact ha)
    refine ⟨rfl, ⟨⟨bm, v, M, z, ?_, hgB, hbmB, ?_, ?_, ?_⟩, q1, q2, q3, q4, q5, hn64⟩, r4, r5⟩
    · have e1 : addS s i j c = ⟨s.P, s.f, s.a + 1⟩ := by
        unfold addS
        rw [hf]
        dsimp only
        rw [if_neg (show ¬ c < c0v by omega)]
        rfl
      rw [e1, HAE.out]
      exact r1
    · refine r2.ext rfl (fun p _ => ?_)
      unfold addS
      rw [hf, ← HFV.out]
      dsimp only
      rw [if_neg (show ¬ c < c0v by omega)]
    · show M ≤ s.a + 1
      rw [HAE.out]; omega
    · unfold addS
      rw [hf]
      exact r3
set_option maxRecDepth 100000 in
set_option maxHeartbeats 4000000 in
theorem Add_new (w : World) (B g n : Nat) (s : St) (h : MX w B g n s) (i j c : Int) (hi : 0 ≤ i ∧ i ≤ (n : Int)) (hj : 0 ≤ j ∧ j ≤ (n : Int)) (hc1 : ¬ c < -1125899906842624) (hc2 : ¬ c > 1125899906842624) (ha : s.a < 100000) (hf : s.f (i, j) = none) : Calls Try.prog 22 #[.pointer (some ⟨g, 0, none⟩), .int .i64 i, .int .i64 j, .int .i64 c] w fun e w' => e = .returned (.int .i64 0) ∧ MX w' B g n (addS s i j c) ∧ KT w w' ∧ ∀ w0, Below B w0 w → Below B w0 w' := by
  have hc1' := hc1
  have hc2' := hc2
  obtain ⟨i0, hi0, hz0, hz1, hz2⟩ := info_parts Try.info72
  have HI0 := Lib.hid hi0
  have HZ0 := Lib.hid hz0
  have HZ1 := Lib.hid hz1
  have HZ2 := Lib.hid hz2
  clear hi0 hz0 hz1 hz2
  have HMX := Lib.hid h
  obtain ⟨bm, v, M, z, h1, hgB, hbmB, h4, h5, h6⟩ := h.all
  have hn64 := h.n
  have HI := Lib.hid (has_any w g n _ _ _ h1 i)
  have HJ := Lib.hid (has_any w g n _ _ _ h1 j)
  rw [show (decide (0 ≤ i) && decide (i ≤ (n : Int))) = true by simp [hi.1, hi.2]] at HI
  rw [show (decide (0 ≤ j) && decide (j ≤ (n : Int))) = true by simp [hj.1, hj.2]] at HJ
  have hij : PK.ok (i, j) := ⟨w64_of (by omega) (by omega), w64_of (by omega) (by omega)⟩
  obtain ⟨a, hae⟩ : ∃ a, s.a = a := ⟨_, rfl⟩
  rw [hae] at h1 h5 ha
  obtain ⟨k1, hk1⟩ : ∃ k, k = w.heap.size := ⟨_, rfl⟩
  obtain ⟨W1, hW1⟩ : ∃ W, W = w.alloc (.cells #[.int .i64 i, .int .i64 j] 72) := ⟨_, rfl⟩
  have hb1 : Below w.heap.size w W1 := by rw [hW1]; exact (Below.refl _ _).alloc (Nat.le_refl _) _
  have KB1 := Lib.hid (show Blk W1 k1 72 #[.int .i64 i, .int .i64 j] by rw [hW1]; exact Blk.new_ hk1 rfl)
  have HB1 := Lib.hid hb1
  have HG := Lib.hid h1
  have HM := Lib.hid h4
  have HO := Lib.hid h6
  have hBw : B ≤ w.heap.size := by have := h1.lt; omega
  have hvk : ∀ k, v.ownBlock = some k → k ≠ k1 := fun k hk => by have := (h6.lt k hk).2; omega
  clear h h1 h4 h6 hb1
  obtain ⟨Fv, hFv⟩ : ∃ Fv : Int × Int → Option Value, (fun p => (s.f p).map bdV) = Fv := ⟨_, rfl⟩
  have HFV := Lib.hid hFv
  rw [hFv] at HM
  clear hFv
  have HVK := Lib.hid hvk
  clear hvk
  have HAE := Lib.hid hae
  clear hae
  obtain ⟨c0v, hc0⟩ : ∃ c, (0 : Int) = c := ⟨_, rfl⟩
  obtain ⟨p0, hp0⟩ : ∃ c, (0 : Int) = c := ⟨_, rfl⟩
  have HLK := Lib.hid (show ∀ W', Below W1.heap.size W1 W' → (Instr.lookup 68 (.map (some bm)) (.agg #[.int .i64 i, .int .i64 j]) true).run Try.prog W' = .ok (.tuple #[.agg #[.int .i64 c0v, .int .i64 p0], .bool false]) W' from fun W' hW => by
    have hl := ((HM.out.below HB1.out).below hW).look_ok Try.underlying68 (z := .agg #[.int .i64 0, .int .i64 0]) (show (zeroValue 74).run Try.prog W' = _ by kernel_rfl) hij
    rw [← HFV.out] at hl
    dsimp only at hl
    rw [hf] at hl
    rw [← hc0, ← hp0]
    exact hl)
  clear hc0 hp0
  go_enter Try.func22, Try.ntmps22
  go_wp2_with fail
  refine HI.out.mono ?_
  rintro e x1 ⟨rfl, hx1⟩
  subst x1
  go_wp2_with fail
  refine HJ.out.mono ?_
  rintro e x1 ⟨rfl, hx1⟩
  subst x1
  go_upto_region 6 with fail
  rw [← hk1, ← hW1]
  clear hW1
  have HK1 := Lib.hid hk1
  clear hk1
  have c1 : W1.cell? ⟨g, 1, none⟩ = some (.map (some bm)) := (HG.out.below HB1.out).cell 1
  have d0 : W1.cell? ⟨k1, 0, none⟩ = some (.int .i64 i) := KB1.out.cell 0
  have d1 : W1.cell? ⟨k1, 1, none⟩ = some (.int .i64 j) := KB1.out.cell 1
  have hb0 : Below W1.heap.size W1 W1.drew := below_drew (Below.refl _ _)
  clear HI HJ
  refine wp_region_mixE (fun w' => Below W1.heap.size W1 w') (by kernel_rfl) ?_
  generalize W1.drew = y6 at hb0 ⊢
  refine wpE_take (i := 0) (oi := ⟨some 32, _, _, _, _, _⟩) (v := ?_) rfl (by decide +kernel) (by decide +kernel) (by decide +kernel) (fun _ _ _ h => h) (Or.inl ⟨by rfl, ?_⟩) hb0 ?_
  case refine_2 =>
    intro w' hSw
    have c1' := keepcell hSw c1
    have d0' := keepcell hSw d0
    have d1' := keepcell hSw d1
    go_simp
    try (with_reducible rfl)
  try simp only [Act.put, List.setIfInBounds_toArray, List.set_cons_zero, List.set_cons_succ]
  refine wpE_take (i := 1) (oi := ⟨some 33, _, _, _, _, _⟩) (v := ?_) rfl (by decide +kernel) (by decide +kernel) (by decide +kernel) (fun _ _ _ h => h) (Or.inl ⟨by rfl, ?_⟩) hb0 ?_
  case refine_2 =>
    intro w' hSw
    have c1' := keepcell hSw c1
    have d0' := keepcell hSw d0
    have d1' := keepcell hSw d1
    go_simp
    try (with_reducible rfl)
  try simp only [Act.put, List.setIfInBounds_toArray, List.set_cons_zero, List.set_cons_succ]
  refine wpE_take (i := 2) (oi := ⟨some 34, _, _, _, _, _⟩) (v := ?_) rfl (by decide +kernel) (by decide +kernel) (by decide +kernel) (fun _ _ _ h => h) (Or.inl ⟨by rfl, ?_⟩) hb0 ?_
  case refine_2 =>
    intro w' hSw
    have c1' := keepcell hSw c1
    have d0' := keepcell hSw d0
    have d1' := keepcell hSw d1
    go_simp
    try (with_reducible rfl)
  try simp only [Act.put, List.setIfInBounds_toArray, List.set_cons_zero, List.set_cons_succ]
  refine wpE_take (i := 3) (oi := ⟨some 35, _, _, _, _, _⟩) (v := ?_) rfl (by decide +kernel) (by decide +kernel) (by decide +kernel) (fun _ _ _ h => h) (Or.inl ⟨by rfl, ?_⟩) hb0 ?_
  case refine_2 =>
    intro w' hSw
    have c1' := keepcell hSw c1
    have d0' := keepcell hSw d0
    have d1' := keepcell hSw d1
    go_simp
    try (with_reducible rfl)
  try simp only [Act.put, List.setIfInBounds_toArray, List.set_cons_zero, List.set_cons_succ]
  refine wpE_take (i := 4) (oi := ⟨some 36, _, _, _, _, _⟩) (v := ?_) rfl (by decide +kernel) (by decide +kernel) (by decide +kernel) (fun _ _ _ h => h) (Or.inl ⟨by rfl, ?_⟩) hb0 ?_
  case refine_2 =>
    intro w' hSw
    have c1' := keepcell hSw c1
    have d0' := keepcell hSw d0
    have d1' := keepcell hSw d1
    go_simp
    try (with_reducible rfl)
  try simp only [Act.put, List.setIfInBounds_toArray, List.set_cons_zero, List.set_cons_succ]
  refine wpE_take (i := 5) (oi := ⟨some 37, _, _, _, _, _⟩) (v := ?_) rfl (by decide +kernel) (by decide +kernel) (by decide +kernel) (fun _ _ _ h => h) (Or.inl ⟨by rfl, ?_⟩) hb0 ?_
  case refine_2 =>
    intro w' hSw
    have hl := HLK.out w' hSw
    go_simp
    try (with_reducible rfl)
  try simp only [Act.put, List.setIfInBounds_toArray, List.set_cons_zero, List.set_cons_succ]
  refine wpE_take (i := 6) (oi := ⟨some 31, _, _, _, _, _⟩) (v := ?_) rfl (by decide +kernel) (by decide +kernel) (by decide +kernel) (fun _ _ _ h => h) (Or.inl ⟨by rfl, ?_⟩) hb0 ?_
  case refine_2 =>
    intro w' hSw
    skip
    go_simp
    try (with_reducible rfl)
  try simp only [Act.put, List.setIfInBounds_toArray, List.set_cons_zero, List.set_cons_succ]
  refine wpE_take (i := 7) (oi := ⟨some 38, _, _, _, _, _⟩) (v := ?_) rfl (by decide +kernel) (by decide +kernel) (by decide +kernel) (fun _ _ _ h => h) (Or.inl ⟨by rfl, ?_⟩) hb0 ?_
  case refine_2 =>
    intro w' hSw
    skip
    go_simp
    try (with_reducible rfl)
  try simp only [Act.put, List.setIfInBounds_toArray, List.set_cons_zero, List.set_cons_succ]
  refine wpE_take (i := 8) (oi := ⟨some 39, _, _, _, _, _⟩) (v := ?_) rfl (by decide +kernel) (by decide +kernel) (by decide +kernel) (fun _ _ _ h => h) (Or.inl ⟨by rfl, ?_⟩) hb0 ?_
  case refine_2 =>
    intro w' hSw
    skip
    go_simp
    try (with_reducible rfl)
  try simp only [Act.put, List.setIfInBounds_toArray, List.set_cons_zero, List.set_cons_succ]
  refine wpE_step (i := 9) (o := ⟨some 10, _, _, _, _, _⟩) rfl (by decide +kernel) (fun K hK => ?_)
  go_simp
  refine hK.out _ _ (hb0.alloc hb0.size _) ?_
  clear hK K
  try simp only [Act.put, List.setIfInBounds_toArray, List.set_cons_zero, List.set_cons_succ]
  refine wpE_step (i := 10) (o := ⟨none, _, _, _, _, _⟩) rfl (by decide +kernel) (fun K hK => ?_)
  rw [if_pos (by rfl)]
  refine wp_store_row 74 (.tmp 10) (.tmp 38) (by rfl) _ #[.int .i64 c0v, .int .i64 p0] (by rfl) (by rfl) 74 #[.int .i64 0, .int .i64 0] (heap_alloc_new _ _) (by kernel_rfl) rfl (by simp [Value.oneCell']) ?_
  rw [World.setRow_alloc_new]
  refine hK.out _ _ (hb0.alloc hb0.size _) ?_
  clear hK K
  try simp only [Act.put, List.setIfInBounds_toArray, List.set_cons_zero, List.set_cons_succ]
  refine wpE_take (i := 11) (oi := ⟨some 11, _, _, _, _, _⟩) (v := ?_) rfl (by decide +kernel) (by decide +kernel) (by decide +kernel) (fun _ _ _ h => h) (Or.inl ⟨by rfl, ?_⟩) (hb0.alloc hb0.size _) ?_
  case refine_2 =>
    intro w' hSw
    skip
    go_simp
    try (with_reducible rfl)
  try simp only [Act.put, List.setIfInBounds_toArray, List.set_cons_zero, List.set_cons_succ]
  refine wpE_done (by decide +kernel) ?_
  go_upto_region 7 with fail
  have hby : Below w.heap.size w y6 := HB1.out.trans (hb0.mono HB1.out.size)
  have hb3 : Below w.heap.size w (y6.alloc (.cells #[.int .i64 c0v, .int .i64 p0] 74)) := hby.alloc hby.size _
  have HAS0 : AS w (y6.alloc (.cells #[.int .i64 c0v, .int .i64 p0] 74)) B g n k1 y6.heap.size bm v M z a s.P Fv i j c0v p0 :=
    ⟨HG.out.below hb3, HM.out.below hb3, own_below HO.out hb3, (KB1.out.below hb0).alloc _, Blk.new _ _ _, KT.of_below hb3, fun w0 q => q.trans (hb3.mono hBw), Nat.le_trans hBw hb3.size⟩
  have HAS := Lib.hid HAS0
  clear HAS0 hb3 hby HLK c1 d0 d1 HB1 KB1
  obtain ⟨W3, hW3⟩ : ∃ W, W = y6.alloc (.cells #[.int .i64 c0v, .int .i64 p0] 74) := ⟨_, rfl⟩
  rw [← hW3] at HAS ⊢
  clear hW3
  clear hb0
  generalize y6.heap.size = k2 at *
  go_upto_region 8 with fail
  have hb0 : Below W3.heap.size W3 W3.drew := below_drew (Below.refl _ _)
  have K8 := Lib.hid (HAS.out.below hb0)
  clear hb0
  refine wp_region_mix 8 (fun w' => w'.cell? ⟨g, 2, none⟩ = some v ∧ w'.cell? ⟨k1, 0, none⟩ = some (.int .i64 i) ∧ w'.cell? ⟨k1, 1, none⟩ = some (.int .i64 j)) (by kernel_rfl) (by decide) ?_
  generalize W3.drew = y8 at K8 ⊢
  have hS8 : y8.cell? ⟨g, 2, none⟩ = some v ∧ y8.cell? ⟨k1, 0, none⟩ = some (.int .i64 i) ∧ y8.cell? ⟨k1, 1, none⟩ = some (.int .i64 j) := ⟨K8.out.blk.cell 2, K8.out.b1.cell 0, K8.out.b1.cell 1⟩
  refine wpM_take (i := 0) (oi := ⟨some 42, _, _, _, _, _⟩) (v := ?_) rfl (by decide +kernel) (by decide +kernel) (by decide +kernel) (fun _ _ _ h => h) (Or.inl ⟨by rfl, ?_⟩) hS8 ?_
  case refine_2 =>
    intro w' hSw
    obtain ⟨s2, s0, s1⟩ := hSw
    go_simp
    try (with_reducible rfl)
  try simp only [Act.put, List.setIfInBounds_toArray, List.set_cons_zero, List.set_cons_succ]
  refine wpM_take (i := 1) (oi := ⟨some 43, _, _, _, _, _⟩) (v := ?_) rfl (by decide +kernel) (by decide +kernel) (by decide +kernel) (fun _ _ _ h => h) (Or.inl ⟨by rfl, ?_⟩) hS8 ?_
  case refine_2 =>
    intro w' hSw
    obtain ⟨s2, s0, s1⟩ := hSw
    go_simp
    try (with_reducible rfl)
  try simp only [Act.put, List.setIfInBounds_toArray, List.set_cons_zero, List.set_cons_succ]
  refine wpM_take (i := 2) (oi := ⟨some 44, _, _, _, _, _⟩) (v := ?_) rfl (by decide +kernel) (by decide +kernel) (by decide +kernel) (fun _ _ _ h => h) (Or.inl ⟨by rfl, ?_⟩) hS8 ?_
  case refine_2 =>
    intro w' hSw
    obtain ⟨s2, s0, s1⟩ := hSw
    go_simp
    try (with_reducible rfl)
  try simp only [Act.put, List.setIfInBounds_toArray, List.set_cons_zero, List.set_cons_succ]
  refine wpM_take (i := 3) (oi := ⟨some 45, _, _, _, _, _⟩) (v := ?_) rfl (by decide +kernel) (by decide +kernel) (by decide +kernel) (fun _ _ _ h => h) (Or.inl ⟨by rfl, ?_⟩) hS8 ?_
  case refine_2 =>
    intro w' hSw
    obtain ⟨s2, s0, s1⟩ := hSw
    go_simp
    try (with_reducible rfl)
  try simp only [Act.put, List.setIfInBounds_toArray, List.set_cons_zero, List.set_cons_succ]
  refine wpM_take (i := 4) (oi := ⟨some 46, _, _, _, _, _⟩) (v := ?_) rfl (by decide +kernel) (by decide +kernel) (by decide +kernel) (fun _ _ _ h => h) (Or.inl ⟨by rfl, ?_⟩) hS8 ?_
  case refine_2 =>
    intro w' hSw
    obtain ⟨s2, s0, s1⟩ := hSw
    go_simp
    try (with_reducible rfl)
  try simp only [Act.put, List.setIfInBounds_toArray, List.set_cons_zero, List.set_cons_succ]
  refine wpM_take (i := 5) (oi := ⟨some 47, _, _, _, _, _⟩) (v := ?_) rfl (by decide +kernel) (by decide +kernel) (by decide +kernel) (fun _ _ _ h => h) (Or.inl ⟨by rfl, ?_⟩) hS8 ?_
  case refine_2 =>
    intro w' hSw
    obtain ⟨s2, s0, s1⟩ := hSw
    go_simp
    try (with_reducible rfl)
  try simp only [Act.put, List.setIfInBounds_toArray, List.set_cons_zero, List.set_cons_succ]
  refine wpM_step (i := 6) (o := ⟨some 48, _, _, _, _, _⟩) rfl (by decide +kernel) (by decide) (fun K hK => ?_)
  go_simp
  have K8b := Lib.hid (K8.out.below ((Below.refl _ y8).alloc (Nat.le_refl _) (.cells #[.int .i64 i, .int .i64 j] 72)))
  refine hK.out _ _ ⟨K8b.out.blk.cell 2, K8b.out.b1.cell 0, K8b.out.b1.cell 1⟩ ?_
  clear hK K
  try simp only [Act.put, List.setIfInBounds_toArray, List.set_cons_zero, List.set_cons_succ]
  refine wpM_step (i := 7) (o := ⟨some 49, _, _, _, _, _⟩) rfl (by decide +kernel) (by decide) (fun K hK => ?_)
  rw [if_pos (by rfl)]
  refine wp_append_src _ (.tmp 46) (.tmp 48) 69 69 (by rfl) B 72 i0 _ 2 16 Try.underlying69 HI0.out HZ0.out HZ1.out HZ2.out rfl v s.P.length (s.P.flatMap pcells) (by rfl) K8b.out.row _ 1 [.int .i64 i, .int .i64 j] (by rfl) (src_blk Try.underlying69 rfl (pc_one (i, j)) (Blk.new _ _ _)) (by unfold maxLen; have := HMX.out.len; have := HMX.out.a; omega) (by have := HMX.out.len; have := HMX.out.a; omega) K8b.out.sz ?_
  intro v' w8 own' hg8 _
  obtain ⟨A', c', rfl, -⟩ := At.of_own own'
  obtain ⟨q1, q2, q3⟩ := K8b.out.appended HVK.out own' hg8 hgB
  have Q3 := Lib.hid q3
  have f2 : w8.frozen? ⟨g, 2, none⟩ = false := Joins.unfrozen_of_block q1 2
  have c2 : w8.cell? ⟨g, 2, none⟩ = some v := q1.cell 2
  refine hK.out _ _ ⟨q1.cell 2, q2.cell 0, q2.cell 1⟩ ?_
  clear hK K own' hg8 q1 q2 q3
  try simp only [Act.put, List.setIfInBounds_toArray, List.set_cons_zero, List.set_cons_succ]
  refine wpM_done (by decide +kernel) ?_
  simp only [List.drop_succ_cons, List.drop_zero]
  clear hS8 K8 K8b
  go_upto_region 9 with fail
  generalize w8.setCell ⟨g, 2, none⟩ (.slice A' (s.P.length + 1) c') = W9 at *
  clear f2 c2
  have c0 : W9.cell? ⟨g, 0, none⟩ = some (.int .i64 (n : Int)) := Q3.out.blk.cell 0
  have c1 : W9.cell? ⟨g, 1, none⟩ = some (.map (some bm)) := Q3.out.blk.cell 1
  have c2 : W9.cell? ⟨g, 2, none⟩ = some (.slice A' (s.P.length + 1) c') := Q3.out.blk.cell 2
  have c3 : W9.cell? ⟨g, 3, none⟩ = some (.int .i64 (a : Int)) := Q3.out.blk.cell 3
  have d0 : W9.cell? ⟨k1, 0, none⟩ = some (.int .i64 i) := Q3.out.b1.cell 0
  have d1 : W9.cell? ⟨k1, 1, none⟩ = some (.int .i64 j) := Q3.out.b1.cell 1
  have e0 : W9.cell? ⟨k2, 0, none⟩ = some (.int .i64 c0v) := Q3.out.b2.cell 0
  go_upto_region 10 with fail
  have hb0 : Below W9.heap.size W9 W9.drew := below_drew (Below.refl _ _)
  have K10 := Lib.hid (Q3.out.below hb0)
  refine wp_region_mix 11 (fun w' => Below W9.heap.size W9 w') (by kernel_rfl) (by decide) ?_
  generalize W9.drew = y10 at hb0 K10 ⊢
  refine wpM_take (i := 0) (oi := ⟨some 60, _, _, _, _, _⟩) (v := ?_) rfl (by decide +kernel) (by decide +kernel) (by decide +kernel) (fun _ _ _ h => h) (Or.inl ⟨by rfl, ?_⟩) hb0 ?_
  case refine_2 =>
    intro w' hSw
    have c1' := keepcell hSw c1
    have c3' := keepcell hSw c3
    have d0' := keepcell hSw d0
    have d1' := keepcell hSw d1
    go_simp
    try (with_reducible rfl)
  try simp only [Act.put, List.setIfInBounds_toArray, List.set_cons_zero, List.set_cons_succ]
  refine wpM_take (i := 1) (oi := ⟨some 61, _, _, _, _, _⟩) (v := ?_) rfl (by decide +kernel) (by decide +kernel) (by decide +kernel) (fun _ _ _ h => h) (Or.inl ⟨by rfl, ?_⟩) hb0 ?_
  case refine_2 =>
    intro w' hSw
    have c1' := keepcell hSw c1
    have c3' := keepcell hSw c3
    have d0' := keepcell hSw d0
    have d1' := keepcell hSw d1
    go_simp
    try (with_reducible rfl)
  try simp only [Act.put, List.setIfInBounds_toArray, List.set_cons_zero, List.set_cons_succ]
  refine wpM_take (i := 2) (oi := ⟨some 62, _, _, _, _, _⟩) (v := ?_) rfl (by decide +kernel) (by decide +kernel) (by decide +kernel) (fun _ _ _ h => h) (Or.inl ⟨by rfl, ?_⟩) hb0 ?_
  case refine_2 =>
    intro w' hSw
    have c1' := keepcell hSw c1
    have c3' := keepcell hSw c3
    have d0' := keepcell hSw d0
    have d1' := keepcell hSw d1
    go_simp
    try (with_reducible rfl)
  try simp only [Act.put, List.setIfInBounds_toArray, List.set_cons_zero, List.set_cons_succ]
  refine wpM_take (i := 3) (oi := ⟨some 63, _, _, _, _, _⟩) (v := ?_) rfl (by decide +kernel) (by decide +kernel) (by decide +kernel) (fun _ _ _ h => h) (Or.inl ⟨by rfl, ?_⟩) hb0 ?_
  case refine_2 =>
    intro w' hSw
    have c1' := keepcell hSw c1
    have c3' := keepcell hSw c3
    have d0' := keepcell hSw d0
    have d1' := keepcell hSw d1
    go_simp
    try (with_reducible rfl)
  try simp only [Act.put, List.setIfInBounds_toArray, List.set_cons_zero, List.set_cons_succ]
  refine wpM_take (i := 4) (oi := ⟨some 64, _, _, _, _, _⟩) (v := ?_) rfl (by decide +kernel) (by decide +kernel) (by decide +kernel) (fun _ _ _ h => h) (Or.inl ⟨by rfl, ?_⟩) hb0 ?_
  case refine_2 =>
    intro w' hSw
    have c1' := keepcell hSw c1
    have c3' := keepcell hSw c3
    have d0' := keepcell hSw d0
    have d1' := keepcell hSw d1
    go_simp
    try (with_reducible rfl)
  try simp only [Act.put, List.setIfInBounds_toArray, List.set_cons_zero, List.set_cons_succ]
  refine wpM_take (i := 5) (oi := ⟨some 65, _, _, _, _, _⟩) (v := ?_) rfl (by decide +kernel) (by decide +kernel) (by decide +kernel) (fun _ _ _ h => h) (Or.inl ⟨by rfl, ?_⟩) hb0 ?_
  case refine_2 =>
    intro w' hSw
    have c1' := keepcell hSw c1
    have c3' := keepcell hSw c3
    have d0' := keepcell hSw d0
    have d1' := keepcell hSw d1
    go_simp
    try (with_reducible rfl)
  try simp only [Act.put, List.setIfInBounds_toArray, List.set_cons_zero, List.set_cons_succ]
  refine wpM_take (i := 6) (oi := ⟨some 66, _, _, _, _, _⟩) (v := ?_) rfl (by decide +kernel) (by decide +kernel) (by decide +kernel) (fun _ _ _ h => h) (Or.inl ⟨by rfl, ?_⟩) hb0 ?_
  case refine_2 =>
    intro w' hSw
    have c1' := keepcell hSw c1
    have c3' := keepcell hSw c3
    have d0' := keepcell hSw d0
    have d1' := keepcell hSw d1
    go_simp
    try (with_reducible rfl)
  try simp only [Act.put, List.setIfInBounds_toArray, List.set_cons_zero, List.set_cons_succ]
  refine wpM_take (i := 7) (oi := ⟨some 67, _, _, _, _, _⟩) (v := ?_) rfl (by decide +kernel) (by decide +kernel) (by decide +kernel) (fun _ _ _ h => h) (Or.inl ⟨by rfl, ?_⟩) hb0 ?_
  case refine_2 =>
    intro w' hSw
    have c1' := keepcell hSw c1
    have c3' := keepcell hSw c3
    have d0' := keepcell hSw d0
    have d1' := keepcell hSw d1
    go_simp
    try (with_reducible rfl)
  try simp only [Act.put, List.setIfInBounds_toArray, List.set_cons_zero, List.set_cons_succ]
  refine wpM_take (i := 8) (oi := ⟨some 68, _, _, _, _, _⟩) (v := ?_) rfl (by decide +kernel) (by decide +kernel) (by decide +kernel) (fun _ _ _ h => h) (Or.inl ⟨by rfl, ?_⟩) hb0 ?_
  case refine_2 =>
    intro w' hSw
    have c1' := keepcell hSw c1
    have c3' := keepcell hSw c3
    have d0' := keepcell hSw d0
    have d1' := keepcell hSw d1
    go_simp
    try (with_reducible rfl)
  try simp only [Act.put, List.setIfInBounds_toArray, List.set_cons_zero, List.set_cons_succ]
  refine wpM_take (i := 9) (oi := ⟨some 69, _, _, _, _, _⟩) (v := ?_) rfl (by decide +kernel) (by decide +kernel) (by decide +kernel) (fun _ _ _ h => h) (Or.inl ⟨by rfl, ?_⟩) hb0 ?_
  case refine_2 =>
    intro w' hSw
    have c1' := keepcell hSw c1
    have c3' := keepcell hSw c3
    have d0' := keepcell hSw d0
    have d1' := keepcell hSw d1
    go_simp
    try (with_reducible rfl)
  try simp only [Act.put, List.setIfInBounds_toArray, List.set_cons_zero, List.set_cons_succ]
  refine wpM_take (i := 10) (oi := ⟨some 70, _, _, _, _, _⟩) (v := ?_) rfl (by decide +kernel) (by decide +kernel) (by decide +kernel) (fun _ _ _ h => h) (Or.inl ⟨by rfl, ?_⟩) hb0 ?_
  case refine_2 =>
    intro w' hSw
    have c1' := keepcell hSw c1
    have c3' := keepcell hSw c3
    have d0' := keepcell hSw d0
    have d1' := keepcell hSw d1
    go_simp
    try (with_reducible rfl)
  try simp only [Act.put, List.setIfInBounds_toArray, List.set_cons_zero, List.set_cons_succ]
  refine wpM_done (by decide +kernel) ?_
  simp only [List.drop_succ_cons, List.drop_zero]
  clear c0 c1 c2 c3 d0 d1 e0
  refine wpList_gput y10 rfl _ _ _ rfl Try.underlying68 rfl K10.out.map (by unfold maxLen; omega) (i, j) hij rfl _ rfl ?_
  intro w11 hm11 hg11
  have K11 := Lib.hid (K10.out.mapped hm11 hg11 hbmB)
  clear hm11 hg11 hb0
  have c0 : w11.cell? ⟨g, 0, none⟩ = some (.int .i64 (n : Int)) := K11.out.blk.cell 0
  have c1 : w11.cell? ⟨g, 1, none⟩ = some (.map (some bm)) := K11.out.blk.cell 1
  have c2 : w11.cell? ⟨g, 2, none⟩ = some (.slice A' (s.P.length + 1) c') := K11.out.blk.cell 2
  have c3 : w11.cell? ⟨g, 3, none⟩ = some (.int .i64 (a : Int)) := K11.out.blk.cell 3
  have d0 : w11.cell? ⟨k1, 0, none⟩ = some (.int .i64 i) := K11.out.b1.cell 0
  have d1 : w11.cell? ⟨k1, 1, none⟩ = some (.int .i64 j) := K11.out.b1.cell 1
  have e0 : w11.cell? ⟨k2, 0, none⟩ = some (.int .i64 c0v) := K11.out.b2.cell 0
  have f3 : w11.frozen? ⟨g, 3, none⟩ = false := Joins.unfrozen_of_block K11.out.blk 3
  have HAD := Lib.hid (K11.out.added hgB ((a : Int) + 1))
  go_wp2
  go_ret
  obtain ⟨r1, r2, r3, r4, r5⟩ := HAD.out
  obtain ⟨z2, r2⟩ : ∃ z2, MG PK _ bm (M + 1) z2 _ := ⟨_, r2⟩
  obtain ⟨q1, q2, q3, q4, q5⟩ := addS_ok (c := c) HMX.out hi hj (by omega) (by omega) (by rw [HAE.out]; exact ha)
  refine ⟨rfl, ⟨⟨bm, .slice A' (s.P.length + 1) c', M + 1, z2, ?_, hgB, hbmB, ?_, ?_, ?_⟩, q1, q2, q3, q4, q5, hn64⟩, r4, r5⟩
  · have e1 : addS s i j c = ⟨s.P ++ [(i, j)], fun p => if p = (i, j) then some (c, (s.a : Int)) else s.f p, s.a + 1⟩ := by
      unfold addS; rw [hf]; rfl
    rw [e1, HAE.out]
    exact r1
  · refine r2.ext rfl (fun p _ => ?_)
    unfold addS
    rw [hf, ← HFV.out, HAE.out]
    unfold gup
    dsimp only
    by_cases e : p = (i, j)
    · rw [if_pos e, if_pos e]; rfl
    · rw [if_neg e, if_neg e]
  · show M + 1 ≤ s.a + 1
    rw [HAE.out]; omega
  · unfold addS
    rw [hf]
    exact r3
end Go.Proofs.Ytbmofagaammgmaa
