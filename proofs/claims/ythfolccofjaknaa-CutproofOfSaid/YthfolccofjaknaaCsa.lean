/- Inequalities compared, and all of them tried. -/
import Derived.Test.YthfolccofjaknaaChd
import Derived.Test.YthfolccofjaknaaMA
namespace Go.Proofs.Ythfolccofjaknaa
open Go.ChangeShapes Go.WideShapes Go.ChangeAt Go.RowKit Go.ChangeMaps

set_option maxRecDepth 100000 in
set_option maxHeartbeats 4000000 in
theorem RAll_any (w : World) (A : Option Addr) (n c : Nat) (Q : List Iq) (xA : Option Addr) (xn xc : Nat) (X : List Bg) (N : Nat) (h : Ineqs w A n Q N) (hx : Bigs w xA xn X N) (hN : N ≤ 1000) (hqn : ∀ q ∈ Q, q.n < 4294967296) : Calls Try.prog 35 #[.slice A n c, .slice xA xn xc] w fun e w' => e = .returned (.bool (Q.all fun q => hldM q.m (X.map Bg.z))) ∧ Below w.heap.size w w' := by
  obtain ⟨r, hr⟩ : ∃ r, (Q.all fun q => hldM q.m (X.map Bg.z)) = r := ⟨_, rfl⟩
  rw [hr]
  have HE := Lib.hid hr
  have hn : n ≤ 9223372036854775807 := h.2.1
  have HL := Lib.hid h.len
  have HAT := Lib.hid h.1
  have HC := Lib.hid (show ∀ q ∈ Q, ∀ W, Below w.heap.size w W → Calls Try.prog 26 #[q.val, .slice xA xn xc] W fun e w' => e = .returned (.bool (hldM q.m (X.map Bg.z))) ∧ Below W.heap.size W w' from fun q hq W hW => RHolds_any W q xA xn xc X N ((h.2.2 q hq).below hW) (hx.below hW) hN (hqn q hq))
  clear hr h hx
  go_enter Try.func35, Try.ntmps35
  go_wp2
  go_loopw [5] (fun s5 wr => ∃ k : Nat, s5 = .int .i64 (k : Int) ∧ k ≤ n ∧ ((Q.take k).all fun q => hldM q.m (X.map Bg.z)) = true ∧ Below w.heap.size w wr) (fun s5 _ => n - (intOf s5).toNat)
  case atStart => exact ⟨0, rfl, Nat.zero_le _, rfl, Below.refl _ _⟩
  case round =>
    obtain ⟨k, rfl, hkn, hall, hB⟩ := hrel
    generalize wr = X0 at *
    have HALL := Lib.hid hall
    have HB := Lib.hid hB
    clear hall hB
    by_cases hlt : k < n
    · have hki : (k : Int) < (n : Int) := by omega
      have hk0 : (0 : Int) ≤ (k : Int) := by omega
      have hkL : k < Q.length := by rw [HL.out]; exact hlt
      obtain ⟨bA, off, rfl, -, hc⟩ := at3 (fun _ => rfl) HAT.out (show 0 < n by omega)
      obtain ⟨d0, d1, d2⟩ := hc X0 HB.out k hkL _ _ _ rfl
      have CS := Lib.hid (HC.out _ (List.getElem_mem hkL) X0 HB.out)
      have HST := Lib.hid (show ((Q.take (k + 1)).all fun q => hldM q.m (X.map Bg.z)) = hldM Q[k].m (X.map Bg.z) by rw [List.take_succ_eq_append_getElem hkL, List.all_append, HALL.out]; simp)
      have HBAD := Lib.hid (show hldM Q[k].m (X.map Bg.z) = false → r = false from fun hz => by
        rw [← HE.out, List.all_eq_false.2 ⟨Q[k], List.getElem_mem hkL, by rw [hz]; decide⟩])
      clear hc
      generalize Q[k] = x at *
      obtain ⟨sb, hsb⟩ : ∃ y, hldM x.m (X.map Bg.z) = y := ⟨_, rfl⟩
      rw [hsb] at CS HST HBAD
      unfold Iq.val at CS
      clear hsb
      go_wp2_with fail
      clear d0 d1 d2
      refine CS.out.mono ?_
      rintro e3 w3 ⟨rfl, hb3⟩
      have HB3 := Lib.hid (HB.out.trans (hb3.mono HB.out.size))
      clear hb3 CS
      cases sb with
      | false =>
        have HR := Lib.hid (HBAD.out rfl)
        go_wp2
        go_ret
        exact ⟨by rw [HR.out]; rfl, HB3.out⟩
      | true =>
        go_wp2
        go_roundw
        case rel => exact ⟨k + 1, by go_num, hlt, HST.out, HB3.out⟩
        case measure => simp [intOf]; omega
    · obtain rfl : k = n := by omega
      have hlt2 : ¬ ((k : Int) < (k : Int)) := by omega
      have HR := Lib.hid (show r = true by
        have := HALL.out
        rw [List.take_of_length_le (by rw [HL.out]; exact Nat.le_refl _), HE.out] at this
        exact this)
      go_wp2
      go_ret
      exact ⟨by rw [HR.out]; rfl, HB.out⟩
/-- An inequality of normal integers. -/
def IqN (w : World) (q : Iq) (K : Nat) : Prop := Bigs w q.A q.n q.L K ∧ (∀ b ∈ q.L, NB w 0 b.val b.z K) ∧ NB w 0 q.b.val q.b.z K
theorem IqN.below {w w' : World} {q : Iq} {K : Nat} (h : IqN w q K) (hb : Below w.heap.size w w') : IqN w' q K := ⟨h.1.below hb, fun b hB => (h.2.1 b hB).below hb, h.2.2.below hb⟩
theorem IqN.zero (w : World) : IqN w ⟨none, 0, 0, [], Bg.zero⟩ 0 := ⟨⟨⟨rfl, fun h => absurd h (Nat.lt_irrefl _)⟩, by decide, fun b hb => by cases hb⟩, fun b hb => (by cases hb), NB.zero _ _⟩
theorem IqO.nrm {w : World} {B K : Nat} {q : Iq} (h : IqO w B q K) : IqN w q K := by
  refine ⟨h.ok.1, fun b hb => ?_, h.2.2.2.mono (Nat.zero_le _) (Nat.le_refl _)⟩
  rcases h.2.2.1 with ⟨_, hr⟩ | ⟨g, e, hr⟩
  · rw [hr] at hb; cases hb
  · exact (hr.2.2 b hb).mono (Nat.zero_le _) (Nat.le_refl _)
set_option maxRecDepth 100000 in
set_option maxHeartbeats 4000000 in
theorem RSame_any (w : World) (q r : Iq) (K : Nat) (hq : IqN w q K) (hr : IqN w r K) (hm : q.m = r.m) (hK : K ≤ 100000) : Calls Try.prog 21 #[q.val, r.val] w fun e w' => e = .returned (.bool true) ∧ Below w.heap.size w w' := by
  obtain ⟨A, n, c, L, b⟩ := q
  obtain ⟨A', n', c', L', b'⟩ := r
  have hz : b.z = b'.z := congrArg Prod.snd hm
  have hLm : L.map Bg.z = L'.map Bg.z := congrArg Prod.fst hm
  obtain rfl : n = n' := by
    have h1 := hq.1.len
    have h2 := hr.1.len
    have h3 := congrArg List.length hLm
    simp only [List.length_map] at h3
    dsimp only at h1 h2
    omega
  have HL := Lib.hid (show L.length = n from hq.1.len)
  have HL' := Lib.hid (show L'.length = n from hr.1.len)
  have HLZ := Lib.hid (show ∀ k (h1 : k < L.length) (h2 : k < L'.length), L[k].z = L'[k].z from fun k h1 h2 => by
    have : (L.map Bg.z)[k]'(by rw [List.length_map]; exact h1) = (L'.map Bg.z)[k]'(by rw [List.length_map]; exact h2) := by simp only [hLm]
    simpa using this)
  have hn := hq.1.2.1
  dsimp only at hn
  have HA := Lib.hid hq.1.at
  have HA' := Lib.hid hr.1.at
  have HN := Lib.hid hq.2.1
  have HN' := Lib.hid hr.2.1
  have HBN := Lib.hid (show NB w 0 b.val b.z K from hq.2.2)
  have HBN' := Lib.hid (show NB w 0 b'.val b.z K by rw [hz]; exact hr.2.2)
  unfold Iq.val
  dsimp only at *
  clear hq hr hm hz hLm
  obtain ⟨k2, hk2⟩ : ∃ k, k = w.heap.size := ⟨_, rfl⟩
  obtain ⟨k3, hk3⟩ : ∃ k, k = k2 + 1 := ⟨_, rfl⟩
  obtain ⟨W1, hW1⟩ : ∃ W1, W1 = (w.alloc (.cells #[.slice A n c, .bool b.neg, .slice b.A b.n b.c] 44)).alloc (.cells #[.slice A' n c', .bool b'.neg, .slice b'.A b'.n b'.c] 44) := ⟨_, rfl⟩
  have HB1 := Lib.hid (show Below w.heap.size w W1 by rw [hW1]; exact ((Below.refl _ _).alloc (Nat.le_refl _) _).alloc (by simp) _)
  have K2 := Lib.hid (show Blk W1 k2 44 #[.slice A n c, .bool b.neg, .slice b.A b.n b.c] by rw [hW1, hk2]; exact (Blk.new _ _ _).alloc _)
  have K3 := Lib.hid (show Blk W1 k3 44 #[.slice A' n c', .bool b'.neg, .slice b'.A b'.n b'.c] by rw [hW1]; exact Blk.new_ (by rw [hk3, hk2]; simp) rfl)
  have CS := Lib.hid (Same_nb (HBN.out.below HB1.out) (HBN'.out.below HB1.out) hK)
  unfold Bg.val at CS
  have hk32 : k3 = k2 + 1 := hk3
  go_enter Try.func21, Try.ntmps21
  go_upto_region 1 with fail
  rw [← hk2]
  try rw [← hk32]
  rw [← hW1]
  clear hk2 hk3 hk32 hW1
  have c0 : W1.cell? ⟨k2, 0, none⟩ = some (.slice A n c) := K2.out.cell 0
  have c1 : W1.cell? ⟨k2, 1, none⟩ = some (.bool b.neg) := K2.out.cell 1
  have c2 : W1.cell? ⟨k2, 2, none⟩ = some (.slice b.A b.n b.c) := K2.out.cell 2
  have d0 : W1.cell? ⟨k3, 0, none⟩ = some (.slice A' n c') := K3.out.cell 0
  have d1 : W1.cell? ⟨k3, 1, none⟩ = some (.bool b'.neg) := K3.out.cell 1
  have d2 : W1.cell? ⟨k3, 2, none⟩ = some (.slice b'.A b'.n b'.c) := K3.out.cell 2
  go_wp2_with fail
  clear c0 c1 c2 d0 d1 d2
  refine CS.out.mono ?_
  rintro e2 w2 ⟨rfl, hb2⟩
  have HB2 := Lib.hid (HB1.out.trans (hb2.mono HB1.out.size))
  have K22 := Lib.hid (K2.out.below hb2)
  have K32 := Lib.hid (K3.out.below hb2)
  clear hb2 CS K2 K3 HB1
  go_wp2
  go_loopw [5] (fun s5 wr => ∃ k : Nat, s5 = .int .i64 (k : Int) ∧ k ≤ n ∧ Below w2.heap.size w2 wr) (fun s5 _ => n - (intOf s5).toNat)
  case atStart => exact ⟨0, rfl, Nat.zero_le _, Below.refl _ _⟩
  case round =>
    obtain ⟨k, rfl, hkn, hB⟩ := hrel
    generalize wr = X0 at *
    have HBX := Lib.hid hB
    have HB := Lib.hid (HB2.out.trans (hB.mono HB2.out.size))
    have c0 : X0.cell? ⟨k2, 0, none⟩ = some (.slice A n c) := (K22.out.below hB).cell 0
    have d0 : X0.cell? ⟨k3, 0, none⟩ = some (.slice A' n c') := (K32.out.below hB).cell 0
    clear hB
    by_cases hlt : k < n
    · have hki : (k : Int) < (n : Int) := by omega
      have hk0 : (0 : Int) ≤ (k : Int) := by omega
      have hkL : k < L.length := by rw [HL.out]; exact hlt
      have hkL' : k < L'.length := by rw [HL'.out]; exact hlt
      obtain ⟨bA, off, rfl, -, hc⟩ := HA.out (by omega)
      obtain ⟨bA', off', rfl, -, hc'⟩ := HA'.out (by omega)
      obtain ⟨x0, x1⟩ := hc X0 HB.out k hkL
      obtain ⟨y0, y1⟩ := hc' X0 HB.out k hkL'
      have HX := Lib.hid (HN.out _ (List.getElem_mem hkL))
      have HY := Lib.hid (HN'.out _ (List.getElem_mem hkL'))
      have HZ := Lib.hid (HLZ.out k hkL hkL')
      clear hc hc'
      generalize L[k] = x at *
      generalize L'[k] = y at *
      have HXW := Lib.hid (show ∀ W, Below w.heap.size w W → Calls Try.prog 32 #[x.val, y.val] W fun e w' => e = .returned (.bool true) ∧ Below W.heap.size W w' from fun W hW => Same_nb (HX.out.below hW) (by have := HY.out.below hW; rw [← HZ.out] at this; exact this) hK)
      unfold Bg.val at HXW
      go_upto_region 6 with fail
      have hb0 : Below X0.heap.size X0 X0.drew := below_drew (Below.refl _ _)
      refine wp_region_mixE (fun w' => Below X0.heap.size X0 w') (by kernel_rfl) ?_
      generalize X0.drew = z0 at hb0 ⊢
      have CX := Lib.hid (HXW.out z0 (HB.out.trans (hb0.mono HB.out.size)))
      refine wpE_take (i := 0) (oi := ⟨some 28, _, _, _, _, _⟩) (v := ?_) rfl (by decide +kernel) (by decide +kernel) (by decide +kernel) (fun _ _ _ h => h) (Or.inl ⟨by rfl, ?_⟩) hb0 ?_
      case refine_2 =>
        intro w' hSw
        have c0' := keepcell hSw c0
        have d0' := keepcell hSw d0
        have x0' := keepcell hSw x0
        have x1' := keepcell hSw x1
        have y0' := keepcell hSw y0
        have y1' := keepcell hSw y1
        go_simp
        try (with_reducible rfl)
      try simp only [Act.put, List.setIfInBounds_toArray, List.set_cons_zero, List.set_cons_succ]
      refine wpE_take (i := 1) (oi := ⟨some 29, _, _, _, _, _⟩) (v := ?_) rfl (by decide +kernel) (by decide +kernel) (by decide +kernel) (fun _ _ _ h => h) (Or.inl ⟨by rfl, ?_⟩) hb0 ?_
      case refine_2 =>
        intro w' hSw
        have c0' := keepcell hSw c0
        have d0' := keepcell hSw d0
        have x0' := keepcell hSw x0
        have x1' := keepcell hSw x1
        have y0' := keepcell hSw y0
        have y1' := keepcell hSw y1
        go_simp
        try (with_reducible rfl)
      try simp only [Act.put, List.setIfInBounds_toArray, List.set_cons_zero, List.set_cons_succ]
      refine wpE_take (i := 2) (oi := ⟨some 30, _, _, _, _, _⟩) (v := ?_) rfl (by decide +kernel) (by decide +kernel) (by decide +kernel) (fun _ _ _ h => h) (Or.inl ⟨by rfl, ?_⟩) hb0 ?_
      case refine_2 =>
        intro w' hSw
        have c0' := keepcell hSw c0
        have d0' := keepcell hSw d0
        have x0' := keepcell hSw x0
        have x1' := keepcell hSw x1
        have y0' := keepcell hSw y0
        have y1' := keepcell hSw y1
        go_simp
        try (with_reducible rfl)
      try simp only [Act.put, List.setIfInBounds_toArray, List.set_cons_zero, List.set_cons_succ]
      refine wpE_take (i := 3) (oi := ⟨some 31, _, _, _, _, _⟩) (v := ?_) rfl (by decide +kernel) (by decide +kernel) (by decide +kernel) (fun _ _ _ h => h) (Or.inl ⟨by rfl, ?_⟩) hb0 ?_
      case refine_2 =>
        intro w' hSw
        have c0' := keepcell hSw c0
        have d0' := keepcell hSw d0
        have x0' := keepcell hSw x0
        have x1' := keepcell hSw x1
        have y0' := keepcell hSw y0
        have y1' := keepcell hSw y1
        go_simp
        try (with_reducible rfl)
      try simp only [Act.put, List.setIfInBounds_toArray, List.set_cons_zero, List.set_cons_succ]
      refine wpE_take (i := 4) (oi := ⟨some 32, _, _, _, _, _⟩) (v := ?_) rfl (by decide +kernel) (by decide +kernel) (by decide +kernel) (fun _ _ _ h => h) (Or.inl ⟨by rfl, ?_⟩) hb0 ?_
      case refine_2 =>
        intro w' hSw
        have c0' := keepcell hSw c0
        have d0' := keepcell hSw d0
        have x0' := keepcell hSw x0
        have x1' := keepcell hSw x1
        have y0' := keepcell hSw y0
        have y1' := keepcell hSw y1
        go_simp
        try (with_reducible rfl)
      try simp only [Act.put, List.setIfInBounds_toArray, List.set_cons_zero, List.set_cons_succ]
      refine wpE_take (i := 5) (oi := ⟨some 33, _, _, _, _, _⟩) (v := ?_) rfl (by decide +kernel) (by decide +kernel) (by decide +kernel) (fun _ _ _ h => h) (Or.inl ⟨by rfl, ?_⟩) hb0 ?_
      case refine_2 =>
        intro w' hSw
        have c0' := keepcell hSw c0
        have d0' := keepcell hSw d0
        have x0' := keepcell hSw x0
        have x1' := keepcell hSw x1
        have y0' := keepcell hSw y0
        have y1' := keepcell hSw y1
        go_simp
        try (with_reducible rfl)
      try simp only [Act.put, List.setIfInBounds_toArray, List.set_cons_zero, List.set_cons_succ]
      refine wpE_take (i := 6) (oi := ⟨some 34, _, _, _, _, _⟩) (v := ?_) rfl (by decide +kernel) (by decide +kernel) (by decide +kernel) (fun _ _ _ h => h) (Or.inl ⟨by rfl, ?_⟩) hb0 ?_
      case refine_2 =>
        intro w' hSw
        have c0' := keepcell hSw c0
        have d0' := keepcell hSw d0
        have x0' := keepcell hSw x0
        have x1' := keepcell hSw x1
        have y0' := keepcell hSw y0
        have y1' := keepcell hSw y1
        go_simp
        try (with_reducible rfl)
      try simp only [Act.put, List.setIfInBounds_toArray, List.set_cons_zero, List.set_cons_succ]
      refine wpE_take (i := 7) (oi := ⟨some 35, _, _, _, _, _⟩) (v := ?_) rfl (by decide +kernel) (by decide +kernel) (by decide +kernel) (fun _ _ _ h => h) (Or.inl ⟨by rfl, ?_⟩) hb0 ?_
      case refine_2 =>
        intro w' hSw
        have c0' := keepcell hSw c0
        have d0' := keepcell hSw d0
        have x0' := keepcell hSw x0
        have x1' := keepcell hSw x1
        have y0' := keepcell hSw y0
        have y1' := keepcell hSw y1
        go_simp
        try (with_reducible rfl)
      try simp only [Act.put, List.setIfInBounds_toArray, List.set_cons_zero, List.set_cons_succ]
      refine wpE_take (i := 8) (oi := ⟨some 36, _, _, _, _, _⟩) (v := ?_) rfl (by decide +kernel) (by decide +kernel) (by decide +kernel) (fun _ _ _ h => h) (Or.inl ⟨by rfl, ?_⟩) hb0 ?_
      case refine_2 =>
        intro w' hSw
        have c0' := keepcell hSw c0
        have d0' := keepcell hSw d0
        have x0' := keepcell hSw x0
        have x1' := keepcell hSw x1
        have y0' := keepcell hSw y0
        have y1' := keepcell hSw y1
        go_simp
        try (with_reducible rfl)
      try simp only [Act.put, List.setIfInBounds_toArray, List.set_cons_zero, List.set_cons_succ]
      refine wpE_take (i := 9) (oi := ⟨some 37, _, _, _, _, _⟩) (v := ?_) rfl (by decide +kernel) (by decide +kernel) (by decide +kernel) (fun _ _ _ h => h) (Or.inl ⟨by rfl, ?_⟩) hb0 ?_
      case refine_2 =>
        intro w' hSw
        have c0' := keepcell hSw c0
        have d0' := keepcell hSw d0
        have x0' := keepcell hSw x0
        have x1' := keepcell hSw x1
        have y0' := keepcell hSw y0
        have y1' := keepcell hSw y1
        go_simp
        try (with_reducible rfl)
      try simp only [Act.put, List.setIfInBounds_toArray, List.set_cons_zero, List.set_cons_succ]
      refine wpE_step (i := 10) (o := ⟨some 38, _, _, _, _, _⟩) rfl (by decide +kernel) (fun KK hKK => ?_)
      go_simp
      refine CX.out.mono ?_
      rintro e z1 ⟨rfl, hbn⟩
      have hb1 : Below X0.heap.size X0 z1 := hb0.trans (hbn.mono hb0.size)
      clear hbn
      refine hKK.out _ _ hb1 ?_
      clear hKK KK
      try simp only [Act.put, List.setIfInBounds_toArray, List.set_cons_zero, List.set_cons_succ]
      refine wpE_take (i := 11) (oi := ⟨some 39, _, _, _, _, _⟩) (v := ?_) rfl (by decide +kernel) (by decide +kernel) (by decide +kernel) (fun _ _ _ h => h) (Or.inl ⟨by rfl, ?_⟩) hb1 ?_
      case refine_2 =>
        intro w' hSw
        skip
        go_simp
        try (with_reducible rfl)
      try simp only [Act.put, List.setIfInBounds_toArray, List.set_cons_zero, List.set_cons_succ]
      refine wpE_done (by decide +kernel) ?_
      have HB5 := Lib.hid (HB.out.trans (hb1.mono HB.out.size))
      have HBX5 := Lib.hid (HBX.out.trans (hb1.mono HBX.out.size))
      clear c0 d0 x0 x1 y0 y1 hb0 hb1 CX HXW
      go_wp2
      go_roundw
      case rel => exact ⟨k + 1, by go_num, hlt, HBX5.out⟩
      case measure => simp [intOf]; omega
    · obtain rfl : k = n := by omega
      have hlt2 : ¬ ((k : Int) < (k : Int)) := by omega
      go_wp2
      go_ret
      exact ⟨rfl, HB.out⟩
set_option maxRecDepth 100000 in
set_option maxHeartbeats 4000000 in
theorem RSames_any (w : World) (A B : Option Addr) (n c c' : Nat) (Q R : List Iq) (K : Nat) (hA : At w A n 3 (Q.flatMap Iq.cells)) (hB : At w B n 3 (R.flatMap Iq.cells)) (hQ : ∀ q ∈ Q, IqN w q K) (hR : ∀ q ∈ R, IqN w q K) (hm : Q.map Iq.m = R.map Iq.m) (hn : n ≤ 9223372036854775807) (hK : K ≤ 100000) : Calls Try.prog 12 #[.slice A n c, .slice B n c'] w fun e w' => e = .returned (.bool true) ∧ Below w.heap.size w w' := by
  have HL := Lib.hid (show Q.length = n by have := hA.1; rw [flat_len Iq.cells 3 (fun _ => rfl)] at this; omega)
  have HL' := Lib.hid (show R.length = n by have := hB.1; rw [flat_len Iq.cells 3 (fun _ => rfl)] at this; omega)
  have HC := Lib.hid (show ∀ k (h1 : k < Q.length) (h2 : k < R.length) W, Below w.heap.size w W → Calls Try.prog 21 #[Q[k].val, R[k].val] W fun e w' => e = .returned (.bool true) ∧ Below W.heap.size W w' from fun k h1 h2 W hW => RSame_any W _ _ K ((hQ _ (List.getElem_mem h1)).below hW) ((hR _ (List.getElem_mem h2)).below hW) (by
    have : (Q.map Iq.m)[k]'(by rw [List.length_map]; exact h1) = (R.map Iq.m)[k]'(by rw [List.length_map]; exact h2) := by simp only [hm]
    simpa using this) hK)
  have HA := Lib.hid hA
  have HB0 := Lib.hid hB
  clear hA hB hQ hR hm
  go_enter Try.func12, Try.ntmps12
  go_wp2
  go_loopw [5] (fun s5 wr => ∃ k : Nat, s5 = .int .i64 (k : Int) ∧ k ≤ n ∧ Below w.heap.size w wr) (fun s5 _ => n - (intOf s5).toNat)
  case atStart => exact ⟨0, rfl, Nat.zero_le _, Below.refl _ _⟩
  case round =>
    obtain ⟨k, rfl, hkn, hB⟩ := hrel
    generalize wr = X0 at *
    have HB := Lib.hid hB
    clear hB
    by_cases hlt : k < n
    · have hki : (k : Int) < (n : Int) := by omega
      have hk0 : (0 : Int) ≤ (k : Int) := by omega
      have hkL : k < Q.length := by rw [HL.out]; exact hlt
      have hkL' : k < R.length := by rw [HL'.out]; exact hlt
      obtain ⟨bA, off, rfl, -, hc⟩ := at3 (fun _ => rfl) HA.out (show 0 < n by omega)
      obtain ⟨bA', off', rfl, -, hc'⟩ := at3 (fun _ => rfl) HB0.out (show 0 < n by omega)
      obtain ⟨x0, x1, x2⟩ := hc X0 HB.out k hkL _ _ _ rfl
      obtain ⟨y0, y1, y2⟩ := hc' X0 HB.out k hkL' _ _ _ rfl
      have HXW := Lib.hid (HC.out k hkL hkL')
      clear hc hc'
      generalize Q[k] = x at *
      generalize R[k] = y at *
      unfold Iq.val at HXW
      go_upto_region 6 with fail
      have hb0 : Below X0.heap.size X0 X0.drew := below_drew (Below.refl _ _)
      refine wp_region_mixE (fun w' => Below X0.heap.size X0 w') (by kernel_rfl) ?_
      generalize X0.drew = z0 at hb0 ⊢
      have CX := Lib.hid (HXW.out z0 (HB.out.trans (hb0.mono HB.out.size)))
      refine wpE_take (i := 0) (oi := ⟨some 17, _, _, _, _, _⟩) (v := ?_) rfl (by decide +kernel) (by decide +kernel) (by decide +kernel) (fun _ _ _ h => h) (Or.inl ⟨by rfl, ?_⟩) hb0 ?_
      case refine_2 =>
        intro w' hSw
        have x0' := keepcell hSw x0
        have x1' := keepcell hSw x1
        have x2' := keepcell hSw x2
        have y0' := keepcell hSw y0
        have y1' := keepcell hSw y1
        have y2' := keepcell hSw y2
        go_simp
        try (with_reducible rfl)
      try simp only [Act.put, List.setIfInBounds_toArray, List.set_cons_zero, List.set_cons_succ]
      refine wpE_take (i := 1) (oi := ⟨some 18, _, _, _, _, _⟩) (v := ?_) rfl (by decide +kernel) (by decide +kernel) (by decide +kernel) (fun _ _ _ h => h) (Or.inl ⟨by rfl, ?_⟩) hb0 ?_
      case refine_2 =>
        intro w' hSw
        have x0' := keepcell hSw x0
        have x1' := keepcell hSw x1
        have x2' := keepcell hSw x2
        have y0' := keepcell hSw y0
        have y1' := keepcell hSw y1
        have y2' := keepcell hSw y2
        go_simp
        try (with_reducible rfl)
      try simp only [Act.put, List.setIfInBounds_toArray, List.set_cons_zero, List.set_cons_succ]
      refine wpE_take (i := 2) (oi := ⟨some 19, _, _, _, _, _⟩) (v := ?_) rfl (by decide +kernel) (by decide +kernel) (by decide +kernel) (fun _ _ _ h => h) (Or.inl ⟨by rfl, ?_⟩) hb0 ?_
      case refine_2 =>
        intro w' hSw
        have x0' := keepcell hSw x0
        have x1' := keepcell hSw x1
        have x2' := keepcell hSw x2
        have y0' := keepcell hSw y0
        have y1' := keepcell hSw y1
        have y2' := keepcell hSw y2
        go_simp
        try (with_reducible rfl)
      try simp only [Act.put, List.setIfInBounds_toArray, List.set_cons_zero, List.set_cons_succ]
      refine wpE_take (i := 3) (oi := ⟨some 20, _, _, _, _, _⟩) (v := ?_) rfl (by decide +kernel) (by decide +kernel) (by decide +kernel) (fun _ _ _ h => h) (Or.inl ⟨by rfl, ?_⟩) hb0 ?_
      case refine_2 =>
        intro w' hSw
        have x0' := keepcell hSw x0
        have x1' := keepcell hSw x1
        have x2' := keepcell hSw x2
        have y0' := keepcell hSw y0
        have y1' := keepcell hSw y1
        have y2' := keepcell hSw y2
        go_simp
        try (with_reducible rfl)
      try simp only [Act.put, List.setIfInBounds_toArray, List.set_cons_zero, List.set_cons_succ]
      refine wpE_take (i := 4) (oi := ⟨some 21, _, _, _, _, _⟩) (v := ?_) rfl (by decide +kernel) (by decide +kernel) (by decide +kernel) (fun _ _ _ h => h) (Or.inl ⟨by rfl, ?_⟩) hb0 ?_
      case refine_2 =>
        intro w' hSw
        have x0' := keepcell hSw x0
        have x1' := keepcell hSw x1
        have x2' := keepcell hSw x2
        have y0' := keepcell hSw y0
        have y1' := keepcell hSw y1
        have y2' := keepcell hSw y2
        go_simp
        try (with_reducible rfl)
      try simp only [Act.put, List.setIfInBounds_toArray, List.set_cons_zero, List.set_cons_succ]
      refine wpE_take (i := 5) (oi := ⟨some 22, _, _, _, _, _⟩) (v := ?_) rfl (by decide +kernel) (by decide +kernel) (by decide +kernel) (fun _ _ _ h => h) (Or.inl ⟨by rfl, ?_⟩) hb0 ?_
      case refine_2 =>
        intro w' hSw
        have x0' := keepcell hSw x0
        have x1' := keepcell hSw x1
        have x2' := keepcell hSw x2
        have y0' := keepcell hSw y0
        have y1' := keepcell hSw y1
        have y2' := keepcell hSw y2
        go_simp
        try (with_reducible rfl)
      try simp only [Act.put, List.setIfInBounds_toArray, List.set_cons_zero, List.set_cons_succ]
      refine wpE_take (i := 6) (oi := ⟨some 23, _, _, _, _, _⟩) (v := ?_) rfl (by decide +kernel) (by decide +kernel) (by decide +kernel) (fun _ _ _ h => h) (Or.inl ⟨by rfl, ?_⟩) hb0 ?_
      case refine_2 =>
        intro w' hSw
        have x0' := keepcell hSw x0
        have x1' := keepcell hSw x1
        have x2' := keepcell hSw x2
        have y0' := keepcell hSw y0
        have y1' := keepcell hSw y1
        have y2' := keepcell hSw y2
        go_simp
        try (with_reducible rfl)
      try simp only [Act.put, List.setIfInBounds_toArray, List.set_cons_zero, List.set_cons_succ]
      refine wpE_take (i := 7) (oi := ⟨some 24, _, _, _, _, _⟩) (v := ?_) rfl (by decide +kernel) (by decide +kernel) (by decide +kernel) (fun _ _ _ h => h) (Or.inl ⟨by rfl, ?_⟩) hb0 ?_
      case refine_2 =>
        intro w' hSw
        have x0' := keepcell hSw x0
        have x1' := keepcell hSw x1
        have x2' := keepcell hSw x2
        have y0' := keepcell hSw y0
        have y1' := keepcell hSw y1
        have y2' := keepcell hSw y2
        go_simp
        try (with_reducible rfl)
      try simp only [Act.put, List.setIfInBounds_toArray, List.set_cons_zero, List.set_cons_succ]
      refine wpE_step (i := 8) (o := ⟨some 25, _, _, _, _, _⟩) rfl (by decide +kernel) (fun KK hKK => ?_)
      go_simp
      refine CX.out.mono ?_
      rintro e z1 ⟨rfl, hbn⟩
      have hb1 : Below X0.heap.size X0 z1 := hb0.trans (hbn.mono hb0.size)
      clear hbn
      refine hKK.out _ _ hb1 ?_
      clear hKK KK
      try simp only [Act.put, List.setIfInBounds_toArray, List.set_cons_zero, List.set_cons_succ]
      refine wpE_take (i := 9) (oi := ⟨some 26, _, _, _, _, _⟩) (v := ?_) rfl (by decide +kernel) (by decide +kernel) (by decide +kernel) (fun _ _ _ h => h) (Or.inl ⟨by rfl, ?_⟩) hb1 ?_
      case refine_2 =>
        intro w' hSw
        skip
        go_simp
        try (with_reducible rfl)
      try simp only [Act.put, List.setIfInBounds_toArray, List.set_cons_zero, List.set_cons_succ]
      refine wpE_done (by decide +kernel) ?_
      have HB5 := Lib.hid (HB.out.trans (hb1.mono HB.out.size))
      clear x0 x1 x2 y0 y1 y2 hb0 hb1 CX HXW
      go_wp2
      go_roundw
      case rel => exact ⟨k + 1, by go_num, hlt, HB5.out⟩
      case measure => simp [intOf]; omega
    · obtain rfl : k = n := by omega
      have hlt2 : ¬ ((k : Int) < (k : Int)) := by omega
      go_wp2
      go_ret
      exact ⟨rfl, HB.out⟩
end Go.Proofs.Ythfolccofjaknaa
