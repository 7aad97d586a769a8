/- The reference's Negative, where the cycle is negative. -/
import Derived.Test.YtbmofagaammgmaaDho
namespace Go.Proofs.Ytbmofagaammgmaa
open Go.ChangeShapes Go.WideShapes Go.ChangeAt Go.RowKit Go.ChangeMaps

def sumF (W : Nat → Int) : Nat → Int
  | 0 => 0
  | t + 1 => sumF W t + W t
theorem sumF_bd {W : Nat → Int} (h : ∀ t, -1125899906842624 ≤ W t ∧ W t ≤ 1125899906842624) : ∀ k : Nat, -((k : Int) * 1125899906842624) ≤ sumF W k ∧ sumF W k ≤ (k : Int) * 1125899906842624
  | 0 => by simp [sumF]
  | k + 1 => by
    have h1 := sumF_bd h k
    have h2 := h k
    show -(((k + 1 : Nat) : Int) * 1125899906842624) ≤ sumF W k + W k ∧ sumF W k + W k ≤ ((k + 1 : Nat) : Int) * 1125899906842624
    omega
set_option maxRecDepth 100000 in
set_option maxHeartbeats 4000000 in
theorem Negative_true (w : World) (A : Option Addr) (m c0 : Nat) (R : List Rb) (h : Rbs w A m R) (hm : m ≤ 1000) (A2 : Option Addr) (k c2 : Nat) (C : List Int) (h2 : At w A2 k 1 (ic .i64 C)) (hk1 : 1 ≤ k) (hk : k ≤ 1000) (e W : Nat → Int)
    (hC : ∀ t, t < k → ∃ p : Nat, C[t]? = some (p : Int) ∧ R[p]? = some ⟨e t, e (t + 1), W t⟩) (he : e k = e 0) (hinj : ∀ a b, a < b → b < k → e a ≠ e b) (hW : ∀ t, -1125899906842624 ≤ W t ∧ W t ≤ 1125899906842624) (hsum : sumF W k < 0) :
    Calls Try.prog 21 #[.slice A m c0, .slice A2 k c2] w fun e w' => e = .returned (.bool true) ∧ Below w.heap.size w w' := by
  have HR := Lib.hid h
  have HLR := h.len
  have HA := Lib.hid h.at
  have HA2 := Lib.hid h2.2
  have HCC := Lib.hid hC
  have HE := Lib.hid he
  have HINJ := Lib.hid hinj
  have HSB := Lib.hid (fun t => sumF_bd hW t)
  have HW := Lib.hid hW
  have HSUM := Lib.hid hsum
  have hCl : C.length = k := by have := h2.1; rw [ic_len] at this; omega
  obtain ⟨bC, oC, rfl, hbC, hcC⟩ := HA2.out (by omega)
  have hm1 : 0 < m := by
    obtain ⟨p, -, q⟩ := hC 0 (by omega)
    have := (List.getElem?_eq_some_iff.1 q).1
    omega
  obtain ⟨bA, off, rfl, hbA, hcA⟩ := HA.out hm1
  /- what a position holds, in any later world -/
  have HPOS := Lib.hid (show ∀ t, t < k → ∃ p : Nat, p < m ∧ ∀ w', Below w.heap.size w w' → w'.cell? ⟨bC, oC + t, none⟩ = some (.int .i64 (p : Int)) ∧ w'.cell? ⟨bA, off + p * 3, none⟩ = some (.int .i64 (e t)) ∧ w'.cell? ⟨bA, off + p * 3 + 1, none⟩ = some (.int .i64 (e (t + 1))) ∧ w'.cell? ⟨bA, off + p * 3 + 2, none⟩ = some (.int .i64 (W t)) from fun t ht => by
    obtain ⟨p, q1, q2⟩ := hC t ht
    obtain ⟨hp, q3⟩ := List.getElem?_eq_some_iff.1 q2
    refine ⟨p, by omega, fun w' hw => ?_⟩
    have g := hcA w' hw p hp
    rw [q3] at g
    refine ⟨keepcell hw (hcC t _ ?_), g.1, g.2.1, g.2.2⟩
    rw [ic_get .i64 C t (by omega)]
    simp [List.getD, q1])
  clear h h2 hC he hinj hW hsum hcA hcC hbA hbC HA HA2
  have hk0 : ¬ ((k : Int) = 0) := by omega
  have hk0' : ((k : Int) == 0) = false := by simpa using hk0
  go_enter Try.func21, Try.ntmps21
  go_wp2
  go_loopw [6] (fun s6 wr => ∃ t : Nat, s6 = .int .i64 (t : Int) ∧ t ≤ k ∧ wr = w) (fun s6 _ => k - (intOf s6).toNat)
  case atStart => exact ⟨0, rfl, Nat.zero_le _, rfl⟩
  case round =>
    obtain ⟨t, rfl, htk, hwr⟩ := hrel
    replace hwr := hwr.symm
    subst hwr
    by_cases hlt : t < k
    · have hti : (t : Int) < (k : Int) := by omega
      have ht0 : (0 : Int) ≤ (t : Int) := by omega
      obtain ⟨p, hp, hc⟩ := HPOS.out t hlt
      obtain ⟨u0, -⟩ := hc w (Below.refl _ _)
      clear hc
      have p1 : ¬ ((p : Int) < 0) := by omega
      have p2 : ¬ ((p : Int) ≥ (m : Int)) := by omega
      go_wp2
      go_roundw
      case rel => exact ⟨t + 1, by go_num, hlt, trivial⟩
      case measure => simp [intOf]; omega
    · obtain rfl : t = k := by omega
      have hlt2 : ¬ ((t : Int) < (t : Int)) := by omega
      go_wp2
      go_loopw [5, 7] (fun s5 s7 wr => ∃ i : Nat, s7 = .int .i64 (i : Int) ∧ s5 = .int .i64 (sumF W i) ∧ i ≤ t ∧ Below w.heap.size w wr) (fun _ s7 _ => t - (intOf s7).toNat)
      case atStart => exact ⟨0, rfl, rfl, Nat.zero_le _, Below.refl _ _⟩
      case round =>
        obtain ⟨i, rfl, rfl, hik, hB⟩ := hrel
        have HB := Lib.hid hB
        clear hB
        generalize wr = W0 at *
        by_cases hli : i < t
        · have hii : (i : Int) < (t : Int) := by omega
          have hi0 : (0 : Int) ≤ (i : Int) := by omega
          obtain ⟨p, hp, hc⟩ := HPOS.out i hli
          obtain ⟨i2, hi2⟩ : ∃ i2, (i + 1) % t = i2 := ⟨_, rfl⟩
          have hi2t : i2 < t := by rw [← hi2]; exact Nat.mod_lt _ (by omega)
          have he2 : e i2 = e (i + 1) := by
            by_cases hlast : i + 1 < t
            · rw [← hi2, Nat.mod_eq_of_lt hlast]
            · have : i + 1 = t := by omega
              rw [← hi2, this, Nat.mod_self, HE.out]
          have HE2 := Lib.hid he2
          clear he2
          have hrem : ((i : Int) + 1).tmod (t : Int) = (i2 : Int) := by rw [← hi2]; rfl
          obtain ⟨p2, hp2, hc2⟩ := HPOS.out i2 hi2t
          obtain ⟨u0, v0, v1, v2⟩ := hc W0 HB.out
          have hw1 : IntKind.i64.wrap ((i : Int) + 1) = (i : Int) + 1 := IntWalk.i64_in _ (by omega)
          have hw2 : IntKind.i64.wrap (i2 : Int) = (i2 : Int) := IntWalk.i64_in _ (by omega)
          have hi20 : (0 : Int) ≤ (i2 : Int) := by omega
          have hi2i : (i2 : Int) < (t : Int) := by omega
          have hp0 : (0 : Int) ≤ (p : Int) := by omega
          have hpm : (p : Int) < (m : Int) := by omega
          have hp20 : (0 : Int) ≤ (p2 : Int) := by omega
          have hp2m : (p2 : Int) < (m : Int) := by omega
          obtain ⟨kb, hkb⟩ : ∃ kb, kb = W0.heap.size := ⟨_, rfl⟩
          obtain ⟨W1, hW1⟩ : ∃ W1, W1 = W0.alloc (.cells #[.int .i64 (e i : Int), .int .i64 (e (i + 1) : Int), .int .i64 (W i)] 41) := ⟨_, rfl⟩
          have hb1 : Below W0.heap.size W0 W1 := by rw [hW1]; exact (Below.refl _ _).alloc (Nat.le_refl _) _
          have KB1 := Lib.hid (show Blk W1 kb 41 #[.int .i64 (e i : Int), .int .i64 (e (i + 1) : Int), .int .i64 (W i)] by rw [hW1]; exact Blk.new_ hkb rfl)
          have HB1 := Lib.hid (HB.out.trans (hb1.mono HB.out.size))
          have HC2 := Lib.hid hc2
          clear hb1 hc hc2 hi2
          go_upto_region 13 with fail
          rw [← hkb, ← hW1]
          clear hkb hW1 u0 v0 v1 v2
          obtain ⟨u0, v0, v1, v2⟩ := HC2.out W1 HB1.out
          obtain ⟨kc, hkc⟩ : ∃ kc, kc = W1.heap.size := ⟨_, rfl⟩
          obtain ⟨W2, hW2⟩ : ∃ W2, W2 = W1.alloc (.cells #[.int .i64 (e i2 : Int), .int .i64 (e (i2 + 1) : Int), .int .i64 (W i2)] 41) := ⟨_, rfl⟩
          have hb2 : Below W1.heap.size W1 W2 := by rw [hW2]; exact (Below.refl _ _).alloc (Nat.le_refl _) _
          have KB2 := Lib.hid (KB1.out.below hb2)
          have KC2 := Lib.hid (show Blk W2 kc 41 #[.int .i64 (e i2 : Int), .int .i64 (e (i2 + 1) : Int), .int .i64 (W i2)] by rw [hW2]; exact Blk.new_ hkc rfl)
          have HB2 := Lib.hid (HB1.out.trans (hb2.mono HB1.out.size))
          clear hb2 HB1 KB1 HC2
          go_upto_region 14 with fail
          rw [← hkc, ← hW2]
          clear hkc hW2 u0 v0 v1 v2
          have k1 : W2.cell? ⟨kb, 1, none⟩ = some (.int .i64 (e (i + 1) : Int)) := KB2.out.cell 1
          have k2 : W2.cell? ⟨kc, 0, none⟩ = some (.int .i64 (e (i + 1) : Int)) := by rw [← HE2.out]; exact KC2.out.cell 0
          go_wp2
          clear k1 k2
          go_loopw [10] (fun s10 wr => ∃ j : Nat, s10 = .int .i64 (j : Int) ∧ j ≤ i ∧ Below W2.heap.size W2 wr) (fun s10 _ => i - (intOf s10).toNat)
          case atStart => exact ⟨0, rfl, Nat.zero_le _, Below.refl _ _⟩
          case round =>
            obtain ⟨j, rfl, hji, hB⟩ := hrel
            have HB8 := Lib.hid (HB2.out.trans (hB.mono HB2.out.size))
            have KB8 := Lib.hid (KB2.out.below hB)
            have HBB := Lib.hid hB
            clear hB
            by_cases hlj : j < i
            · have hjii : (j : Int) < (i : Int) := by omega
              have hjt : (j : Int) < (t : Int) := by omega
              have hj0 : (0 : Int) ≤ (j : Int) := by omega
              obtain ⟨pj, hpj, hcj⟩ := HPOS.out j (by omega)
              obtain ⟨u0, q0, -⟩ := hcj wr HB8.out
              have k0c : wr.cell? ⟨kb, 0, none⟩ = some (.int .i64 (e i : Int)) := KB8.out.cell 0
              have hne : ((e j : Int) == (e i : Int)) = false := by
                have := HINJ.out j i hlj hli
                simp only [beq_eq_false_iff_ne, ne_eq]
                omega
              have hpj0 : (0 : Int) ≤ (pj : Int) := by omega
              have hpjm : (pj : Int) < (m : Int) := by omega
              clear hcj
              go_upto_region 19 with fail
              have hb0 : Below wr.heap.size wr wr.drew := below_drew (Below.refl _ _)
              refine wp_region_mixE (fun w' => Below wr.heap.size wr w') (by kernel_rfl) ?_
              have HB9 := Lib.hid (HB8.out.trans (hb0.mono HB8.out.size))
              have hbn := hb0
              generalize wr.drew = y9 at hb0 hbn HB9 ⊢
              refine wpE_take (i := 0) (oi := ⟨some 68, _, _, _, _, _⟩) (v := ?_) rfl (by decide +kernel) (by decide +kernel) (by decide +kernel) (fun _ _ _ h => h) (Or.inl ⟨by rfl, ?_⟩) hb0 ?_
              case refine_2 =>
                intro w' hSw
                have u0' := keepcell hSw u0
                have q0' := keepcell hSw q0
                have k0c' := keepcell hSw k0c
                go_simp
                try (with_reducible rfl)
              try simp only [Act.put, List.setIfInBounds_toArray, List.set_cons_zero, List.set_cons_succ]
              refine wpE_take (i := 1) (oi := ⟨some 69, _, _, _, _, _⟩) (v := ?_) rfl (by decide +kernel) (by decide +kernel) (by decide +kernel) (fun _ _ _ h => h) (Or.inl ⟨by rfl, ?_⟩) hb0 ?_
              case refine_2 =>
                intro w' hSw
                have u0' := keepcell hSw u0
                have q0' := keepcell hSw q0
                have k0c' := keepcell hSw k0c
                go_simp
                try (with_reducible rfl)
              try simp only [Act.put, List.setIfInBounds_toArray, List.set_cons_zero, List.set_cons_succ]
              refine wpE_take (i := 2) (oi := ⟨some 70, _, _, _, _, _⟩) (v := ?_) rfl (by decide +kernel) (by decide +kernel) (by decide +kernel) (fun _ _ _ h => h) (Or.inl ⟨by rfl, ?_⟩) hb0 ?_
              case refine_2 =>
                intro w' hSw
                have u0' := keepcell hSw u0
                have q0' := keepcell hSw q0
                have k0c' := keepcell hSw k0c
                go_simp
                try (with_reducible rfl)
              try simp only [Act.put, List.setIfInBounds_toArray, List.set_cons_zero, List.set_cons_succ]
              refine wpE_take (i := 3) (oi := ⟨some 71, _, _, _, _, _⟩) (v := ?_) rfl (by decide +kernel) (by decide +kernel) (by decide +kernel) (fun _ _ _ h => h) (Or.inl ⟨by rfl, ?_⟩) hb0 ?_
              case refine_2 =>
                intro w' hSw
                have u0' := keepcell hSw u0
                have q0' := keepcell hSw q0
                have k0c' := keepcell hSw k0c
                go_simp
                try (with_reducible rfl)
              try simp only [Act.put, List.setIfInBounds_toArray, List.set_cons_zero, List.set_cons_succ]
              refine wpE_take (i := 4) (oi := ⟨some 72, _, _, _, _, _⟩) (v := ?_) rfl (by decide +kernel) (by decide +kernel) (by decide +kernel) (fun _ _ _ h => h) (Or.inl ⟨by rfl, ?_⟩) hb0 ?_
              case refine_2 =>
                intro w' hSw
                have u0' := keepcell hSw u0
                have q0' := keepcell hSw q0
                have k0c' := keepcell hSw k0c
                go_simp
                try (with_reducible rfl)
              try simp only [Act.put, List.setIfInBounds_toArray, List.set_cons_zero, List.set_cons_succ]
              refine wpE_take (i := 5) (oi := ⟨some 73, _, _, _, _, _⟩) (v := ?_) rfl (by decide +kernel) (by decide +kernel) (by decide +kernel) (fun _ _ _ h => h) (Or.inl ⟨by rfl, ?_⟩) hb0 ?_
              case refine_2 =>
                intro w' hSw
                have u0' := keepcell hSw u0
                have q0' := keepcell hSw q0
                have k0c' := keepcell hSw k0c
                go_simp
                try (with_reducible rfl)
              try simp only [Act.put, List.setIfInBounds_toArray, List.set_cons_zero, List.set_cons_succ]
              refine wpE_take (i := 6) (oi := ⟨some 74, _, _, _, _, _⟩) (v := ?_) rfl (by decide +kernel) (by decide +kernel) (by decide +kernel) (fun _ _ _ h => h) (Or.inl ⟨by rfl, ?_⟩) hb0 ?_
              case refine_2 =>
                intro w' hSw
                have u0' := keepcell hSw u0
                have q0' := keepcell hSw q0
                have k0c' := keepcell hSw k0c
                go_simp
                try (with_reducible rfl)
              try simp only [Act.put, List.setIfInBounds_toArray, List.set_cons_zero, List.set_cons_succ]
              refine wpE_take (i := 7) (oi := ⟨some 75, _, _, _, _, _⟩) (v := ?_) rfl (by decide +kernel) (by decide +kernel) (by decide +kernel) (fun _ _ _ h => h) (Or.inl ⟨by rfl, ?_⟩) hb0 ?_
              case refine_2 =>
                intro w' hSw
                have u0' := keepcell hSw u0
                have q0' := keepcell hSw q0
                have k0c' := keepcell hSw k0c
                go_simp
                try (with_reducible rfl)
              try simp only [Act.put, List.setIfInBounds_toArray, List.set_cons_zero, List.set_cons_succ]
              refine wpE_take (i := 8) (oi := ⟨some 76, _, _, _, _, _⟩) (v := ?_) rfl (by decide +kernel) (by decide +kernel) (by decide +kernel) (fun _ _ _ h => h) (Or.inl ⟨by rfl, ?_⟩) hb0 ?_
              case refine_2 =>
                intro w' hSw
                have u0' := keepcell hSw u0
                have q0' := keepcell hSw q0
                have k0c' := keepcell hSw k0c
                go_simp
                try (with_reducible rfl)
              try simp only [Act.put, List.setIfInBounds_toArray, List.set_cons_zero, List.set_cons_succ]
              refine wpE_take (i := 9) (oi := ⟨some 77, _, _, _, _, _⟩) (v := ?_) rfl (by decide +kernel) (by decide +kernel) (by decide +kernel) (fun _ _ _ h => h) (Or.inl ⟨by rfl, ?_⟩) hb0 ?_
              case refine_2 =>
                intro w' hSw
                have u0' := keepcell hSw u0
                have q0' := keepcell hSw q0
                have k0c' := keepcell hSw k0c
                go_simp
                try (with_reducible rfl)
              try simp only [Act.put, List.setIfInBounds_toArray, List.set_cons_zero, List.set_cons_succ]
              refine wpE_take (i := 10) (oi := ⟨some 78, _, _, _, _, _⟩) (v := .bool false) rfl (by decide +kernel) (by decide +kernel) (by decide +kernel) (fun _ _ _ h => h) (Or.inl ⟨by rfl, ?_⟩) hb0 ?_
              case refine_1 =>
                intro w' hSw
                go_simp
                try (with_reducible rfl)
              try simp only [Act.put, List.setIfInBounds_toArray, List.set_cons_zero, List.set_cons_succ]
              refine wpE_done (by decide +kernel) ?_
              clear u0 q0 k0c
              go_wp2
              go_roundw
              case rel => exact ⟨j + 1, by go_num, hlj, HBB.out.trans (hbn.mono HBB.out.size)⟩
              case measure => simp [intOf]; omega
            · obtain rfl : j = i := by omega
              have hlj2 : ¬ ((j : Int) < (j : Int)) := by omega
              have k2 : wr.cell? ⟨kb, 2, none⟩ = some (.int .i64 (W j)) := KB8.out.cell 2
              have hs1 := HSB.out j
              have hs2 := HW.out j
              have HSS := Lib.hid (show sumF W (j + 1) = sumF W j + W j from rfl)
              have hws : IntKind.i64.wrap (sumF W j + W j) = sumF W j + W j := IntWalk.i64_in _ (by omega)
              clear hs1 hs2
              go_wp2
              go_roundw
              case rel => exact ⟨j + 1, by go_num, by rw [HSS.out], hli, HB8.out⟩
              case measure => simp [intOf]; omega
        · obtain rfl : i = t := by omega
          have hli2 : ¬ ((i : Int) < (i : Int)) := by omega
          have hsn := HSUM.out
          go_wp2
          go_ret
          exact ⟨by simp [hsn], HB.out⟩
end Go.Proofs.Ytbmofagaammgmaa
