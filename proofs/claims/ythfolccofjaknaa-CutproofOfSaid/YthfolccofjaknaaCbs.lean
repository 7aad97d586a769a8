/- What the laws call small. -/
import Derived.Test.YthfolccofjaknaaCaw
namespace Go.Proofs.Ythfolccofjaknaa
open Go.ChangeShapes Go.WideShapes Go.ChangeAt Go.RowKit Go.ChangeMaps

def smB (L : List Bg) : Bool := L.all (fun b => decide (b.n ≤ 4)) && decide (L.length ≤ 6)
def smQ (Q : List Iq) : Bool := Q.all (fun q => smB q.L && decide (q.b.n ≤ 4)) && decide (Q.length ≤ 12)
def smU (U : List Us) (d : Bg) : Bool := U.all (fun u => decide (u.b.n ≤ 4)) && (decide (U.length ≤ 12) && decide (d.n ≤ 4))
theorem Bg.ok.small {w : World} {N : Nat} {b : Bg} (h : b.ok w N) (hn : b.n ≤ 4) : b.ok w 4 := by
  obtain ⟨neg, A, n, c, D, e, h1, h2, h3, h4⟩ := h
  unfold Bg.val at e
  injection e with e
  injection e with e
  simp only [List.cons.injEq, Value.bool.injEq, Value.slice.injEq, and_true] at e
  obtain ⟨rfl, rfl, rfl, rfl⟩ := e
  exact ⟨_, _, _, _, D, rfl, h1, h2, hn, h4⟩
set_option maxRecDepth 100000 in
set_option maxHeartbeats 2000000 in
theorem bigs_any (w : World) (A : Option Addr) (n c : Nat) (L : List Bg) (N : Nat) (h : Bigs w A n L N) : Calls Try.prog 50 #[.slice A n c] w fun e w' => e = .returned (.bool (smB L)) ∧ Below w.heap.size w w' := by
  obtain ⟨r, hr⟩ : ∃ r, smB L = r := ⟨_, rfl⟩
  rw [hr]
  have hn : n ≤ 9223372036854775807 := h.2.1
  have HL := Lib.hid h.len
  have HE := Lib.hid (show r = (L.all (fun b => decide (b.n ≤ 4)) && decide (n ≤ 6)) by rw [← hr, ← h.len]; rfl)
  have HA := Lib.hid h.at
  clear h hr
  go_enter Try.func50, Try.ntmps50
  go_wp2
  go_loopw [3] (fun s3 wr => ∃ k : Nat, s3 = .int .i64 (k : Int) ∧ k ≤ n ∧ (L.take k).all (fun b => decide (b.n ≤ 4)) = true ∧ Below w.heap.size w wr) (fun s3 _ => n - (intOf s3).toNat)
  case atStart => exact ⟨0, rfl, Nat.zero_le _, rfl, Below.refl _ _⟩
  case round =>
    obtain ⟨k, rfl, hkn, hall, hB⟩ := hrel
    generalize wr = X0 at *
    have HALL := Lib.hid hall
    have HB := Lib.hid hB
    clear hall hB
    by_cases hlt : k < n
    · have hki : (k : Int) < (n : Int) := by omega
      have hk0 : (0 : Int) ≤ (k : Int) := by omega
      have hkL : k < L.length := by rw [HL.out]; exact hlt
      obtain ⟨bA, off, rfl, -, hc⟩ := HA.out (by omega)
      obtain ⟨d0, d1⟩ := hc X0 HB.out k hkL
      have HST := Lib.hid (show (L.take (k + 1)).all (fun b => decide (b.n ≤ 4)) = decide (L[k].n ≤ 4) by rw [List.take_succ_eq_append_getElem hkL, List.all_append, HALL.out]; simp)
      have HBAD := Lib.hid (show ¬ L[k].n ≤ 4 → r = false from fun hz => by
        rw [HE.out, List.all_eq_false.2 ⟨L[k], List.getElem_mem hkL, by simpa using hz⟩, Bool.false_and])
      clear hc
      generalize L[k] = x at *
      by_cases hz : x.n ≤ 4
      · have HST := Lib.hid (HST.out.trans (by rw [decide_eq_true hz]))
        have h4 : ¬ ((x.n : Int) > 4) := by omega
        clear hz
        go_wp2
        go_roundw
        case rel => exact ⟨k + 1, by go_num, hlt, HST.out, HB.out⟩
        case measure => simp [intOf]; omega
      · have HR := Lib.hid (HBAD.out hz)
        have h4 : (x.n : Int) > 4 := by omega
        clear hz
        go_wp2
        go_ret
        exact ⟨by rw [HR.out]; rfl, HB.out⟩
    · obtain rfl : k = n := by omega
      have hlt2 : ¬ ((k : Int) < (k : Int)) := by omega
      have HR := Lib.hid (show r = decide (k ≤ 6) by
        have := HALL.out
        rw [List.take_of_length_le (by rw [HL.out]; exact Nat.le_refl _)] at this
        rw [HE.out, this, Bool.true_and])
      by_cases h6 : k ≤ 6
      · have h6i : (k : Int) ≤ 6 := by omega
        have HR := Lib.hid (HR.out.trans (decide_eq_true h6))
        clear h6
        go_wp2
        go_ret
        exact ⟨by rw [HR.out]; rfl, HB.out⟩
      · have h6i : ¬ ((k : Int) ≤ 6) := by omega
        have HR := Lib.hid (HR.out.trans (decide_eq_false h6))
        clear h6
        go_wp2
        go_ret
        exact ⟨by rw [HR.out]; rfl, HB.out⟩
set_option maxRecDepth 100000 in
set_option maxHeartbeats 2000000 in
theorem Small_any (w : World) (A : Option Addr) (n c : Nat) (Q : List Iq) (N : Nat) (h : Ineqs w A n Q N) : Calls Try.prog 17 #[.slice A n c] w fun e w' => e = .returned (.bool (smQ Q)) ∧ Below w.heap.size w w' := by
  obtain ⟨r, hr⟩ : ∃ r, smQ Q = r := ⟨_, rfl⟩
  rw [hr]
  have hn : n ≤ 9223372036854775807 := h.2.1
  have HL := Lib.hid h.len
  have HE := Lib.hid (show r = (Q.all (fun q => smB q.L && decide (q.b.n ≤ 4)) && decide (n ≤ 12)) by rw [← hr, ← h.len]; rfl)
  have HO := Lib.hid h.2.2
  have HAT := Lib.hid h.1
  clear h hr
  go_enter Try.func17, Try.ntmps17
  go_wp2
  go_loopw [3] (fun s3 wr => ∃ k : Nat, s3 = .int .i64 (k : Int) ∧ k ≤ n ∧ (Q.take k).all (fun q => smB q.L && decide (q.b.n ≤ 4)) = true ∧ Below w.heap.size w wr) (fun s3 _ => n - (intOf s3).toNat)
  case atStart => exact ⟨0, rfl, Nat.zero_le _, rfl, Below.refl _ _⟩
  case round =>
    obtain ⟨k, rfl, hkn, hall, hB⟩ := hrel
    generalize wr = X0 at *
    have HALL := Lib.hid hall
    have HB := Lib.hid hB
    clear hall hB
    by_cases hlt : k < n
    · have hki : (k : Int) < (n : Int) := by omega
      have hk0 : (0 : Int) ≤ (k : Int) := by omega
      have hkL : k < Q.length := by rw [HL.out]; exact hlt
      obtain ⟨bA, off, rfl, -, hc⟩ := at3 (fun _ => rfl) HAT.out (show 0 < n by omega)
      obtain ⟨d0, d1, d2⟩ := hc X0 HB.out k hkL _ _ _ rfl
      have HC := Lib.hid (fun W hW => (hc W hW k hkL _ _ _ rfl).2.2)
      have hok := HO.out _ (List.getElem_mem hkL)
      have HST := Lib.hid (show (Q.take (k + 1)).all (fun q => smB q.L && decide (q.b.n ≤ 4)) = (smB Q[k].L && decide (Q[k].b.n ≤ 4)) by rw [List.take_succ_eq_append_getElem hkL, List.all_append, HALL.out]; simp)
      have HBAD := Lib.hid (show (smB Q[k].L && decide (Q[k].b.n ≤ 4)) = false → r = false from fun hz => by
        rw [HE.out, List.all_eq_false.2 ⟨Q[k], List.getElem_mem hkL, by rw [hz]; decide⟩, Bool.false_and])
      clear hc
      generalize Q[k] = x at *
      have CS := Lib.hid (bigs_any X0 x.A x.n x.c x.L N (hok.1.below HB.out))
      clear hok
      obtain ⟨sb, hsb⟩ : ∃ y, smB x.L = y := ⟨_, rfl⟩
      rw [hsb] at CS HST HBAD
      clear hsb
      go_wp2_with fail
      clear d0 d1 d2
      refine CS.out.mono ?_
      rintro e3 w3 ⟨rfl, hb3⟩
      have HB3 := Lib.hid (HB.out.trans (hb3.mono HB.out.size))
      clear hb3 CS
      cases sb with
      | false =>
        have HR := Lib.hid (HBAD.out rfl)
        go_wp2
        go_ret
        exact ⟨by rw [HR.out]; rfl, HB3.out⟩
      | true =>
        have d2 := HC.out w3 HB3.out
        by_cases hz : x.b.n ≤ 4
        · have HST := Lib.hid (HST.out.trans (by rw [decide_eq_true hz]))
          have h4 : ¬ ((x.b.n : Int) > 4) := by omega
          clear hz
          go_wp2
          go_roundw
          case rel => exact ⟨k + 1, by go_num, hlt, HST.out, HB3.out⟩
          case measure => simp [intOf]; omega
        · have HR := Lib.hid (HBAD.out (by rw [decide_eq_false hz]; rfl))
          have h4 : (x.b.n : Int) > 4 := by omega
          clear hz
          go_wp2
          go_ret
          exact ⟨by rw [HR.out]; rfl, HB3.out⟩
    · obtain rfl : k = n := by omega
      have hlt2 : ¬ ((k : Int) < (k : Int)) := by omega
      have HR := Lib.hid (show r = decide (k ≤ 12) by
        have := HALL.out
        rw [List.take_of_length_le (by rw [HL.out]; exact Nat.le_refl _)] at this
        rw [HE.out, this, Bool.true_and])
      by_cases h6 : k ≤ 12
      · have h6i : (k : Int) ≤ 12 := by omega
        have HR := Lib.hid (HR.out.trans (decide_eq_true h6))
        clear h6
        go_wp2
        go_ret
        exact ⟨by rw [HR.out]; rfl, HB.out⟩
      · have h6i : ¬ ((k : Int) ≤ 12) := by omega
        have HR := Lib.hid (HR.out.trans (decide_eq_false h6))
        clear h6
        go_wp2
        go_ret
        exact ⟨by rw [HR.out]; rfl, HB.out⟩
set_option maxRecDepth 100000 in
set_option maxHeartbeats 2000000 in
theorem SmallStep_any (w : World) (s : Sp) (N : Nat) (h : s.ok w N) : Calls Try.prog 18 #[s.val] w fun e w' => e = .returned (.bool (smU s.U s.d)) ∧ Below w.heap.size w w' := by
  obtain ⟨A, n, c, U, d⟩ := s
  obtain ⟨r, hr⟩ : ∃ r, smU U d = r := ⟨_, rfl⟩
  dsimp only
  rw [hr]
  have hn : n ≤ 9223372036854775807 := h.1.2.1
  have hl : U.length = n := h.1.len
  have HL := Lib.hid hl
  have HE := Lib.hid (show r = (U.all (fun u => decide (u.b.n ≤ 4)) && (decide (n ≤ 12) && decide (d.n ≤ 4))) by rw [← hr, ← hl]; rfl)
  have HAT := Lib.hid h.1.1
  clear h hr hl
  unfold Sp.val
  dsimp only at *
  obtain ⟨kx, hkx⟩ : ∃ kx, kx = w.heap.size := ⟨_, rfl⟩
  obtain ⟨W1, hW1⟩ : ∃ W1, W1 = w.alloc (.cells #[.slice A n c, .bool d.neg, .slice d.A d.n d.c] 39) := ⟨_, rfl⟩
  have HB1 := Lib.hid (show Below w.heap.size w W1 by rw [hW1]; exact (Below.refl _ _).alloc (Nat.le_refl _) _)
  have KX := Lib.hid (show Blk W1 kx 39 #[.slice A n c, .bool d.neg, .slice d.A d.n d.c] by rw [hW1]; exact Blk.new_ hkx rfl)
  go_enter Try.func18, Try.ntmps18
  go_upto_region 1 with fail
  rw [← hkx, ← hW1]
  clear hkx hW1
  have c0 : W1.cell? ⟨kx, 0, none⟩ = some (.slice A n c) := KX.out.cell 0
  have c2 : W1.cell? ⟨kx, 2, none⟩ = some (.slice d.A d.n d.c) := KX.out.cell 2
  go_wp2
  go_loopw [3] (fun s3 wr => ∃ k : Nat, s3 = .int .i64 (k : Int) ∧ k ≤ n ∧ (U.take k).all (fun u => decide (u.b.n ≤ 4)) = true ∧ wr = W1) (fun s3 _ => n - (intOf s3).toNat)
  case atStart => exact ⟨0, rfl, Nat.zero_le _, rfl, rfl⟩
  case round =>
    obtain ⟨k, rfl, hkn, hall, hB⟩ := hrel
    replace hB := hB.symm
    subst hB
    have HALL := Lib.hid hall
    clear hall
    by_cases hlt : k < n
    · have hki : (k : Int) < (n : Int) := by omega
      have hk0 : (0 : Int) ≤ (k : Int) := by omega
      have hkL : k < U.length := by rw [HL.out]; exact hlt
      obtain ⟨bA, off, rfl, -, hc⟩ := at3 (fun _ => rfl) HAT.out (show 0 < n by omega)
      obtain ⟨d0, d1, d2⟩ := hc W1 HB1.out k hkL _ _ _ rfl
      have HST := Lib.hid (show (U.take (k + 1)).all (fun u => decide (u.b.n ≤ 4)) = decide (U[k].b.n ≤ 4) by rw [List.take_succ_eq_append_getElem hkL, List.all_append, HALL.out]; simp)
      have HBAD := Lib.hid (show ¬ U[k].b.n ≤ 4 → r = false from fun hz => by
        rw [HE.out, List.all_eq_false.2 ⟨U[k], List.getElem_mem hkL, by simpa using hz⟩, Bool.false_and])
      clear hc
      generalize U[k] = x at *
      by_cases hz : x.b.n ≤ 4
      · have HST := Lib.hid (HST.out.trans (by rw [decide_eq_true hz]))
        have h4 : ¬ ((x.b.n : Int) > 4) := by omega
        clear hz
        go_wp2
        go_roundw
        case rel => exact ⟨k + 1, by go_num, hlt, HST.out, by trivial⟩
        case measure => simp [intOf]; omega
      · have HR := Lib.hid (HBAD.out hz)
        have h4 : (x.b.n : Int) > 4 := by omega
        clear hz
        go_wp2
        go_ret
        exact ⟨by rw [HR.out]; rfl, HB1.out⟩
    · obtain rfl : k = n := by omega
      have hlt2 : ¬ ((k : Int) < (k : Int)) := by omega
      have HR := Lib.hid (show r = (decide (k ≤ 12) && decide (d.n ≤ 4)) by
        have := HALL.out
        rw [List.take_of_length_le (by rw [HL.out]; exact Nat.le_refl _)] at this
        rw [HE.out, this, Bool.true_and])
      by_cases h6 : k ≤ 12
      · have h6i : (k : Int) ≤ 12 := by omega
        by_cases h7 : d.n ≤ 4
        · have h7i : (d.n : Int) ≤ 4 := by omega
          have HR := Lib.hid (HR.out.trans (by rw [decide_eq_true h6, decide_eq_true h7]; rfl : _ = true))
          clear h6 h7
          go_wp2
          go_ret
          exact ⟨by rw [HR.out]; rfl, HB1.out⟩
        · have h7i : ¬ ((d.n : Int) ≤ 4) := by omega
          have HR := Lib.hid (HR.out.trans (by rw [decide_eq_true h6, decide_eq_false h7]; rfl : _ = false))
          clear h6 h7
          go_wp2
          go_ret
          exact ⟨by rw [HR.out]; rfl, HB1.out⟩
      · have h6i : ¬ ((k : Int) ≤ 12) := by omega
        have HR := Lib.hid (HR.out.trans (by rw [decide_eq_false h6]; rfl : _ = false))
        clear h6
        go_wp2
        go_ret
        exact ⟨by rw [HR.out]; rfl, HB1.out⟩
end Go.Proofs.Ythfolccofjaknaa
