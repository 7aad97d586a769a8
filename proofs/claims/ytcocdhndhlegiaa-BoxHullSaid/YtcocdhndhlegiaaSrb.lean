/- The reference's least box that contains two boxes of as many sides. -/
import Derived.Test.YtcocdhndhlegiaaSrh
import Derived.Test.YtcocdhndhlegiaaShb
import Derived.Test.YtcocdhndhlegiaaMix
import Derived.BigRegion
import Derived.Deep.CutRange
namespace Go.Proofs.Ytcocdhndhlegiaa
open Go.ChangeShapes Go.WideShapes Go.ChangeAt Go.RowKit Go.ChangeMaps

theorem store_step {W : World} {g : Nat} {T : TypeId} {cs : Array Value} (h : Blk W g T cs) (j : Nat) (v : Value) : Blk (W.setCell ⟨g, j, none⟩ v) g T (cs.setIfInBounds j v) ∧ (∀ g' T' cs', g' ≠ g → Blk W g' T' cs' → Blk (W.setCell ⟨g, j, none⟩ v) g' T' cs') ∧ (∀ B w0, Below B w0 W → B ≤ g → Below B w0 (W.setCell ⟨g, j, none⟩ v)) := by
  have gs := grown_set W g j v
  exact ⟨Joins.block_setCell h _, fun g' T' cs' hne hb => (gs.block _ hb.lt (by simp; omega)).trans hb, fun B w0 hb hg => hb.grown gs (Nat.le_trans hg (Nat.le_of_lt h.lt)) (fun j hj => by injection hj with hj; omega)⟩
def rM (s t : Sd) : Sd := if s.ot = true then if t.ot = true then ⟨s.nu || t.nu, true, if t.lo < s.lo then t.lo else s.lo, if s.hi < t.hi then t.hi else s.hi, tmn s.fr t.fr, tmx s.to t.to⟩ else ⟨s.nu || t.nu, true, s.lo, s.hi, s.fr, s.to⟩ else ⟨s.nu || t.nu, t.ot, t.lo, t.hi, t.fr, t.to⟩
theorem rM_eq (s t : Sd) : withM s t = rM s t := by
  unfold withM rM
  cases hs : s.ot <;> cases ht : t.ot <;> simp [Bool.or_comm]
set_option maxRecDepth 100000 in
set_option maxHeartbeats 4000000 in
theorem RHull_both (t u : Int) (A : Option Addr) (n c : Nat) (R : List Sd) (A2 : Option Addr) (c2 : Nat) (S T : List Sd) (hT : T = hullL R S) (w : World) (h : Sds w A n R) (h2 : Sds w A2 n S) (hn : n ≤ 1000) (hz : ¬ n = 0) :
    Calls Try.prog 20 #[.agg #[.int .i64 t, .slice A n c], .agg #[.int .i64 u, .slice A2 n c2]] w fun e w' => ∃ A' c', e = .returned (.agg #[.int .i64 t, .slice A' n c']) ∧ Sds w' A' n T ∧ Below w.heap.size w w' := by
  obtain ⟨i0, hi, hz0, hz1, hz2⟩ := info_parts (show (Try.prog.info? 51).map (fun i => (i.zero, i.size, i.bytes)) = some (some zS, 6, 56) by kernel_rfl)
  have hzz : ((n : Int) == 0) = false := by simp; omega
  have HL := Lib.hid h.len
  have HM := Lib.hid h2.len
  have HN := Lib.hid (show T.length = n by rw [hT]; unfold hullL; rw [List.length_zipWith, h.len, h2.len, Nat.min_self])
  have HA := Lib.hid h.at
  have HA2 := Lib.hid h2.at
  have HTT := Lib.hid hT
  clear h h2 hT
  obtain ⟨W0, hW0⟩ : ∃ W0, W0 = ((((w.alloc (.cells #[.int .i64 t, .slice A n c] 24)).alloc (.cells #[.int .i64 u, .slice A2 n c2] 24)).alloc (.cells #[.int .i64 0, .slice none 0 0] 24)).alloc (.cells #[.int .i64 t, .slice none 0 0] 24)) := ⟨_, rfl⟩
  have HB0 := Lib.hid (show Below w.heap.size w W0 by rw [hW0]; exact ((((Below.refl _ w).alloc (Nat.le_refl _) _).alloc (by simp) _).alloc (by simp; omega) _).alloc (by simp; omega) _)
  have HXa := Lib.hid (show Blk W0 w.heap.size 24 #[.int .i64 t, .slice A n c] by rw [hW0]; exact (((Blk.new _ _ _).alloc _).alloc _).alloc _)
  have HXb := Lib.hid (show Blk W0 (w.heap.size + 1) 24 #[.int .i64 u, .slice A2 n c2] by rw [hW0]; exact ((Blk.new_ (by simp) rfl : Blk (((w.alloc _).alloc _)) _ _ _).alloc _).alloc _)
  have HZ1 := Lib.hid (show Blk W0 (w.heap.size + 2) 24 #[.int .i64 0, .slice none 0 0] by rw [hW0]; exact (Blk.new_ (by simp) rfl : Blk ((((w.alloc _).alloc _)).alloc _) _ _ _).alloc _)
  have HZ2 := Lib.hid (show Blk W0 (w.heap.size + 3) 24 #[.int .i64 t, .slice none 0 0] by rw [hW0]; exact Blk.new_ (by simp) rfl)
  have HS0 := Lib.hid (show W0.heap.size = w.heap.size + 4 by rw [hW0]; simp)
  go_enter Try.func20, Try.ntmps20
  go_wp2
  rw [← hW0]
  clear hW0
  go_loopw [6] (fun iv wr => ∃ (k : Nat) (v : Value), iv = .int .i64 (k : Int) ∧ k ≤ n ∧ Blk wr w.heap.size 24 #[.int .i64 t, .slice A n c] ∧ Blk wr (w.heap.size + 1) 24 #[.int .i64 u, .slice A2 n c2] ∧ Blk wr (w.heap.size + 2) 24 #[.int .i64 0, .slice none 0 0] ∧ Blk wr (w.heap.size + 3) 24 #[.int .i64 t, v] ∧ wr.ownsRow (w.heap.size + 4) 51 6 v k ((T.take k).flatMap Sd.cells) ∧ Below w.heap.size w wr) (fun iv _ => n - (intOf iv).toNat)
  case atStart => exact ⟨0, .slice none 0 0, rfl, Nat.zero_le _, HXa.out, HXb.out, HZ1.out, HZ2.out, World.ownsRow_nil _ _ _ _, HB0.out⟩
  case round =>
    obtain ⟨k, v, rfl, hkn, hXa, hY, hR, hK, hO, hB⟩ := hrel
    have HXA := Lib.hid hXa
    have HY := Lib.hid hY
    have HR := Lib.hid hR
    have HK := Lib.hid hK
    have HO := Lib.hid hO
    have HB := Lib.hid hB
    have q1 : wr.cell? ⟨w.heap.size, 1, none⟩ = some (.slice A n c) := hXa.cell 1
    have q2 : wr.cell? ⟨w.heap.size + 1, 1, none⟩ = some (.slice A2 n c2) := hY.cell 1
    have hrl : w.heap.size + 3 < wr.heap.size := hK.lt
    clear hXa hY hR hK hO hB
    by_cases hlt : k < n
    · have hki : (k : Int) < n := by omega
      obtain ⟨b, off, rfl, hbl, hc⟩ := HA.out (by omega)
      obtain ⟨b2, off2, rfl, hbl2, hcc⟩ := HA2.out (by omega)
      have hi1 : k < R.length := by rw [HL.out]; exact hlt
      have hi2 : k < S.length := by rw [HM.out]; exact hlt
      have hi3 : k < T.length := by rw [HN.out]; exact hlt
      obtain ⟨y0, y1, y2, y3, y4, y5⟩ := hc wr HB.out k hi1
      obtain ⟨z0, z1, z2, z3, z4, z5⟩ := hcc wr HB.out k hi2
      have HT := Lib.hid (take_flat T k hi3)
      have HV := Lib.hid (show T[k] = rM R[k] S[k] by rw [← rM_eq]; simp only [HTT.out, hullL, List.getElem_zipWith])
      rw [HV.out] at HT
      clear hc hcc HV
      generalize R[k] = x at *
      generalize S[k] = y at *
      obtain ⟨nu, ot, lo, hi', fr, tq⟩ := x
      obtain ⟨nu2, ot2, lo2, hi2', fr2, to2⟩ := y
      dsimp only at *
      have hbw : b < wr.heap.size := Nat.lt_of_lt_of_le hbl HB.out.size
      have hbw2 : b2 < wr.heap.size := Nat.lt_of_lt_of_le hbl2 HB.out.size
      have hw1 : w.heap.size < wr.heap.size := by omega
      have hw2 : w.heap.size + 1 < wr.heap.size := by omega
      go_upto_region 9 with fail
      go_cut [7, 8] from 23 to 116 (fun s7 s8 wx => ∃ g7 g8 : Nat, s7 = .pointer (some ⟨g7, 0, none⟩) ∧ s8 = .pointer (some ⟨g8, 0, none⟩) ∧ wr.heap.size ≤ g7 ∧ wr.heap.size ≤ g8 ∧ Blk wx g7 51 #[.bool nu, .bool ot, .int .i64 lo, .int .i64 hi', .string fr, .string tq] ∧ Blk wx g8 51 #[.bool nu2, .bool ot2, .int .i64 lo2, .int .i64 hi2', .string fr2, .string to2] ∧ Below wr.heap.size wr wx)
      case first =>
        go_region
        · go_wp2_with fail
          go_meet
          case rel => exact ⟨_, _, rfl, rfl, Nat.le_refl _, Nat.le_succ _, ((Blk.new _ _ _).alloc _).drew, (Blk.new_ (by simp) rfl : Blk ((wr.alloc _).alloc _) _ _ _).drew, below_drew ((((Below.refl _ wr).alloc (Nat.le_refl _) _)).alloc (by simp) _)⟩
        · go_wp2_with fail
          go_meet
          case rel => exact ⟨_, _, rfl, rfl, Nat.le_succ _, Nat.le_refl _, (Blk.new_ (by simp) rfl : Blk ((wr.alloc _).alloc _) _ _ _).drew, ((Blk.new _ _ _).alloc _).drew, below_drew ((((Below.refl _ wr).alloc (Nat.le_refl _) _)).alloc (by simp) _)⟩
      case rest =>
        obtain ⟨g7, g8, rfl, rfl, h7, h8, B7, B8, hW⟩ := hcut
        clear y0 y1 y2 y3 y4 y5 z0 z1 z2 z3 z4 z5 q1 q2 hw1 hw2 hbw hbw2
        have c70 : wc.cell? ⟨g7, 0, none⟩ = some (.bool nu) := B7.cell 0
        have c71 : wc.cell? ⟨g7, 1, none⟩ = some (.bool ot) := B7.cell 1
        have c72 : wc.cell? ⟨g7, 2, none⟩ = some (.int .i64 lo) := B7.cell 2
        have c73 : wc.cell? ⟨g7, 3, none⟩ = some (.int .i64 hi') := B7.cell 3
        have c74 : wc.cell? ⟨g7, 4, none⟩ = some (.string fr) := B7.cell 4
        have c75 : wc.cell? ⟨g7, 5, none⟩ = some (.string tq) := B7.cell 5
        have c80 : wc.cell? ⟨g8, 0, none⟩ = some (.bool nu2) := B8.cell 0
        have c81 : wc.cell? ⟨g8, 1, none⟩ = some (.bool ot2) := B8.cell 1
        have c82 : wc.cell? ⟨g8, 2, none⟩ = some (.int .i64 lo2) := B8.cell 2
        have c83 : wc.cell? ⟨g8, 3, none⟩ = some (.int .i64 hi2') := B8.cell 3
        have c84 : wc.cell? ⟨g8, 4, none⟩ = some (.string fr2) := B8.cell 4
        have c85 : wc.cell? ⟨g8, 5, none⟩ = some (.string to2) := B8.cell 5
        have l7 := B7.lt
        have l8 := B8.lt
        go_upto_region 10 with fail
        go_cut [9] from 23 to 116 (fun s9 wx => ∃ g9 : Nat, s9 = .pointer (some ⟨g9, 0, none⟩) ∧ wr.heap.size ≤ g9 ∧ g7 ≠ g9 ∧ g8 ≠ g9 ∧ Blk wx g7 51 #[.bool nu, .bool ot, .int .i64 lo, .int .i64 hi', .string fr, .string tq] ∧ Blk wx g8 51 #[.bool nu2, .bool ot2, .int .i64 lo2, .int .i64 hi2', .string fr2, .string to2] ∧ Blk wx g9 51 #[.bool (nu || nu2), .bool (ot || ot2), .int .i64 0, .int .i64 0, .string ⟨#[]⟩, .string ⟨#[]⟩] ∧ Below wr.heap.size wr wx)
        case first =>
          cases nu <;> cases ot <;> (go_wp2_with fail; go_meet; (case rel => exact ⟨_, rfl, hW.size, by omega, by omega, B7.alloc _, B8.alloc _, Blk.new _ _ _, hW.alloc hW.size _⟩))
        case rest =>
          obtain ⟨g9, rfl, h9, n7, n8, B7, B8, B9, hW⟩ := hcut
          clear c70 c71 c72 c73 c74 c75 c80 c81 c82 c83 c84 c85 l7 l8
          cases ot
          · have B9 : Blk wc g9 51 #[.bool (nu || nu2), .bool ot2, .int .i64 0, .int .i64 0, .string ⟨#[]⟩, .string ⟨#[]⟩] := B9
            have c71 : wc.cell? ⟨g7, 1, none⟩ = some (.bool false) := B7.cell 1
            have c81 : wc.cell? ⟨g8, 1, none⟩ = some (.bool ot2) := B8.cell 1
            go_upto_region 11 with fail
            clear c71 c81
            have hb : Blk wc.drew g7 51 #[.bool nu, .bool false, .int .i64 lo, .int .i64 hi', .string fr, .string tq] ∧ Blk wc.drew g8 51 #[.bool nu2, .bool ot2, .int .i64 lo2, .int .i64 hi2', .string fr2, .string to2] ∧ Below wr.heap.size wr wc.drew := ⟨B7.drew, B8.drew, below_drew hW⟩
            replace B9 := B9.drew
            clear B7 B8 hW
            refine wp_region_mix 15 (fun w' => Blk w' g7 51 #[.bool nu, .bool false, .int .i64 lo, .int .i64 hi', .string fr, .string tq] ∧ Blk w' g8 51 #[.bool nu2, .bool ot2, .int .i64 lo2, .int .i64 hi2', .string fr2, .string to2] ∧ Below wr.heap.size wr w') (by kernel_rfl) (by decide) ?_
            generalize wc.drew = x0 at *
            refine wpM_take (i := 0) (oi := ⟨some 53, _, _, _, _, _⟩) (v := ?_) rfl (by decide +kernel) (by decide +kernel) (by decide +kernel) (fun _ _ _ h => h) (Or.inl ⟨by rfl, ?_⟩) hb ?_
            case refine_2 =>
              intro w' hSw
              have sg82 : w'.cell? ⟨g8, 2, none⟩ = some (.int .i64 lo2) := hSw.2.1.cell 2
              have sg83 : w'.cell? ⟨g8, 3, none⟩ = some (.int .i64 hi2') := hSw.2.1.cell 3
              have sg84 : w'.cell? ⟨g8, 4, none⟩ = some (.string fr2) := hSw.2.1.cell 4
              have sg85 : w'.cell? ⟨g8, 5, none⟩ = some (.string to2) := hSw.2.1.cell 5
              go_simp
              try (with_reducible rfl)
            try simp only [Act.put, List.setIfInBounds_toArray, List.set_cons_zero, List.set_cons_succ]
            refine wpM_take (i := 1) (oi := ⟨some 54, _, _, _, _, _⟩) (v := ?_) rfl (by decide +kernel) (by decide +kernel) (by decide +kernel) (fun _ _ _ h => h) (Or.inl ⟨by rfl, ?_⟩) hb ?_
            case refine_2 =>
              intro w' hSw
              have sg82 : w'.cell? ⟨g8, 2, none⟩ = some (.int .i64 lo2) := hSw.2.1.cell 2
              have sg83 : w'.cell? ⟨g8, 3, none⟩ = some (.int .i64 hi2') := hSw.2.1.cell 3
              have sg84 : w'.cell? ⟨g8, 4, none⟩ = some (.string fr2) := hSw.2.1.cell 4
              have sg85 : w'.cell? ⟨g8, 5, none⟩ = some (.string to2) := hSw.2.1.cell 5
              go_simp
              try (with_reducible rfl)
            try simp only [Act.put, List.setIfInBounds_toArray, List.set_cons_zero, List.set_cons_succ]
            refine wpM_take (i := 2) (oi := ⟨some 55, _, _, _, _, _⟩) (v := ?_) rfl (by decide +kernel) (by decide +kernel) (by decide +kernel) (fun _ _ _ h => h) (Or.inl ⟨by rfl, ?_⟩) hb ?_
            case refine_2 =>
              intro w' hSw
              have sg82 : w'.cell? ⟨g8, 2, none⟩ = some (.int .i64 lo2) := hSw.2.1.cell 2
              have sg83 : w'.cell? ⟨g8, 3, none⟩ = some (.int .i64 hi2') := hSw.2.1.cell 3
              have sg84 : w'.cell? ⟨g8, 4, none⟩ = some (.string fr2) := hSw.2.1.cell 4
              have sg85 : w'.cell? ⟨g8, 5, none⟩ = some (.string to2) := hSw.2.1.cell 5
              go_simp
              try (with_reducible rfl)
            try simp only [Act.put, List.setIfInBounds_toArray, List.set_cons_zero, List.set_cons_succ]
            refine wpM_take (i := 3) (oi := ⟨some 56, _, _, _, _, _⟩) (v := ?_) rfl (by decide +kernel) (by decide +kernel) (by decide +kernel) (fun _ _ _ h => h) (Or.inl ⟨by rfl, ?_⟩) hb ?_
            case refine_2 =>
              intro w' hSw
              have sg82 : w'.cell? ⟨g8, 2, none⟩ = some (.int .i64 lo2) := hSw.2.1.cell 2
              have sg83 : w'.cell? ⟨g8, 3, none⟩ = some (.int .i64 hi2') := hSw.2.1.cell 3
              have sg84 : w'.cell? ⟨g8, 4, none⟩ = some (.string fr2) := hSw.2.1.cell 4
              have sg85 : w'.cell? ⟨g8, 5, none⟩ = some (.string to2) := hSw.2.1.cell 5
              go_simp
              try (with_reducible rfl)
            try simp only [Act.put, List.setIfInBounds_toArray, List.set_cons_zero, List.set_cons_succ]
            refine wpM_take (i := 4) (oi := ⟨some 57, _, _, _, _, _⟩) (v := ?_) rfl (by decide +kernel) (by decide +kernel) (by decide +kernel) (fun _ _ _ h => h) (Or.inl ⟨by rfl, ?_⟩) hb ?_
            case refine_2 =>
              intro w' hSw
              have sg82 : w'.cell? ⟨g8, 2, none⟩ = some (.int .i64 lo2) := hSw.2.1.cell 2
              have sg83 : w'.cell? ⟨g8, 3, none⟩ = some (.int .i64 hi2') := hSw.2.1.cell 3
              have sg84 : w'.cell? ⟨g8, 4, none⟩ = some (.string fr2) := hSw.2.1.cell 4
              have sg85 : w'.cell? ⟨g8, 5, none⟩ = some (.string to2) := hSw.2.1.cell 5
              go_simp
              try (with_reducible rfl)
            try simp only [Act.put, List.setIfInBounds_toArray, List.set_cons_zero, List.set_cons_succ]
            refine wpM_take (i := 5) (oi := ⟨some 58, _, _, _, _, _⟩) (v := ?_) rfl (by decide +kernel) (by decide +kernel) (by decide +kernel) (fun _ _ _ h => h) (Or.inl ⟨by rfl, ?_⟩) hb ?_
            case refine_2 =>
              intro w' hSw
              have sg82 : w'.cell? ⟨g8, 2, none⟩ = some (.int .i64 lo2) := hSw.2.1.cell 2
              have sg83 : w'.cell? ⟨g8, 3, none⟩ = some (.int .i64 hi2') := hSw.2.1.cell 3
              have sg84 : w'.cell? ⟨g8, 4, none⟩ = some (.string fr2) := hSw.2.1.cell 4
              have sg85 : w'.cell? ⟨g8, 5, none⟩ = some (.string to2) := hSw.2.1.cell 5
              go_simp
              try (with_reducible rfl)
            try simp only [Act.put, List.setIfInBounds_toArray, List.set_cons_zero, List.set_cons_succ]
            refine wpM_take (i := 6) (oi := ⟨some 59, _, _, _, _, _⟩) (v := ?_) rfl (by decide +kernel) (by decide +kernel) (by decide +kernel) (fun _ _ _ h => h) (Or.inl ⟨by rfl, ?_⟩) hb ?_
            case refine_2 =>
              intro w' hSw
              have sg82 : w'.cell? ⟨g8, 2, none⟩ = some (.int .i64 lo2) := hSw.2.1.cell 2
              have sg83 : w'.cell? ⟨g8, 3, none⟩ = some (.int .i64 hi2') := hSw.2.1.cell 3
              have sg84 : w'.cell? ⟨g8, 4, none⟩ = some (.string fr2) := hSw.2.1.cell 4
              have sg85 : w'.cell? ⟨g8, 5, none⟩ = some (.string to2) := hSw.2.1.cell 5
              go_simp
              try (with_reducible rfl)
            try simp only [Act.put, List.setIfInBounds_toArray, List.set_cons_zero, List.set_cons_succ]
            refine wpM_take (i := 7) (oi := ⟨some 60, _, _, _, _, _⟩) (v := ?_) rfl (by decide +kernel) (by decide +kernel) (by decide +kernel) (fun _ _ _ h => h) (Or.inl ⟨by rfl, ?_⟩) hb ?_
            case refine_2 =>
              intro w' hSw
              have sg82 : w'.cell? ⟨g8, 2, none⟩ = some (.int .i64 lo2) := hSw.2.1.cell 2
              have sg83 : w'.cell? ⟨g8, 3, none⟩ = some (.int .i64 hi2') := hSw.2.1.cell 3
              have sg84 : w'.cell? ⟨g8, 4, none⟩ = some (.string fr2) := hSw.2.1.cell 4
              have sg85 : w'.cell? ⟨g8, 5, none⟩ = some (.string to2) := hSw.2.1.cell 5
              go_simp
              try (with_reducible rfl)
            try simp only [Act.put, List.setIfInBounds_toArray, List.set_cons_zero, List.set_cons_succ]
            refine wpM_take (i := 8) (oi := ⟨some 61, _, _, _, _, _⟩) (v := ?_) rfl (by decide +kernel) (by decide +kernel) (by decide +kernel) (fun _ _ _ h => h) (Or.inl ⟨by rfl, ?_⟩) hb ?_
            case refine_2 =>
              intro w' hSw
              have sg82 : w'.cell? ⟨g8, 2, none⟩ = some (.int .i64 lo2) := hSw.2.1.cell 2
              have sg83 : w'.cell? ⟨g8, 3, none⟩ = some (.int .i64 hi2') := hSw.2.1.cell 3
              have sg84 : w'.cell? ⟨g8, 4, none⟩ = some (.string fr2) := hSw.2.1.cell 4
              have sg85 : w'.cell? ⟨g8, 5, none⟩ = some (.string to2) := hSw.2.1.cell 5
              go_simp
              try (with_reducible rfl)
            try simp only [Act.put, List.setIfInBounds_toArray, List.set_cons_zero, List.set_cons_succ]
            refine wpM_step (i := 9) (o := ⟨none, _, _, _, _, _⟩) rfl (by decide +kernel) (by decide) (fun K hK => ?_)
            have cc : x0.cell? ⟨g9, 2, none⟩ = some (.int .i64 0) := B9.cell 2
            have ff : x0.frozen? ⟨g9, 2, none⟩ = false := Joins.unfrozen_of_block B9 2
            go_simp
            obtain ⟨x1, ex1⟩ : ∃ W, W = x0.setCell ⟨g9, 2, none⟩ (.int .i64 lo2) := ⟨_, rfl⟩
            have B9x1 : Blk x1 g9 51 #[.bool (nu || nu2), .bool ot2, .int .i64 lo2, .int .i64 0, .string ⟨#[]⟩, .string ⟨#[]⟩] := by rw [ex1]; exact (store_step B9 2 _).1
            have hbx1 : Blk x1 g7 51 #[.bool nu, .bool false, .int .i64 lo, .int .i64 hi', .string fr, .string tq] ∧ Blk x1 g8 51 #[.bool nu2, .bool ot2, .int .i64 lo2, .int .i64 hi2', .string fr2, .string to2] ∧ Below wr.heap.size wr x1 := by rw [ex1]; exact ⟨(store_step B9 2 _).2.1 _ _ _ n7 hb.1, (store_step B9 2 _).2.1 _ _ _ n8 hb.2.1, (store_step B9 2 _).2.2 _ _ hb.2.2 h9⟩
            rw [← ex1]
            refine hK.out _ _ hbx1 ?_
            clear hK K cc ff ex1 hb B9
            try simp only [Act.put, List.setIfInBounds_toArray, List.set_cons_zero, List.set_cons_succ]
            refine wpM_take (i := 10) (oi := ⟨some 62, _, _, _, _, _⟩) (v := ?_) rfl (by decide +kernel) (by decide +kernel) (by decide +kernel) (fun _ _ _ h => h) (Or.inl ⟨by rfl, ?_⟩) hbx1 ?_
            case refine_2 =>
              intro w' hSw
              have sg82 : w'.cell? ⟨g8, 2, none⟩ = some (.int .i64 lo2) := hSw.2.1.cell 2
              have sg83 : w'.cell? ⟨g8, 3, none⟩ = some (.int .i64 hi2') := hSw.2.1.cell 3
              have sg84 : w'.cell? ⟨g8, 4, none⟩ = some (.string fr2) := hSw.2.1.cell 4
              have sg85 : w'.cell? ⟨g8, 5, none⟩ = some (.string to2) := hSw.2.1.cell 5
              go_simp
              try (with_reducible rfl)
            try simp only [Act.put, List.setIfInBounds_toArray, List.set_cons_zero, List.set_cons_succ]
            refine wpM_step (i := 11) (o := ⟨none, _, _, _, _, _⟩) rfl (by decide +kernel) (by decide) (fun K hK => ?_)
            have cc : x1.cell? ⟨g9, 3, none⟩ = some (.int .i64 0) := B9x1.cell 3
            have ff : x1.frozen? ⟨g9, 3, none⟩ = false := Joins.unfrozen_of_block B9x1 3
            go_simp
            obtain ⟨x2, ex2⟩ : ∃ W, W = x1.setCell ⟨g9, 3, none⟩ (.int .i64 hi2') := ⟨_, rfl⟩
            have B9x2 : Blk x2 g9 51 #[.bool (nu || nu2), .bool ot2, .int .i64 lo2, .int .i64 hi2', .string ⟨#[]⟩, .string ⟨#[]⟩] := by rw [ex2]; exact (store_step B9x1 3 _).1
            have hbx2 : Blk x2 g7 51 #[.bool nu, .bool false, .int .i64 lo, .int .i64 hi', .string fr, .string tq] ∧ Blk x2 g8 51 #[.bool nu2, .bool ot2, .int .i64 lo2, .int .i64 hi2', .string fr2, .string to2] ∧ Below wr.heap.size wr x2 := by rw [ex2]; exact ⟨(store_step B9x1 3 _).2.1 _ _ _ n7 hbx1.1, (store_step B9x1 3 _).2.1 _ _ _ n8 hbx1.2.1, (store_step B9x1 3 _).2.2 _ _ hbx1.2.2 h9⟩
            rw [← ex2]
            refine hK.out _ _ hbx2 ?_
            clear hK K cc ff ex2 hbx1 B9x1
            try simp only [Act.put, List.setIfInBounds_toArray, List.set_cons_zero, List.set_cons_succ]
            refine wpM_take (i := 12) (oi := ⟨some 63, _, _, _, _, _⟩) (v := ?_) rfl (by decide +kernel) (by decide +kernel) (by decide +kernel) (fun _ _ _ h => h) (Or.inl ⟨by rfl, ?_⟩) hbx2 ?_
            case refine_2 =>
              intro w' hSw
              have sg82 : w'.cell? ⟨g8, 2, none⟩ = some (.int .i64 lo2) := hSw.2.1.cell 2
              have sg83 : w'.cell? ⟨g8, 3, none⟩ = some (.int .i64 hi2') := hSw.2.1.cell 3
              have sg84 : w'.cell? ⟨g8, 4, none⟩ = some (.string fr2) := hSw.2.1.cell 4
              have sg85 : w'.cell? ⟨g8, 5, none⟩ = some (.string to2) := hSw.2.1.cell 5
              go_simp
              try (with_reducible rfl)
            try simp only [Act.put, List.setIfInBounds_toArray, List.set_cons_zero, List.set_cons_succ]
            refine wpM_step (i := 13) (o := ⟨none, _, _, _, _, _⟩) rfl (by decide +kernel) (by decide) (fun K hK => ?_)
            have cc : x2.cell? ⟨g9, 4, none⟩ = some (.string ⟨#[]⟩) := B9x2.cell 4
            have ff : x2.frozen? ⟨g9, 4, none⟩ = false := Joins.unfrozen_of_block B9x2 4
            go_simp
            obtain ⟨x3, ex3⟩ : ∃ W, W = x2.setCell ⟨g9, 4, none⟩ (.string fr2) := ⟨_, rfl⟩
            have B9x3 : Blk x3 g9 51 #[.bool (nu || nu2), .bool ot2, .int .i64 lo2, .int .i64 hi2', .string fr2, .string ⟨#[]⟩] := by rw [ex3]; exact (store_step B9x2 4 _).1
            have hbx3 : Blk x3 g7 51 #[.bool nu, .bool false, .int .i64 lo, .int .i64 hi', .string fr, .string tq] ∧ Blk x3 g8 51 #[.bool nu2, .bool ot2, .int .i64 lo2, .int .i64 hi2', .string fr2, .string to2] ∧ Below wr.heap.size wr x3 := by rw [ex3]; exact ⟨(store_step B9x2 4 _).2.1 _ _ _ n7 hbx2.1, (store_step B9x2 4 _).2.1 _ _ _ n8 hbx2.2.1, (store_step B9x2 4 _).2.2 _ _ hbx2.2.2 h9⟩
            rw [← ex3]
            refine hK.out _ _ hbx3 ?_
            clear hK K cc ff ex3 hbx2 B9x2
            try simp only [Act.put, List.setIfInBounds_toArray, List.set_cons_zero, List.set_cons_succ]
            refine wpM_take (i := 14) (oi := ⟨some 64, _, _, _, _, _⟩) (v := ?_) rfl (by decide +kernel) (by decide +kernel) (by decide +kernel) (fun _ _ _ h => h) (Or.inl ⟨by rfl, ?_⟩) hbx3 ?_
            case refine_2 =>
              intro w' hSw
              have sg82 : w'.cell? ⟨g8, 2, none⟩ = some (.int .i64 lo2) := hSw.2.1.cell 2
              have sg83 : w'.cell? ⟨g8, 3, none⟩ = some (.int .i64 hi2') := hSw.2.1.cell 3
              have sg84 : w'.cell? ⟨g8, 4, none⟩ = some (.string fr2) := hSw.2.1.cell 4
              have sg85 : w'.cell? ⟨g8, 5, none⟩ = some (.string to2) := hSw.2.1.cell 5
              go_simp
              try (with_reducible rfl)
            try simp only [Act.put, List.setIfInBounds_toArray, List.set_cons_zero, List.set_cons_succ]
            refine wpM_done (by decide +kernel) ?_
            simp only [List.drop_succ_cons, List.drop_zero]
            have cc : x3.cell? ⟨g9, 5, none⟩ = some (.string ⟨#[]⟩) := B9x3.cell 5
            have ff : x3.frozen? ⟨g9, 5, none⟩ = false := Joins.unfrozen_of_block B9x3 5
            obtain ⟨x4, ex4⟩ : ∃ W, W = x3.setCell ⟨g9, 5, none⟩ (.string to2) := ⟨_, rfl⟩
            have B9x4 : Blk x4 g9 51 #[.bool (nu || nu2), .bool ot2, .int .i64 lo2, .int .i64 hi2', .string fr2, .string to2] := by rw [ex4]; exact (store_step B9x3 5 _).1
            have hbx4 : Blk x4 g7 51 #[.bool nu, .bool false, .int .i64 lo, .int .i64 hi', .string fr, .string tq] ∧ Blk x4 g8 51 #[.bool nu2, .bool ot2, .int .i64 lo2, .int .i64 hi2', .string fr2, .string to2] ∧ Below wr.heap.size wr x4 := by rw [ex4]; exact ⟨(store_step B9x3 5 _).2.1 _ _ _ n7 hbx3.1, (store_step B9x3 5 _).2.1 _ _ _ n8 hbx3.2.1, (store_step B9x3 5 _).2.2 _ _ hbx3.2.2 h9⟩
            go_upto_region 16 with fail
            rw [← ex4]
            clear cc ff ex4 hbx3 B9x3
            have hd3 : Below wr.heap.size wr (x4.alloc (.cells #[.bool (nu || nu2), .bool ot2, .int .i64 lo2, .int .i64 hi2', .string fr2, .string to2] 51)) := hbx4.2.2.alloc hbx4.2.2.size _
            have hs3 : wr.heap.size ≤ (x4.alloc (.cells #[.bool (nu || nu2), .bool ot2, .int .i64 lo2, .int .i64 hi2', .string fr2, .string to2] 51)).heap.size := hd3.size
            have ek : x4.cell? ⟨w.heap.size + 1 + 1 + 1, 1, none⟩ = some v := (HK.out.below hbx4.2.2).cell 1
            have c90 : x4.cell? ⟨g9, 0, none⟩ = some (.bool (nu || nu2)) := B9x4.cell 0
            have c91 : x4.cell? ⟨g9, 1, none⟩ = some (.bool ot2) := B9x4.cell 1
            have c92 : x4.cell? ⟨g9, 2, none⟩ = some (.int .i64 lo2) := B9x4.cell 2
            have c93 : x4.cell? ⟨g9, 3, none⟩ = some (.int .i64 hi2') := B9x4.cell 3
            have c94 : x4.cell? ⟨g9, 4, none⟩ = some (.string fr2) := B9x4.cell 4
            have c95 : x4.cell? ⟨g9, 5, none⟩ = some (.string to2) := B9x4.cell 5
            have HO3 := Lib.hid (show (x4.alloc (.cells #[.bool (nu || nu2), .bool ot2, .int .i64 lo2, .int .i64 hi2', .string fr2, .string to2] 51)).ownsRow (w.heap.size + 4) 51 6 v k ((T.take k).flatMap Sd.cells) from own_below HO.out hd3)
            have HK3 := Lib.hid (show Blk (x4.alloc (.cells #[.bool (nu || nu2), .bool ot2, .int .i64 lo2, .int .i64 hi2', .string fr2, .string to2] 51)) (w.heap.size + 3) 24 #[.int .i64 t, v] from HK.out.below hd3)
            have HR3 := Lib.hid (show Blk (x4.alloc (.cells #[.bool (nu || nu2), .bool ot2, .int .i64 lo2, .int .i64 hi2', .string fr2, .string to2] 51)) (w.heap.size + 2) 24 #[.int .i64 0, .slice none 0 0] from HR.out.below hd3)
            have HY3 := Lib.hid (show Blk (x4.alloc (.cells #[.bool (nu || nu2), .bool ot2, .int .i64 lo2, .int .i64 hi2', .string fr2, .string to2] 51)) (w.heap.size + 1) 24 #[.int .i64 u, .slice (some ⟨b2, off2, none⟩) n c2] from HY.out.below hd3)
            have HX3 := Lib.hid (show Blk (x4.alloc (.cells #[.bool (nu || nu2), .bool ot2, .int .i64 lo2, .int .i64 hi2', .string fr2, .string to2] 51)) w.heap.size 24 #[.int .i64 t, .slice (some ⟨b, off, none⟩) n c] from HXA.out.below hd3)
            have HB3 := Lib.hid (show Below w.heap.size w (x4.alloc (.cells #[.bool (nu || nu2), .bool ot2, .int .i64 lo2, .int .i64 hi2', .string fr2, .string to2] 51)) from HB.out.trans (hd3.mono HB.out.size))
            have HT2 := Lib.hid (show (T.take (k + 1)).flatMap Sd.cells = (T.take k).flatMap Sd.cells ++ [.bool (nu || nu2), .bool ot2, .int .i64 lo2, .int .i64 hi2', .string fr2, .string to2] by rw [HT.out]; first | rfl | (rw [HZZ.out]; done))
            have HN3 : Hid (Src Try.prog 6 22 (.slice (some ⟨x4.heap.size, 0, none⟩) 1 1) 1 [.bool (nu || nu2), .bool ot2, .int .i64 lo2, .int .i64 hi2', .string fr2, .string to2] (x4.alloc (.cells #[.bool (nu || nu2), .bool ot2, .int .i64 lo2, .int .i64 hi2', .string fr2, .string to2] 51))) := Lib.hid (src_blk (c := 1) Try.underlying22 rfl (cells_one ⟨nu || nu2, ot2, _, _, _, _⟩) (show Blk (x4.alloc (.cells #[.bool (nu || nu2), .bool ot2, .int .i64 lo2, .int .i64 hi2', .string fr2, .string to2] 51)) x4.heap.size 51 #[.bool (nu || nu2), .bool ot2, .int .i64 lo2, .int .i64 hi2', .string fr2, .string to2] from Blk.new _ _ _))
            have hsz := hbx4.2.2.size
            clear HT hbx4 B9x4 hd3
            go_wp2_with (at_builtin; go_loud (refine wpList_append_src _ rfl _ _ 22 22 rfl (w.heap.size + 4) 51 i0 zS 6 56 Try.underlying22 hi hz0 hz1 hz2 rfl v k _ rfl HO3.out _ 1 [.bool (nu || nu2), .bool ot2, .int .i64 lo2, .int .i64 hi2', .string fr2, .string to2] rfl HN3.out ?c1 ?c2 ?c3 ?_))
            case c1 => unfold maxLen; omega
            case c2 => omega
            case c3 => exact Nat.le_trans (by omega) hs3
            intro v' w4 own' hg _
            obtain ⟨g1, g2, g3, g4, g5⟩ := Bx.step HK3.out HO3.out (by decide) own' hg
            rw [← HT2.out] at g3
            obtain ⟨A3, a3, rfl, -⟩ := At.of_own own'
            have G2 := Lib.hid g2
            have G3 := Lib.hid g3
            have G4 := Lib.hid (g4 _ _ _ (by omega) (by decide) HR3.out)
            have G6 := Lib.hid (g4 _ _ _ (by omega) (by decide) HY3.out)
            have G7 := Lib.hid (g4 _ _ _ (by omega) (by decide) HX3.out)
            have G5 := Lib.hid (g5 _ _ HB3.out (by omega) (by omega) (Nat.le_trans (by omega) hs3))
            have g1c : w4.cell? ⟨w.heap.size + 1 + 1 + 1, 1, none⟩ = some v := g1.cell 1
            have f3 : w4.frozen? ⟨w.heap.size + 1 + 1 + 1, 1, none⟩ = false := Joins.unfrozen_of_block g1 1
            clear g1 g2 g3 g4 g5 own' hg
            go_wp2
            go_roundw
            case rel => exact ⟨k + 1, _, by go_num, hlt, G7.out, G6.out, G4.out, G2.out, G3.out, G5.out⟩
            case measure => simp [intOf]; omega
          · cases ot2
            · have B9 : Blk wc g9 51 #[.bool (nu || nu2), .bool true, .int .i64 0, .int .i64 0, .string ⟨#[]⟩, .string ⟨#[]⟩] := B9
              have c71 : wc.cell? ⟨g7, 1, none⟩ = some (.bool true) := B7.cell 1
              have c81 : wc.cell? ⟨g8, 1, none⟩ = some (.bool false) := B8.cell 1
              go_upto_region 15 with fail
              clear c71 c81
              have hb : Blk wc.drew g7 51 #[.bool nu, .bool true, .int .i64 lo, .int .i64 hi', .string fr, .string tq] ∧ Blk wc.drew g8 51 #[.bool nu2, .bool false, .int .i64 lo2, .int .i64 hi2', .string fr2, .string to2] ∧ Below wr.heap.size wr wc.drew := ⟨B7.drew, B8.drew, below_drew hW⟩
              replace B9 := B9.drew
              clear B7 B8 hW
              refine wp_region_mix 15 (fun w' => Blk w' g7 51 #[.bool nu, .bool true, .int .i64 lo, .int .i64 hi', .string fr, .string tq] ∧ Blk w' g8 51 #[.bool nu2, .bool false, .int .i64 lo2, .int .i64 hi2', .string fr2, .string to2] ∧ Below wr.heap.size wr w') (by kernel_rfl) (by decide) ?_
              generalize wc.drew = x0 at *
              refine wpM_take (i := 0) (oi := ⟨some 99, _, _, _, _, _⟩) (v := ?_) rfl (by decide +kernel) (by decide +kernel) (by decide +kernel) (fun _ _ _ h => h) (Or.inl ⟨by rfl, ?_⟩) hb ?_
              case refine_2 =>
                intro w' hSw
                have sg72 : w'.cell? ⟨g7, 2, none⟩ = some (.int .i64 lo) := hSw.1.cell 2
                have sg73 : w'.cell? ⟨g7, 3, none⟩ = some (.int .i64 hi') := hSw.1.cell 3
                have sg74 : w'.cell? ⟨g7, 4, none⟩ = some (.string fr) := hSw.1.cell 4
                have sg75 : w'.cell? ⟨g7, 5, none⟩ = some (.string tq) := hSw.1.cell 5
                go_simp
                try (with_reducible rfl)
              try simp only [Act.put, List.setIfInBounds_toArray, List.set_cons_zero, List.set_cons_succ]
              refine wpM_take (i := 1) (oi := ⟨some 100, _, _, _, _, _⟩) (v := ?_) rfl (by decide +kernel) (by decide +kernel) (by decide +kernel) (fun _ _ _ h => h) (Or.inl ⟨by rfl, ?_⟩) hb ?_
              case refine_2 =>
                intro w' hSw
                have sg72 : w'.cell? ⟨g7, 2, none⟩ = some (.int .i64 lo) := hSw.1.cell 2
                have sg73 : w'.cell? ⟨g7, 3, none⟩ = some (.int .i64 hi') := hSw.1.cell 3
                have sg74 : w'.cell? ⟨g7, 4, none⟩ = some (.string fr) := hSw.1.cell 4
                have sg75 : w'.cell? ⟨g7, 5, none⟩ = some (.string tq) := hSw.1.cell 5
                go_simp
                try (with_reducible rfl)
              try simp only [Act.put, List.setIfInBounds_toArray, List.set_cons_zero, List.set_cons_succ]
              refine wpM_take (i := 2) (oi := ⟨some 101, _, _, _, _, _⟩) (v := ?_) rfl (by decide +kernel) (by decide +kernel) (by decide +kernel) (fun _ _ _ h => h) (Or.inl ⟨by rfl, ?_⟩) hb ?_
              case refine_2 =>
                intro w' hSw
                have sg72 : w'.cell? ⟨g7, 2, none⟩ = some (.int .i64 lo) := hSw.1.cell 2
                have sg73 : w'.cell? ⟨g7, 3, none⟩ = some (.int .i64 hi') := hSw.1.cell 3
                have sg74 : w'.cell? ⟨g7, 4, none⟩ = some (.string fr) := hSw.1.cell 4
                have sg75 : w'.cell? ⟨g7, 5, none⟩ = some (.string tq) := hSw.1.cell 5
                go_simp
                try (with_reducible rfl)
              try simp only [Act.put, List.setIfInBounds_toArray, List.set_cons_zero, List.set_cons_succ]
              refine wpM_take (i := 3) (oi := ⟨some 102, _, _, _, _, _⟩) (v := ?_) rfl (by decide +kernel) (by decide +kernel) (by decide +kernel) (fun _ _ _ h => h) (Or.inl ⟨by rfl, ?_⟩) hb ?_
              case refine_2 =>
                intro w' hSw
                have sg72 : w'.cell? ⟨g7, 2, none⟩ = some (.int .i64 lo) := hSw.1.cell 2
                have sg73 : w'.cell? ⟨g7, 3, none⟩ = some (.int .i64 hi') := hSw.1.cell 3
                have sg74 : w'.cell? ⟨g7, 4, none⟩ = some (.string fr) := hSw.1.cell 4
                have sg75 : w'.cell? ⟨g7, 5, none⟩ = some (.string tq) := hSw.1.cell 5
                go_simp
                try (with_reducible rfl)
              try simp only [Act.put, List.setIfInBounds_toArray, List.set_cons_zero, List.set_cons_succ]
              refine wpM_take (i := 4) (oi := ⟨some 103, _, _, _, _, _⟩) (v := ?_) rfl (by decide +kernel) (by decide +kernel) (by decide +kernel) (fun _ _ _ h => h) (Or.inl ⟨by rfl, ?_⟩) hb ?_
              case refine_2 =>
                intro w' hSw
                have sg72 : w'.cell? ⟨g7, 2, none⟩ = some (.int .i64 lo) := hSw.1.cell 2
                have sg73 : w'.cell? ⟨g7, 3, none⟩ = some (.int .i64 hi') := hSw.1.cell 3
                have sg74 : w'.cell? ⟨g7, 4, none⟩ = some (.string fr) := hSw.1.cell 4
                have sg75 : w'.cell? ⟨g7, 5, none⟩ = some (.string tq) := hSw.1.cell 5
                go_simp
                try (with_reducible rfl)
              try simp only [Act.put, List.setIfInBounds_toArray, List.set_cons_zero, List.set_cons_succ]
              refine wpM_take (i := 5) (oi := ⟨some 104, _, _, _, _, _⟩) (v := ?_) rfl (by decide +kernel) (by decide +kernel) (by decide +kernel) (fun _ _ _ h => h) (Or.inl ⟨by rfl, ?_⟩) hb ?_
              case refine_2 =>
                intro w' hSw
                have sg72 : w'.cell? ⟨g7, 2, none⟩ = some (.int .i64 lo) := hSw.1.cell 2
                have sg73 : w'.cell? ⟨g7, 3, none⟩ = some (.int .i64 hi') := hSw.1.cell 3
                have sg74 : w'.cell? ⟨g7, 4, none⟩ = some (.string fr) := hSw.1.cell 4
                have sg75 : w'.cell? ⟨g7, 5, none⟩ = some (.string tq) := hSw.1.cell 5
                go_simp
                try (with_reducible rfl)
              try simp only [Act.put, List.setIfInBounds_toArray, List.set_cons_zero, List.set_cons_succ]
              refine wpM_take (i := 6) (oi := ⟨some 105, _, _, _, _, _⟩) (v := ?_) rfl (by decide +kernel) (by decide +kernel) (by decide +kernel) (fun _ _ _ h => h) (Or.inl ⟨by rfl, ?_⟩) hb ?_
              case refine_2 =>
                intro w' hSw
                have sg72 : w'.cell? ⟨g7, 2, none⟩ = some (.int .i64 lo) := hSw.1.cell 2
                have sg73 : w'.cell? ⟨g7, 3, none⟩ = some (.int .i64 hi') := hSw.1.cell 3
                have sg74 : w'.cell? ⟨g7, 4, none⟩ = some (.string fr) := hSw.1.cell 4
                have sg75 : w'.cell? ⟨g7, 5, none⟩ = some (.string tq) := hSw.1.cell 5
                go_simp
                try (with_reducible rfl)
              try simp only [Act.put, List.setIfInBounds_toArray, List.set_cons_zero, List.set_cons_succ]
              refine wpM_take (i := 7) (oi := ⟨some 106, _, _, _, _, _⟩) (v := ?_) rfl (by decide +kernel) (by decide +kernel) (by decide +kernel) (fun _ _ _ h => h) (Or.inl ⟨by rfl, ?_⟩) hb ?_
              case refine_2 =>
                intro w' hSw
                have sg72 : w'.cell? ⟨g7, 2, none⟩ = some (.int .i64 lo) := hSw.1.cell 2
                have sg73 : w'.cell? ⟨g7, 3, none⟩ = some (.int .i64 hi') := hSw.1.cell 3
                have sg74 : w'.cell? ⟨g7, 4, none⟩ = some (.string fr) := hSw.1.cell 4
                have sg75 : w'.cell? ⟨g7, 5, none⟩ = some (.string tq) := hSw.1.cell 5
                go_simp
                try (with_reducible rfl)
              try simp only [Act.put, List.setIfInBounds_toArray, List.set_cons_zero, List.set_cons_succ]
              refine wpM_take (i := 8) (oi := ⟨some 107, _, _, _, _, _⟩) (v := ?_) rfl (by decide +kernel) (by decide +kernel) (by decide +kernel) (fun _ _ _ h => h) (Or.inl ⟨by rfl, ?_⟩) hb ?_
              case refine_2 =>
                intro w' hSw
                have sg72 : w'.cell? ⟨g7, 2, none⟩ = some (.int .i64 lo) := hSw.1.cell 2
                have sg73 : w'.cell? ⟨g7, 3, none⟩ = some (.int .i64 hi') := hSw.1.cell 3
                have sg74 : w'.cell? ⟨g7, 4, none⟩ = some (.string fr) := hSw.1.cell 4
                have sg75 : w'.cell? ⟨g7, 5, none⟩ = some (.string tq) := hSw.1.cell 5
                go_simp
                try (with_reducible rfl)
              try simp only [Act.put, List.setIfInBounds_toArray, List.set_cons_zero, List.set_cons_succ]
              refine wpM_step (i := 9) (o := ⟨none, _, _, _, _, _⟩) rfl (by decide +kernel) (by decide) (fun K hK => ?_)
              have cc : x0.cell? ⟨g9, 2, none⟩ = some (.int .i64 0) := B9.cell 2
              have ff : x0.frozen? ⟨g9, 2, none⟩ = false := Joins.unfrozen_of_block B9 2
              go_simp
              obtain ⟨x1, ex1⟩ : ∃ W, W = x0.setCell ⟨g9, 2, none⟩ (.int .i64 lo) := ⟨_, rfl⟩
              have B9x1 : Blk x1 g9 51 #[.bool (nu || nu2), .bool true, .int .i64 lo, .int .i64 0, .string ⟨#[]⟩, .string ⟨#[]⟩] := by rw [ex1]; exact (store_step B9 2 _).1
              have hbx1 : Blk x1 g7 51 #[.bool nu, .bool true, .int .i64 lo, .int .i64 hi', .string fr, .string tq] ∧ Blk x1 g8 51 #[.bool nu2, .bool false, .int .i64 lo2, .int .i64 hi2', .string fr2, .string to2] ∧ Below wr.heap.size wr x1 := by rw [ex1]; exact ⟨(store_step B9 2 _).2.1 _ _ _ n7 hb.1, (store_step B9 2 _).2.1 _ _ _ n8 hb.2.1, (store_step B9 2 _).2.2 _ _ hb.2.2 h9⟩
              rw [← ex1]
              refine hK.out _ _ hbx1 ?_
              clear hK K cc ff ex1 hb B9
              try simp only [Act.put, List.setIfInBounds_toArray, List.set_cons_zero, List.set_cons_succ]
              refine wpM_take (i := 10) (oi := ⟨some 108, _, _, _, _, _⟩) (v := ?_) rfl (by decide +kernel) (by decide +kernel) (by decide +kernel) (fun _ _ _ h => h) (Or.inl ⟨by rfl, ?_⟩) hbx1 ?_
              case refine_2 =>
                intro w' hSw
                have sg72 : w'.cell? ⟨g7, 2, none⟩ = some (.int .i64 lo) := hSw.1.cell 2
                have sg73 : w'.cell? ⟨g7, 3, none⟩ = some (.int .i64 hi') := hSw.1.cell 3
                have sg74 : w'.cell? ⟨g7, 4, none⟩ = some (.string fr) := hSw.1.cell 4
                have sg75 : w'.cell? ⟨g7, 5, none⟩ = some (.string tq) := hSw.1.cell 5
                go_simp
                try (with_reducible rfl)
              try simp only [Act.put, List.setIfInBounds_toArray, List.set_cons_zero, List.set_cons_succ]
              refine wpM_step (i := 11) (o := ⟨none, _, _, _, _, _⟩) rfl (by decide +kernel) (by decide) (fun K hK => ?_)
              have cc : x1.cell? ⟨g9, 3, none⟩ = some (.int .i64 0) := B9x1.cell 3
              have ff : x1.frozen? ⟨g9, 3, none⟩ = false := Joins.unfrozen_of_block B9x1 3
              go_simp
              obtain ⟨x2, ex2⟩ : ∃ W, W = x1.setCell ⟨g9, 3, none⟩ (.int .i64 hi') := ⟨_, rfl⟩
              have B9x2 : Blk x2 g9 51 #[.bool (nu || nu2), .bool true, .int .i64 lo, .int .i64 hi', .string ⟨#[]⟩, .string ⟨#[]⟩] := by rw [ex2]; exact (store_step B9x1 3 _).1
              have hbx2 : Blk x2 g7 51 #[.bool nu, .bool true, .int .i64 lo, .int .i64 hi', .string fr, .string tq] ∧ Blk x2 g8 51 #[.bool nu2, .bool false, .int .i64 lo2, .int .i64 hi2', .string fr2, .string to2] ∧ Below wr.heap.size wr x2 := by rw [ex2]; exact ⟨(store_step B9x1 3 _).2.1 _ _ _ n7 hbx1.1, (store_step B9x1 3 _).2.1 _ _ _ n8 hbx1.2.1, (store_step B9x1 3 _).2.2 _ _ hbx1.2.2 h9⟩
              rw [← ex2]
              refine hK.out _ _ hbx2 ?_
              clear hK K cc ff ex2 hbx1 B9x1
              try simp only [Act.put, List.setIfInBounds_toArray, List.set_cons_zero, List.set_cons_succ]
              refine wpM_take (i := 12) (oi := ⟨some 109, _, _, _, _, _⟩) (v := ?_) rfl (by decide +kernel) (by decide +kernel) (by decide +kernel) (fun _ _ _ h => h) (Or.inl ⟨by rfl, ?_⟩) hbx2 ?_
              case refine_2 =>
                intro w' hSw
                have sg72 : w'.cell? ⟨g7, 2, none⟩ = some (.int .i64 lo) := hSw.1.cell 2
                have sg73 : w'.cell? ⟨g7, 3, none⟩ = some (.int .i64 hi') := hSw.1.cell 3
                have sg74 : w'.cell? ⟨g7, 4, none⟩ = some (.string fr) := hSw.1.cell 4
                have sg75 : w'.cell? ⟨g7, 5, none⟩ = some (.string tq) := hSw.1.cell 5
                go_simp
                try (with_reducible rfl)
              try simp only [Act.put, List.setIfInBounds_toArray, List.set_cons_zero, List.set_cons_succ]
              refine wpM_step (i := 13) (o := ⟨none, _, _, _, _, _⟩) rfl (by decide +kernel) (by decide) (fun K hK => ?_)
              have cc : x2.cell? ⟨g9, 4, none⟩ = some (.string ⟨#[]⟩) := B9x2.cell 4
              have ff : x2.frozen? ⟨g9, 4, none⟩ = false := Joins.unfrozen_of_block B9x2 4
              go_simp
              obtain ⟨x3, ex3⟩ : ∃ W, W = x2.setCell ⟨g9, 4, none⟩ (.string fr) := ⟨_, rfl⟩
              have B9x3 : Blk x3 g9 51 #[.bool (nu || nu2), .bool true, .int .i64 lo, .int .i64 hi', .string fr, .string ⟨#[]⟩] := by rw [ex3]; exact (store_step B9x2 4 _).1
              have hbx3 : Blk x3 g7 51 #[.bool nu, .bool true, .int .i64 lo, .int .i64 hi', .string fr, .string tq] ∧ Blk x3 g8 51 #[.bool nu2, .bool false, .int .i64 lo2, .int .i64 hi2', .string fr2, .string to2] ∧ Below wr.heap.size wr x3 := by rw [ex3]; exact ⟨(store_step B9x2 4 _).2.1 _ _ _ n7 hbx2.1, (store_step B9x2 4 _).2.1 _ _ _ n8 hbx2.2.1, (store_step B9x2 4 _).2.2 _ _ hbx2.2.2 h9⟩
              rw [← ex3]
              refine hK.out _ _ hbx3 ?_
              clear hK K cc ff ex3 hbx2 B9x2
              try simp only [Act.put, List.setIfInBounds_toArray, List.set_cons_zero, List.set_cons_succ]
              refine wpM_take (i := 14) (oi := ⟨some 110, _, _, _, _, _⟩) (v := ?_) rfl (by decide +kernel) (by decide +kernel) (by decide +kernel) (fun _ _ _ h => h) (Or.inl ⟨by rfl, ?_⟩) hbx3 ?_
              case refine_2 =>
                intro w' hSw
                have sg72 : w'.cell? ⟨g7, 2, none⟩ = some (.int .i64 lo) := hSw.1.cell 2
                have sg73 : w'.cell? ⟨g7, 3, none⟩ = some (.int .i64 hi') := hSw.1.cell 3
                have sg74 : w'.cell? ⟨g7, 4, none⟩ = some (.string fr) := hSw.1.cell 4
                have sg75 : w'.cell? ⟨g7, 5, none⟩ = some (.string tq) := hSw.1.cell 5
                go_simp
                try (with_reducible rfl)
              try simp only [Act.put, List.setIfInBounds_toArray, List.set_cons_zero, List.set_cons_succ]
              refine wpM_done (by decide +kernel) ?_
              simp only [List.drop_succ_cons, List.drop_zero]
              have cc : x3.cell? ⟨g9, 5, none⟩ = some (.string ⟨#[]⟩) := B9x3.cell 5
              have ff : x3.frozen? ⟨g9, 5, none⟩ = false := Joins.unfrozen_of_block B9x3 5
              obtain ⟨x4, ex4⟩ : ∃ W, W = x3.setCell ⟨g9, 5, none⟩ (.string tq) := ⟨_, rfl⟩
              have B9x4 : Blk x4 g9 51 #[.bool (nu || nu2), .bool true, .int .i64 lo, .int .i64 hi', .string fr, .string tq] := by rw [ex4]; exact (store_step B9x3 5 _).1
              have hbx4 : Blk x4 g7 51 #[.bool nu, .bool true, .int .i64 lo, .int .i64 hi', .string fr, .string tq] ∧ Blk x4 g8 51 #[.bool nu2, .bool false, .int .i64 lo2, .int .i64 hi2', .string fr2, .string to2] ∧ Below wr.heap.size wr x4 := by rw [ex4]; exact ⟨(store_step B9x3 5 _).2.1 _ _ _ n7 hbx3.1, (store_step B9x3 5 _).2.1 _ _ _ n8 hbx3.2.1, (store_step B9x3 5 _).2.2 _ _ hbx3.2.2 h9⟩
              go_upto_region 16 with fail
              rw [← ex4]
              clear cc ff ex4 hbx3 B9x3
              have hd3 : Below wr.heap.size wr (x4.alloc (.cells #[.bool (nu || nu2), .bool true, .int .i64 lo, .int .i64 hi', .string fr, .string tq] 51)) := hbx4.2.2.alloc hbx4.2.2.size _
              have hs3 : wr.heap.size ≤ (x4.alloc (.cells #[.bool (nu || nu2), .bool true, .int .i64 lo, .int .i64 hi', .string fr, .string tq] 51)).heap.size := hd3.size
              have ek : x4.cell? ⟨w.heap.size + 1 + 1 + 1, 1, none⟩ = some v := (HK.out.below hbx4.2.2).cell 1
              have c90 : x4.cell? ⟨g9, 0, none⟩ = some (.bool (nu || nu2)) := B9x4.cell 0
              have c91 : x4.cell? ⟨g9, 1, none⟩ = some (.bool true) := B9x4.cell 1
              have c92 : x4.cell? ⟨g9, 2, none⟩ = some (.int .i64 lo) := B9x4.cell 2
              have c93 : x4.cell? ⟨g9, 3, none⟩ = some (.int .i64 hi') := B9x4.cell 3
              have c94 : x4.cell? ⟨g9, 4, none⟩ = some (.string fr) := B9x4.cell 4
              have c95 : x4.cell? ⟨g9, 5, none⟩ = some (.string tq) := B9x4.cell 5
              have HO3 := Lib.hid (show (x4.alloc (.cells #[.bool (nu || nu2), .bool true, .int .i64 lo, .int .i64 hi', .string fr, .string tq] 51)).ownsRow (w.heap.size + 4) 51 6 v k ((T.take k).flatMap Sd.cells) from own_below HO.out hd3)
              have HK3 := Lib.hid (show Blk (x4.alloc (.cells #[.bool (nu || nu2), .bool true, .int .i64 lo, .int .i64 hi', .string fr, .string tq] 51)) (w.heap.size + 3) 24 #[.int .i64 t, v] from HK.out.below hd3)
              have HR3 := Lib.hid (show Blk (x4.alloc (.cells #[.bool (nu || nu2), .bool true, .int .i64 lo, .int .i64 hi', .string fr, .string tq] 51)) (w.heap.size + 2) 24 #[.int .i64 0, .slice none 0 0] from HR.out.below hd3)
              have HY3 := Lib.hid (show Blk (x4.alloc (.cells #[.bool (nu || nu2), .bool true, .int .i64 lo, .int .i64 hi', .string fr, .string tq] 51)) (w.heap.size + 1) 24 #[.int .i64 u, .slice (some ⟨b2, off2, none⟩) n c2] from HY.out.below hd3)
              have HX3 := Lib.hid (show Blk (x4.alloc (.cells #[.bool (nu || nu2), .bool true, .int .i64 lo, .int .i64 hi', .string fr, .string tq] 51)) w.heap.size 24 #[.int .i64 t, .slice (some ⟨b, off, none⟩) n c] from HXA.out.below hd3)
              have HB3 := Lib.hid (show Below w.heap.size w (x4.alloc (.cells #[.bool (nu || nu2), .bool true, .int .i64 lo, .int .i64 hi', .string fr, .string tq] 51)) from HB.out.trans (hd3.mono HB.out.size))
              have HT2 := Lib.hid (show (T.take (k + 1)).flatMap Sd.cells = (T.take k).flatMap Sd.cells ++ [.bool (nu || nu2), .bool true, .int .i64 lo, .int .i64 hi', .string fr, .string tq] by rw [HT.out]; first | rfl | (rw [HZZ.out]; done))
              have HN3 : Hid (Src Try.prog 6 22 (.slice (some ⟨x4.heap.size, 0, none⟩) 1 1) 1 [.bool (nu || nu2), .bool true, .int .i64 lo, .int .i64 hi', .string fr, .string tq] (x4.alloc (.cells #[.bool (nu || nu2), .bool true, .int .i64 lo, .int .i64 hi', .string fr, .string tq] 51))) := Lib.hid (src_blk (c := 1) Try.underlying22 rfl (cells_one ⟨nu || nu2, true, _, _, _, _⟩) (show Blk (x4.alloc (.cells #[.bool (nu || nu2), .bool true, .int .i64 lo, .int .i64 hi', .string fr, .string tq] 51)) x4.heap.size 51 #[.bool (nu || nu2), .bool true, .int .i64 lo, .int .i64 hi', .string fr, .string tq] from Blk.new _ _ _))
              have hsz := hbx4.2.2.size
              clear HT hbx4 B9x4 hd3
              go_wp2_with (at_builtin; go_loud (refine wpList_append_src _ rfl _ _ 22 22 rfl (w.heap.size + 4) 51 i0 zS 6 56 Try.underlying22 hi hz0 hz1 hz2 rfl v k _ rfl HO3.out _ 1 [.bool (nu || nu2), .bool true, .int .i64 lo, .int .i64 hi', .string fr, .string tq] rfl HN3.out ?c1 ?c2 ?c3 ?_))
              case c1 => unfold maxLen; omega
              case c2 => omega
              case c3 => exact Nat.le_trans (by omega) hs3
              intro v' w4 own' hg _
              obtain ⟨g1, g2, g3, g4, g5⟩ := Bx.step HK3.out HO3.out (by decide) own' hg
              rw [← HT2.out] at g3
              obtain ⟨A3, a3, rfl, -⟩ := At.of_own own'
              have G2 := Lib.hid g2
              have G3 := Lib.hid g3
              have G4 := Lib.hid (g4 _ _ _ (by omega) (by decide) HR3.out)
              have G6 := Lib.hid (g4 _ _ _ (by omega) (by decide) HY3.out)
              have G7 := Lib.hid (g4 _ _ _ (by omega) (by decide) HX3.out)
              have G5 := Lib.hid (g5 _ _ HB3.out (by omega) (by omega) (Nat.le_trans (by omega) hs3))
              have g1c : w4.cell? ⟨w.heap.size + 1 + 1 + 1, 1, none⟩ = some v := g1.cell 1
              have f3 : w4.frozen? ⟨w.heap.size + 1 + 1 + 1, 1, none⟩ = false := Joins.unfrozen_of_block g1 1
              clear g1 g2 g3 g4 g5 own' hg
              go_wp2
              go_roundw
              case rel => exact ⟨k + 1, _, by go_num, hlt, G7.out, G6.out, G4.out, G2.out, G3.out, G5.out⟩
              case measure => simp [intOf]; omega
            · have B9 : Blk wc g9 51 #[.bool (nu || nu2), .bool true, .int .i64 0, .int .i64 0, .string ⟨#[]⟩, .string ⟨#[]⟩] := B9
              obtain ⟨z1, hz1⟩ : ∃ z, (if lo2 < lo then lo2 else lo) = z := ⟨_, rfl⟩
              obtain ⟨z2, hz2⟩ : ∃ z, (if hi' < hi2' then hi2' else hi') = z := ⟨_, rfl⟩
              obtain ⟨mx, hmx⟩ : ∃ z, tmx tq to2 = z := ⟨_, rfl⟩
              obtain ⟨mn, hmn⟩ : ∃ z, tmn fr fr2 = z := ⟨_, rfl⟩
              have qx1 : ∀ w, (Builtin.max_ #[9, 9] 9 #[.string tq, .string to2]).run Try.prog w = .ok (.string mx) w := fun w => by rw [run_max_str, hmx]
              have qx2 : ∀ w, (Builtin.min_ #[9, 9] 9 #[.string fr, .string fr2]).run Try.prog w = .ok (.string mn) w := fun w => by rw [run_min_str, hmn]
              have HZZ := Lib.hid (show Sd.cells (rM ⟨nu, true, lo, hi', fr, tq⟩ ⟨nu2, true, lo2, hi2', fr2, to2⟩) = [.bool (nu || nu2), .bool true, .int .i64 z1, .int .i64 z2, .string mn, .string mx] by rw [← hz1, ← hz2, ← hmx, ← hmn]; rfl)
              have Hz1 := Lib.hid hz1
              have Hz2 := Lib.hid hz2
              clear hz1 hz2 hmx hmn
              have c71 : wc.cell? ⟨g7, 1, none⟩ = some (.bool true) := B7.cell 1
              have c81 : wc.cell? ⟨g8, 1, none⟩ = some (.bool true) := B8.cell 1
              go_upto_region 13 with fail
              clear c71 c81
              have hb : Blk wc.drew g7 51 #[.bool nu, .bool true, .int .i64 lo, .int .i64 hi', .string fr, .string tq] ∧ Blk wc.drew g8 51 #[.bool nu2, .bool true, .int .i64 lo2, .int .i64 hi2', .string fr2, .string to2] ∧ Below wr.heap.size wr wc.drew := ⟨B7.drew, B8.drew, below_drew hW⟩
              replace B9 := B9.drew
              clear B7 B8 hW
              refine wp_region_mix 27 (fun w' => Blk w' g7 51 #[.bool nu, .bool true, .int .i64 lo, .int .i64 hi', .string fr, .string tq] ∧ Blk w' g8 51 #[.bool nu2, .bool true, .int .i64 lo2, .int .i64 hi2', .string fr2, .string to2] ∧ Below wr.heap.size wr w') (by kernel_rfl) (by decide) ?_
              generalize wc.drew = x0 at *
              refine wpM_take (i := 0) (oi := ⟨some 72, _, _, _, _, _⟩) (v := ?_) rfl (by decide +kernel) (by decide +kernel) (by decide +kernel) (fun _ _ _ h => h) (Or.inl ⟨by rfl, ?_⟩) hb ?_
              case refine_2 =>
                intro w' hSw
                have sg72 : w'.cell? ⟨g7, 2, none⟩ = some (.int .i64 lo) := hSw.1.cell 2
                have sg73 : w'.cell? ⟨g7, 3, none⟩ = some (.int .i64 hi') := hSw.1.cell 3
                have sg74 : w'.cell? ⟨g7, 4, none⟩ = some (.string fr) := hSw.1.cell 4
                have sg75 : w'.cell? ⟨g7, 5, none⟩ = some (.string tq) := hSw.1.cell 5
                have sg82 : w'.cell? ⟨g8, 2, none⟩ = some (.int .i64 lo2) := hSw.2.1.cell 2
                have sg83 : w'.cell? ⟨g8, 3, none⟩ = some (.int .i64 hi2') := hSw.2.1.cell 3
                have sg84 : w'.cell? ⟨g8, 4, none⟩ = some (.string fr2) := hSw.2.1.cell 4
                have sg85 : w'.cell? ⟨g8, 5, none⟩ = some (.string to2) := hSw.2.1.cell 5
                go_simp
                try (with_reducible rfl)
              try simp only [Act.put, List.setIfInBounds_toArray, List.set_cons_zero, List.set_cons_succ]
              refine wpM_take (i := 1) (oi := ⟨some 73, _, _, _, _, _⟩) (v := ?_) rfl (by decide +kernel) (by decide +kernel) (by decide +kernel) (fun _ _ _ h => h) (Or.inl ⟨by rfl, ?_⟩) hb ?_
              case refine_2 =>
                intro w' hSw
                have sg72 : w'.cell? ⟨g7, 2, none⟩ = some (.int .i64 lo) := hSw.1.cell 2
                have sg73 : w'.cell? ⟨g7, 3, none⟩ = some (.int .i64 hi') := hSw.1.cell 3
                have sg74 : w'.cell? ⟨g7, 4, none⟩ = some (.string fr) := hSw.1.cell 4
                have sg75 : w'.cell? ⟨g7, 5, none⟩ = some (.string tq) := hSw.1.cell 5
                have sg82 : w'.cell? ⟨g8, 2, none⟩ = some (.int .i64 lo2) := hSw.2.1.cell 2
                have sg83 : w'.cell? ⟨g8, 3, none⟩ = some (.int .i64 hi2') := hSw.2.1.cell 3
                have sg84 : w'.cell? ⟨g8, 4, none⟩ = some (.string fr2) := hSw.2.1.cell 4
                have sg85 : w'.cell? ⟨g8, 5, none⟩ = some (.string to2) := hSw.2.1.cell 5
                go_simp
                try (with_reducible rfl)
              try simp only [Act.put, List.setIfInBounds_toArray, List.set_cons_zero, List.set_cons_succ]
              refine wpM_take (i := 2) (oi := ⟨some 74, _, _, _, _, _⟩) (v := ?_) rfl (by decide +kernel) (by decide +kernel) (by decide +kernel) (fun _ _ _ h => h) (Or.inl ⟨by rfl, ?_⟩) hb ?_
              case refine_2 =>
                intro w' hSw
                have sg72 : w'.cell? ⟨g7, 2, none⟩ = some (.int .i64 lo) := hSw.1.cell 2
                have sg73 : w'.cell? ⟨g7, 3, none⟩ = some (.int .i64 hi') := hSw.1.cell 3
                have sg74 : w'.cell? ⟨g7, 4, none⟩ = some (.string fr) := hSw.1.cell 4
                have sg75 : w'.cell? ⟨g7, 5, none⟩ = some (.string tq) := hSw.1.cell 5
                have sg82 : w'.cell? ⟨g8, 2, none⟩ = some (.int .i64 lo2) := hSw.2.1.cell 2
                have sg83 : w'.cell? ⟨g8, 3, none⟩ = some (.int .i64 hi2') := hSw.2.1.cell 3
                have sg84 : w'.cell? ⟨g8, 4, none⟩ = some (.string fr2) := hSw.2.1.cell 4
                have sg85 : w'.cell? ⟨g8, 5, none⟩ = some (.string to2) := hSw.2.1.cell 5
                go_simp
                try (with_reducible rfl)
              try simp only [Act.put, List.setIfInBounds_toArray, List.set_cons_zero, List.set_cons_succ]
              refine wpM_take (i := 3) (oi := ⟨some 75, _, _, _, _, _⟩) (v := ?_) rfl (by decide +kernel) (by decide +kernel) (by decide +kernel) (fun _ _ _ h => h) (Or.inl ⟨by rfl, ?_⟩) hb ?_
              case refine_2 =>
                intro w' hSw
                have sg72 : w'.cell? ⟨g7, 2, none⟩ = some (.int .i64 lo) := hSw.1.cell 2
                have sg73 : w'.cell? ⟨g7, 3, none⟩ = some (.int .i64 hi') := hSw.1.cell 3
                have sg74 : w'.cell? ⟨g7, 4, none⟩ = some (.string fr) := hSw.1.cell 4
                have sg75 : w'.cell? ⟨g7, 5, none⟩ = some (.string tq) := hSw.1.cell 5
                have sg82 : w'.cell? ⟨g8, 2, none⟩ = some (.int .i64 lo2) := hSw.2.1.cell 2
                have sg83 : w'.cell? ⟨g8, 3, none⟩ = some (.int .i64 hi2') := hSw.2.1.cell 3
                have sg84 : w'.cell? ⟨g8, 4, none⟩ = some (.string fr2) := hSw.2.1.cell 4
                have sg85 : w'.cell? ⟨g8, 5, none⟩ = some (.string to2) := hSw.2.1.cell 5
                go_simp
                try (with_reducible rfl)
              try simp only [Act.put, List.setIfInBounds_toArray, List.set_cons_zero, List.set_cons_succ]
              refine wpM_take (i := 4) (oi := ⟨some 76, _, _, _, _, _⟩) (v := ?_) rfl (by decide +kernel) (by decide +kernel) (by decide +kernel) (fun _ _ _ h => h) (Or.inl ⟨by rfl, ?_⟩) hb ?_
              case refine_2 =>
                intro w' hSw
                have sg72 : w'.cell? ⟨g7, 2, none⟩ = some (.int .i64 lo) := hSw.1.cell 2
                have sg73 : w'.cell? ⟨g7, 3, none⟩ = some (.int .i64 hi') := hSw.1.cell 3
                have sg74 : w'.cell? ⟨g7, 4, none⟩ = some (.string fr) := hSw.1.cell 4
                have sg75 : w'.cell? ⟨g7, 5, none⟩ = some (.string tq) := hSw.1.cell 5
                have sg82 : w'.cell? ⟨g8, 2, none⟩ = some (.int .i64 lo2) := hSw.2.1.cell 2
                have sg83 : w'.cell? ⟨g8, 3, none⟩ = some (.int .i64 hi2') := hSw.2.1.cell 3
                have sg84 : w'.cell? ⟨g8, 4, none⟩ = some (.string fr2) := hSw.2.1.cell 4
                have sg85 : w'.cell? ⟨g8, 5, none⟩ = some (.string to2) := hSw.2.1.cell 5
                go_simp
                try (with_reducible rfl)
              try simp only [Act.put, List.setIfInBounds_toArray, List.set_cons_zero, List.set_cons_succ]
              refine wpM_take (i := 5) (oi := ⟨some 77, _, _, _, _, _⟩) (v := ?_) rfl (by decide +kernel) (by decide +kernel) (by decide +kernel) (fun _ _ _ h => h) (Or.inl ⟨by rfl, ?_⟩) hb ?_
              case refine_2 =>
                intro w' hSw
                have sg72 : w'.cell? ⟨g7, 2, none⟩ = some (.int .i64 lo) := hSw.1.cell 2
                have sg73 : w'.cell? ⟨g7, 3, none⟩ = some (.int .i64 hi') := hSw.1.cell 3
                have sg74 : w'.cell? ⟨g7, 4, none⟩ = some (.string fr) := hSw.1.cell 4
                have sg75 : w'.cell? ⟨g7, 5, none⟩ = some (.string tq) := hSw.1.cell 5
                have sg82 : w'.cell? ⟨g8, 2, none⟩ = some (.int .i64 lo2) := hSw.2.1.cell 2
                have sg83 : w'.cell? ⟨g8, 3, none⟩ = some (.int .i64 hi2') := hSw.2.1.cell 3
                have sg84 : w'.cell? ⟨g8, 4, none⟩ = some (.string fr2) := hSw.2.1.cell 4
                have sg85 : w'.cell? ⟨g8, 5, none⟩ = some (.string to2) := hSw.2.1.cell 5
                go_simp
                try (with_reducible rfl)
              try simp only [Act.put, List.setIfInBounds_toArray, List.set_cons_zero, List.set_cons_succ]
              refine wpM_take (i := 6) (oi := ⟨some 78, _, _, _, _, _⟩) (v := ?_) rfl (by decide +kernel) (by decide +kernel) (by decide +kernel) (fun _ _ _ h => h) (Or.inl ⟨by rfl, ?_⟩) hb ?_
              case refine_2 =>
                intro w' hSw
                have sg72 : w'.cell? ⟨g7, 2, none⟩ = some (.int .i64 lo) := hSw.1.cell 2
                have sg73 : w'.cell? ⟨g7, 3, none⟩ = some (.int .i64 hi') := hSw.1.cell 3
                have sg74 : w'.cell? ⟨g7, 4, none⟩ = some (.string fr) := hSw.1.cell 4
                have sg75 : w'.cell? ⟨g7, 5, none⟩ = some (.string tq) := hSw.1.cell 5
                have sg82 : w'.cell? ⟨g8, 2, none⟩ = some (.int .i64 lo2) := hSw.2.1.cell 2
                have sg83 : w'.cell? ⟨g8, 3, none⟩ = some (.int .i64 hi2') := hSw.2.1.cell 3
                have sg84 : w'.cell? ⟨g8, 4, none⟩ = some (.string fr2) := hSw.2.1.cell 4
                have sg85 : w'.cell? ⟨g8, 5, none⟩ = some (.string to2) := hSw.2.1.cell 5
                go_simp
                try (with_reducible rfl)
              try simp only [Act.put, List.setIfInBounds_toArray, List.set_cons_zero, List.set_cons_succ]
              refine wpM_take (i := 7) (oi := ⟨some 79, _, _, _, _, _⟩) (v := ?_) rfl (by decide +kernel) (by decide +kernel) (by decide +kernel) (fun _ _ _ h => h) (Or.inl ⟨by rfl, ?_⟩) hb ?_
              case refine_2 =>
                intro w' hSw
                have sg72 : w'.cell? ⟨g7, 2, none⟩ = some (.int .i64 lo) := hSw.1.cell 2
                have sg73 : w'.cell? ⟨g7, 3, none⟩ = some (.int .i64 hi') := hSw.1.cell 3
                have sg74 : w'.cell? ⟨g7, 4, none⟩ = some (.string fr) := hSw.1.cell 4
                have sg75 : w'.cell? ⟨g7, 5, none⟩ = some (.string tq) := hSw.1.cell 5
                have sg82 : w'.cell? ⟨g8, 2, none⟩ = some (.int .i64 lo2) := hSw.2.1.cell 2
                have sg83 : w'.cell? ⟨g8, 3, none⟩ = some (.int .i64 hi2') := hSw.2.1.cell 3
                have sg84 : w'.cell? ⟨g8, 4, none⟩ = some (.string fr2) := hSw.2.1.cell 4
                have sg85 : w'.cell? ⟨g8, 5, none⟩ = some (.string to2) := hSw.2.1.cell 5
                go_simp
                try (with_reducible rfl)
              try simp only [Act.put, List.setIfInBounds_toArray, List.set_cons_zero, List.set_cons_succ]
              refine wpM_take (i := 8) (oi := ⟨some 80, _, _, _, _, _⟩) (v := ?_) rfl (by decide +kernel) (by decide +kernel) (by decide +kernel) (fun _ _ _ h => h) (Or.inl ⟨by rfl, ?_⟩) hb ?_
              case refine_2 =>
                intro w' hSw
                have sg72 : w'.cell? ⟨g7, 2, none⟩ = some (.int .i64 lo) := hSw.1.cell 2
                have sg73 : w'.cell? ⟨g7, 3, none⟩ = some (.int .i64 hi') := hSw.1.cell 3
                have sg74 : w'.cell? ⟨g7, 4, none⟩ = some (.string fr) := hSw.1.cell 4
                have sg75 : w'.cell? ⟨g7, 5, none⟩ = some (.string tq) := hSw.1.cell 5
                have sg82 : w'.cell? ⟨g8, 2, none⟩ = some (.int .i64 lo2) := hSw.2.1.cell 2
                have sg83 : w'.cell? ⟨g8, 3, none⟩ = some (.int .i64 hi2') := hSw.2.1.cell 3
                have sg84 : w'.cell? ⟨g8, 4, none⟩ = some (.string fr2) := hSw.2.1.cell 4
                have sg85 : w'.cell? ⟨g8, 5, none⟩ = some (.string to2) := hSw.2.1.cell 5
                go_simp
                try (with_reducible rfl)
              try simp only [Act.put, List.setIfInBounds_toArray, List.set_cons_zero, List.set_cons_succ]
              refine wpM_take (i := 9) (oi := ⟨some 81, _, _, _, _, _⟩) (v := ?_) rfl (by decide +kernel) (by decide +kernel) (by decide +kernel) (fun _ _ _ h => h) (Or.inl ⟨by rfl, ?_⟩) hb ?_
              case refine_2 =>
                intro w' hSw
                have sg72 : w'.cell? ⟨g7, 2, none⟩ = some (.int .i64 lo) := hSw.1.cell 2
                have sg73 : w'.cell? ⟨g7, 3, none⟩ = some (.int .i64 hi') := hSw.1.cell 3
                have sg74 : w'.cell? ⟨g7, 4, none⟩ = some (.string fr) := hSw.1.cell 4
                have sg75 : w'.cell? ⟨g7, 5, none⟩ = some (.string tq) := hSw.1.cell 5
                have sg82 : w'.cell? ⟨g8, 2, none⟩ = some (.int .i64 lo2) := hSw.2.1.cell 2
                have sg83 : w'.cell? ⟨g8, 3, none⟩ = some (.int .i64 hi2') := hSw.2.1.cell 3
                have sg84 : w'.cell? ⟨g8, 4, none⟩ = some (.string fr2) := hSw.2.1.cell 4
                have sg85 : w'.cell? ⟨g8, 5, none⟩ = some (.string to2) := hSw.2.1.cell 5
                go_simp
                try (with_reducible rfl)
              try simp only [Act.put, List.setIfInBounds_toArray, List.set_cons_zero, List.set_cons_succ]
              refine wpM_take (i := 10) (oi := ⟨some 82, _, _, _, _, _⟩) (v := ?_) rfl (by decide +kernel) (by decide +kernel) (by decide +kernel) (fun _ _ _ h => h) (Or.inl ⟨by rfl, ?_⟩) hb ?_
              case refine_2 =>
                intro w' hSw
                have sg72 : w'.cell? ⟨g7, 2, none⟩ = some (.int .i64 lo) := hSw.1.cell 2
                have sg73 : w'.cell? ⟨g7, 3, none⟩ = some (.int .i64 hi') := hSw.1.cell 3
                have sg74 : w'.cell? ⟨g7, 4, none⟩ = some (.string fr) := hSw.1.cell 4
                have sg75 : w'.cell? ⟨g7, 5, none⟩ = some (.string tq) := hSw.1.cell 5
                have sg82 : w'.cell? ⟨g8, 2, none⟩ = some (.int .i64 lo2) := hSw.2.1.cell 2
                have sg83 : w'.cell? ⟨g8, 3, none⟩ = some (.int .i64 hi2') := hSw.2.1.cell 3
                have sg84 : w'.cell? ⟨g8, 4, none⟩ = some (.string fr2) := hSw.2.1.cell 4
                have sg85 : w'.cell? ⟨g8, 5, none⟩ = some (.string to2) := hSw.2.1.cell 5
                go_simp
                try (with_reducible rfl)
              try simp only [Act.put, List.setIfInBounds_toArray, List.set_cons_zero, List.set_cons_succ]
              refine wpM_take (i := 11) (oi := ⟨some 83, _, _, _, _, _⟩) (v := ?_) rfl (by decide +kernel) (by decide +kernel) (by decide +kernel) (fun _ _ _ h => h) (Or.inl ⟨by rfl, ?_⟩) hb ?_
              case refine_2 =>
                intro w' hSw
                have sg72 : w'.cell? ⟨g7, 2, none⟩ = some (.int .i64 lo) := hSw.1.cell 2
                have sg73 : w'.cell? ⟨g7, 3, none⟩ = some (.int .i64 hi') := hSw.1.cell 3
                have sg74 : w'.cell? ⟨g7, 4, none⟩ = some (.string fr) := hSw.1.cell 4
                have sg75 : w'.cell? ⟨g7, 5, none⟩ = some (.string tq) := hSw.1.cell 5
                have sg82 : w'.cell? ⟨g8, 2, none⟩ = some (.int .i64 lo2) := hSw.2.1.cell 2
                have sg83 : w'.cell? ⟨g8, 3, none⟩ = some (.int .i64 hi2') := hSw.2.1.cell 3
                have sg84 : w'.cell? ⟨g8, 4, none⟩ = some (.string fr2) := hSw.2.1.cell 4
                have sg85 : w'.cell? ⟨g8, 5, none⟩ = some (.string to2) := hSw.2.1.cell 5
                go_simp
                try (with_reducible rfl)
              try simp only [Act.put, List.setIfInBounds_toArray, List.set_cons_zero, List.set_cons_succ]
              refine wpM_take (i := 12) (oi := ⟨some 84, _, _, _, _, _⟩) (v := ?_) rfl (by decide +kernel) (by decide +kernel) (by decide +kernel) (fun _ _ _ h => h) (Or.inl ⟨by rfl, ?_⟩) hb ?_
              case refine_2 =>
                intro w' hSw
                have sg72 : w'.cell? ⟨g7, 2, none⟩ = some (.int .i64 lo) := hSw.1.cell 2
                have sg73 : w'.cell? ⟨g7, 3, none⟩ = some (.int .i64 hi') := hSw.1.cell 3
                have sg74 : w'.cell? ⟨g7, 4, none⟩ = some (.string fr) := hSw.1.cell 4
                have sg75 : w'.cell? ⟨g7, 5, none⟩ = some (.string tq) := hSw.1.cell 5
                have sg82 : w'.cell? ⟨g8, 2, none⟩ = some (.int .i64 lo2) := hSw.2.1.cell 2
                have sg83 : w'.cell? ⟨g8, 3, none⟩ = some (.int .i64 hi2') := hSw.2.1.cell 3
                have sg84 : w'.cell? ⟨g8, 4, none⟩ = some (.string fr2) := hSw.2.1.cell 4
                have sg85 : w'.cell? ⟨g8, 5, none⟩ = some (.string to2) := hSw.2.1.cell 5
                go_simp
                try (with_reducible rfl)
              try simp only [Act.put, List.setIfInBounds_toArray, List.set_cons_zero, List.set_cons_succ]
              refine wpM_take (i := 13) (oi := ⟨some 85, _, _, _, _, _⟩) (v := ?_) rfl (by decide +kernel) (by decide +kernel) (by decide +kernel) (fun _ _ _ h => h) (Or.inl ⟨by rfl, ?_⟩) hb ?_
              case refine_2 =>
                intro w' hSw
                have sg72 : w'.cell? ⟨g7, 2, none⟩ = some (.int .i64 lo) := hSw.1.cell 2
                have sg73 : w'.cell? ⟨g7, 3, none⟩ = some (.int .i64 hi') := hSw.1.cell 3
                have sg74 : w'.cell? ⟨g7, 4, none⟩ = some (.string fr) := hSw.1.cell 4
                have sg75 : w'.cell? ⟨g7, 5, none⟩ = some (.string tq) := hSw.1.cell 5
                have sg82 : w'.cell? ⟨g8, 2, none⟩ = some (.int .i64 lo2) := hSw.2.1.cell 2
                have sg83 : w'.cell? ⟨g8, 3, none⟩ = some (.int .i64 hi2') := hSw.2.1.cell 3
                have sg84 : w'.cell? ⟨g8, 4, none⟩ = some (.string fr2) := hSw.2.1.cell 4
                have sg85 : w'.cell? ⟨g8, 5, none⟩ = some (.string to2) := hSw.2.1.cell 5
                go_simp
                try (with_reducible rfl)
              try simp only [Act.put, List.setIfInBounds_toArray, List.set_cons_zero, List.set_cons_succ]
              refine wpM_take (i := 14) (oi := ⟨some 86, _, _, _, _, _⟩) (v := ?_) rfl (by decide +kernel) (by decide +kernel) (by decide +kernel) (fun _ _ _ h => h) (Or.inl ⟨by rfl, ?_⟩) hb ?_
              case refine_2 =>
                intro w' hSw
                have sg72 : w'.cell? ⟨g7, 2, none⟩ = some (.int .i64 lo) := hSw.1.cell 2
                have sg73 : w'.cell? ⟨g7, 3, none⟩ = some (.int .i64 hi') := hSw.1.cell 3
                have sg74 : w'.cell? ⟨g7, 4, none⟩ = some (.string fr) := hSw.1.cell 4
                have sg75 : w'.cell? ⟨g7, 5, none⟩ = some (.string tq) := hSw.1.cell 5
                have sg82 : w'.cell? ⟨g8, 2, none⟩ = some (.int .i64 lo2) := hSw.2.1.cell 2
                have sg83 : w'.cell? ⟨g8, 3, none⟩ = some (.int .i64 hi2') := hSw.2.1.cell 3
                have sg84 : w'.cell? ⟨g8, 4, none⟩ = some (.string fr2) := hSw.2.1.cell 4
                have sg85 : w'.cell? ⟨g8, 5, none⟩ = some (.string to2) := hSw.2.1.cell 5
                go_simp
                try (with_reducible rfl)
              try simp only [Act.put, List.setIfInBounds_toArray, List.set_cons_zero, List.set_cons_succ]
              refine wpM_take (i := 15) (oi := ⟨some 87, _, _, _, _, _⟩) (v := ?_) rfl (by decide +kernel) (by decide +kernel) (by decide +kernel) (fun _ _ _ h => h) (Or.inl ⟨by rfl, ?_⟩) hb ?_
              case refine_2 =>
                intro w' hSw
                have sg72 : w'.cell? ⟨g7, 2, none⟩ = some (.int .i64 lo) := hSw.1.cell 2
                have sg73 : w'.cell? ⟨g7, 3, none⟩ = some (.int .i64 hi') := hSw.1.cell 3
                have sg74 : w'.cell? ⟨g7, 4, none⟩ = some (.string fr) := hSw.1.cell 4
                have sg75 : w'.cell? ⟨g7, 5, none⟩ = some (.string tq) := hSw.1.cell 5
                have sg82 : w'.cell? ⟨g8, 2, none⟩ = some (.int .i64 lo2) := hSw.2.1.cell 2
                have sg83 : w'.cell? ⟨g8, 3, none⟩ = some (.int .i64 hi2') := hSw.2.1.cell 3
                have sg84 : w'.cell? ⟨g8, 4, none⟩ = some (.string fr2) := hSw.2.1.cell 4
                have sg85 : w'.cell? ⟨g8, 5, none⟩ = some (.string to2) := hSw.2.1.cell 5
                go_simp
                try (with_reducible rfl)
              try simp only [Act.put, List.setIfInBounds_toArray, List.set_cons_zero, List.set_cons_succ]
              refine wpM_take (i := 16) (oi := ⟨some 88, _, _, _, _, _⟩) (v := ?_) rfl (by decide +kernel) (by decide +kernel) (by decide +kernel) (fun _ _ _ h => h) (Or.inl ⟨by rfl, ?_⟩) hb ?_
              case refine_2 =>
                intro w' hSw
                have sg72 : w'.cell? ⟨g7, 2, none⟩ = some (.int .i64 lo) := hSw.1.cell 2
                have sg73 : w'.cell? ⟨g7, 3, none⟩ = some (.int .i64 hi') := hSw.1.cell 3
                have sg74 : w'.cell? ⟨g7, 4, none⟩ = some (.string fr) := hSw.1.cell 4
                have sg75 : w'.cell? ⟨g7, 5, none⟩ = some (.string tq) := hSw.1.cell 5
                have sg82 : w'.cell? ⟨g8, 2, none⟩ = some (.int .i64 lo2) := hSw.2.1.cell 2
                have sg83 : w'.cell? ⟨g8, 3, none⟩ = some (.int .i64 hi2') := hSw.2.1.cell 3
                have sg84 : w'.cell? ⟨g8, 4, none⟩ = some (.string fr2) := hSw.2.1.cell 4
                have sg85 : w'.cell? ⟨g8, 5, none⟩ = some (.string to2) := hSw.2.1.cell 5
                go_simp
                try (with_reducible rfl)
              try simp only [Act.put, List.setIfInBounds_toArray, List.set_cons_zero, List.set_cons_succ]
              refine wpM_take (i := 17) (oi := ⟨some 89, _, _, _, _, _⟩) (v := ?_) rfl (by decide +kernel) (by decide +kernel) (by decide +kernel) (fun _ _ _ h => h) (Or.inl ⟨by rfl, ?_⟩) hb ?_
              case refine_2 =>
                intro w' hSw
                have sg72 : w'.cell? ⟨g7, 2, none⟩ = some (.int .i64 lo) := hSw.1.cell 2
                have sg73 : w'.cell? ⟨g7, 3, none⟩ = some (.int .i64 hi') := hSw.1.cell 3
                have sg74 : w'.cell? ⟨g7, 4, none⟩ = some (.string fr) := hSw.1.cell 4
                have sg75 : w'.cell? ⟨g7, 5, none⟩ = some (.string tq) := hSw.1.cell 5
                have sg82 : w'.cell? ⟨g8, 2, none⟩ = some (.int .i64 lo2) := hSw.2.1.cell 2
                have sg83 : w'.cell? ⟨g8, 3, none⟩ = some (.int .i64 hi2') := hSw.2.1.cell 3
                have sg84 : w'.cell? ⟨g8, 4, none⟩ = some (.string fr2) := hSw.2.1.cell 4
                have sg85 : w'.cell? ⟨g8, 5, none⟩ = some (.string to2) := hSw.2.1.cell 5
                go_simp
                try (with_reducible rfl)
              try simp only [Act.put, List.setIfInBounds_toArray, List.set_cons_zero, List.set_cons_succ]
              refine wpM_take (i := 18) (oi := ⟨some 90, _, _, _, _, _⟩) (v := ?_) rfl (by decide +kernel) (by decide +kernel) (by decide +kernel) (fun _ _ _ h => h) (Or.inl ⟨by rfl, ?_⟩) hb ?_
              case refine_2 =>
                intro w' hSw
                have sg72 : w'.cell? ⟨g7, 2, none⟩ = some (.int .i64 lo) := hSw.1.cell 2
                have sg73 : w'.cell? ⟨g7, 3, none⟩ = some (.int .i64 hi') := hSw.1.cell 3
                have sg74 : w'.cell? ⟨g7, 4, none⟩ = some (.string fr) := hSw.1.cell 4
                have sg75 : w'.cell? ⟨g7, 5, none⟩ = some (.string tq) := hSw.1.cell 5
                have sg82 : w'.cell? ⟨g8, 2, none⟩ = some (.int .i64 lo2) := hSw.2.1.cell 2
                have sg83 : w'.cell? ⟨g8, 3, none⟩ = some (.int .i64 hi2') := hSw.2.1.cell 3
                have sg84 : w'.cell? ⟨g8, 4, none⟩ = some (.string fr2) := hSw.2.1.cell 4
                have sg85 : w'.cell? ⟨g8, 5, none⟩ = some (.string to2) := hSw.2.1.cell 5
                go_simp
                try (with_reducible rfl)
              try simp only [Act.put, List.setIfInBounds_toArray, List.set_cons_zero, List.set_cons_succ]
              refine wpM_take (i := 19) (oi := ⟨some 91, _, _, _, _, _⟩) (v := ?_) rfl (by decide +kernel) (by decide +kernel) (by decide +kernel) (fun _ _ _ h => h) (Or.inl ⟨by rfl, ?_⟩) hb ?_
              case refine_2 =>
                intro w' hSw
                have sg72 : w'.cell? ⟨g7, 2, none⟩ = some (.int .i64 lo) := hSw.1.cell 2
                have sg73 : w'.cell? ⟨g7, 3, none⟩ = some (.int .i64 hi') := hSw.1.cell 3
                have sg74 : w'.cell? ⟨g7, 4, none⟩ = some (.string fr) := hSw.1.cell 4
                have sg75 : w'.cell? ⟨g7, 5, none⟩ = some (.string tq) := hSw.1.cell 5
                have sg82 : w'.cell? ⟨g8, 2, none⟩ = some (.int .i64 lo2) := hSw.2.1.cell 2
                have sg83 : w'.cell? ⟨g8, 3, none⟩ = some (.int .i64 hi2') := hSw.2.1.cell 3
                have sg84 : w'.cell? ⟨g8, 4, none⟩ = some (.string fr2) := hSw.2.1.cell 4
                have sg85 : w'.cell? ⟨g8, 5, none⟩ = some (.string to2) := hSw.2.1.cell 5
                go_simp
                try (with_reducible rfl)
              try simp only [Act.put, List.setIfInBounds_toArray, List.set_cons_zero, List.set_cons_succ]
              refine wpM_take (i := 20) (oi := ⟨some 92, _, _, _, _, _⟩) (v := ?_) rfl (by decide +kernel) (by decide +kernel) (by decide +kernel) (fun _ _ _ h => h) (Or.inl ⟨by rfl, ?_⟩) hb ?_
              case refine_2 =>
                intro w' hSw
                have sg72 : w'.cell? ⟨g7, 2, none⟩ = some (.int .i64 lo) := hSw.1.cell 2
                have sg73 : w'.cell? ⟨g7, 3, none⟩ = some (.int .i64 hi') := hSw.1.cell 3
                have sg74 : w'.cell? ⟨g7, 4, none⟩ = some (.string fr) := hSw.1.cell 4
                have sg75 : w'.cell? ⟨g7, 5, none⟩ = some (.string tq) := hSw.1.cell 5
                have sg82 : w'.cell? ⟨g8, 2, none⟩ = some (.int .i64 lo2) := hSw.2.1.cell 2
                have sg83 : w'.cell? ⟨g8, 3, none⟩ = some (.int .i64 hi2') := hSw.2.1.cell 3
                have sg84 : w'.cell? ⟨g8, 4, none⟩ = some (.string fr2) := hSw.2.1.cell 4
                have sg85 : w'.cell? ⟨g8, 5, none⟩ = some (.string to2) := hSw.2.1.cell 5
                go_simp
                try (with_reducible rfl)
              try simp only [Act.put, List.setIfInBounds_toArray, List.set_cons_zero, List.set_cons_succ]
              try simp only [Hz1.out, Hz2.out]
              refine wpM_step (i := 21) (o := ⟨none, _, _, _, _, _⟩) rfl (by decide +kernel) (by decide) (fun K hK => ?_)
              have cc : x0.cell? ⟨g9, 2, none⟩ = some (.int .i64 0) := B9.cell 2
              have ff : x0.frozen? ⟨g9, 2, none⟩ = false := Joins.unfrozen_of_block B9 2
              go_simp
              obtain ⟨x1, ex1⟩ : ∃ W, W = x0.setCell ⟨g9, 2, none⟩ (.int .i64 z1) := ⟨_, rfl⟩
              have B9x1 : Blk x1 g9 51 #[.bool (nu || nu2), .bool true, .int .i64 z1, .int .i64 0, .string ⟨#[]⟩, .string ⟨#[]⟩] := by rw [ex1]; exact (store_step B9 2 _).1
              have hbx1 : Blk x1 g7 51 #[.bool nu, .bool true, .int .i64 lo, .int .i64 hi', .string fr, .string tq] ∧ Blk x1 g8 51 #[.bool nu2, .bool true, .int .i64 lo2, .int .i64 hi2', .string fr2, .string to2] ∧ Below wr.heap.size wr x1 := by rw [ex1]; exact ⟨(store_step B9 2 _).2.1 _ _ _ n7 hb.1, (store_step B9 2 _).2.1 _ _ _ n8 hb.2.1, (store_step B9 2 _).2.2 _ _ hb.2.2 h9⟩
              rw [← ex1]
              refine hK.out _ _ hbx1 ?_
              clear hK K cc ff ex1 hb B9
              try simp only [Act.put, List.setIfInBounds_toArray, List.set_cons_zero, List.set_cons_succ]
              refine wpM_take (i := 22) (oi := ⟨some 93, _, _, _, _, _⟩) (v := ?_) rfl (by decide +kernel) (by decide +kernel) (by decide +kernel) (fun _ _ _ h => h) (Or.inl ⟨by rfl, ?_⟩) hbx1 ?_
              case refine_2 =>
                intro w' hSw
                have sg72 : w'.cell? ⟨g7, 2, none⟩ = some (.int .i64 lo) := hSw.1.cell 2
                have sg73 : w'.cell? ⟨g7, 3, none⟩ = some (.int .i64 hi') := hSw.1.cell 3
                have sg74 : w'.cell? ⟨g7, 4, none⟩ = some (.string fr) := hSw.1.cell 4
                have sg75 : w'.cell? ⟨g7, 5, none⟩ = some (.string tq) := hSw.1.cell 5
                have sg82 : w'.cell? ⟨g8, 2, none⟩ = some (.int .i64 lo2) := hSw.2.1.cell 2
                have sg83 : w'.cell? ⟨g8, 3, none⟩ = some (.int .i64 hi2') := hSw.2.1.cell 3
                have sg84 : w'.cell? ⟨g8, 4, none⟩ = some (.string fr2) := hSw.2.1.cell 4
                have sg85 : w'.cell? ⟨g8, 5, none⟩ = some (.string to2) := hSw.2.1.cell 5
                go_simp
                try (with_reducible rfl)
              try simp only [Act.put, List.setIfInBounds_toArray, List.set_cons_zero, List.set_cons_succ]
              refine wpM_step (i := 23) (o := ⟨none, _, _, _, _, _⟩) rfl (by decide +kernel) (by decide) (fun K hK => ?_)
              have cc : x1.cell? ⟨g9, 3, none⟩ = some (.int .i64 0) := B9x1.cell 3
              have ff : x1.frozen? ⟨g9, 3, none⟩ = false := Joins.unfrozen_of_block B9x1 3
              go_simp
              obtain ⟨x2, ex2⟩ : ∃ W, W = x1.setCell ⟨g9, 3, none⟩ (.int .i64 z2) := ⟨_, rfl⟩
              have B9x2 : Blk x2 g9 51 #[.bool (nu || nu2), .bool true, .int .i64 z1, .int .i64 z2, .string ⟨#[]⟩, .string ⟨#[]⟩] := by rw [ex2]; exact (store_step B9x1 3 _).1
              have hbx2 : Blk x2 g7 51 #[.bool nu, .bool true, .int .i64 lo, .int .i64 hi', .string fr, .string tq] ∧ Blk x2 g8 51 #[.bool nu2, .bool true, .int .i64 lo2, .int .i64 hi2', .string fr2, .string to2] ∧ Below wr.heap.size wr x2 := by rw [ex2]; exact ⟨(store_step B9x1 3 _).2.1 _ _ _ n7 hbx1.1, (store_step B9x1 3 _).2.1 _ _ _ n8 hbx1.2.1, (store_step B9x1 3 _).2.2 _ _ hbx1.2.2 h9⟩
              rw [← ex2]
              refine hK.out _ _ hbx2 ?_
              clear hK K cc ff ex2 hbx1 B9x1
              try simp only [Act.put, List.setIfInBounds_toArray, List.set_cons_zero, List.set_cons_succ]
              refine wpM_take (i := 24) (oi := ⟨some 94, _, _, _, _, _⟩) (v := ?_) rfl (by decide +kernel) (by decide +kernel) (by decide +kernel) (fun _ _ _ h => h) (Or.inl ⟨by rfl, ?_⟩) hbx2 ?_
              case refine_2 =>
                intro w' hSw
                have sg72 : w'.cell? ⟨g7, 2, none⟩ = some (.int .i64 lo) := hSw.1.cell 2
                have sg73 : w'.cell? ⟨g7, 3, none⟩ = some (.int .i64 hi') := hSw.1.cell 3
                have sg74 : w'.cell? ⟨g7, 4, none⟩ = some (.string fr) := hSw.1.cell 4
                have sg75 : w'.cell? ⟨g7, 5, none⟩ = some (.string tq) := hSw.1.cell 5
                have sg82 : w'.cell? ⟨g8, 2, none⟩ = some (.int .i64 lo2) := hSw.2.1.cell 2
                have sg83 : w'.cell? ⟨g8, 3, none⟩ = some (.int .i64 hi2') := hSw.2.1.cell 3
                have sg84 : w'.cell? ⟨g8, 4, none⟩ = some (.string fr2) := hSw.2.1.cell 4
                have sg85 : w'.cell? ⟨g8, 5, none⟩ = some (.string to2) := hSw.2.1.cell 5
                go_simp
                try (with_reducible rfl)
              try simp only [Act.put, List.setIfInBounds_toArray, List.set_cons_zero, List.set_cons_succ]
              refine wpM_step (i := 25) (o := ⟨none, _, _, _, _, _⟩) rfl (by decide +kernel) (by decide) (fun K hK => ?_)
              have cc : x2.cell? ⟨g9, 4, none⟩ = some (.string ⟨#[]⟩) := B9x2.cell 4
              have ff : x2.frozen? ⟨g9, 4, none⟩ = false := Joins.unfrozen_of_block B9x2 4
              go_simp
              obtain ⟨x3, ex3⟩ : ∃ W, W = x2.setCell ⟨g9, 4, none⟩ (.string mn) := ⟨_, rfl⟩
              have B9x3 : Blk x3 g9 51 #[.bool (nu || nu2), .bool true, .int .i64 z1, .int .i64 z2, .string mn, .string ⟨#[]⟩] := by rw [ex3]; exact (store_step B9x2 4 _).1
              have hbx3 : Blk x3 g7 51 #[.bool nu, .bool true, .int .i64 lo, .int .i64 hi', .string fr, .string tq] ∧ Blk x3 g8 51 #[.bool nu2, .bool true, .int .i64 lo2, .int .i64 hi2', .string fr2, .string to2] ∧ Below wr.heap.size wr x3 := by rw [ex3]; exact ⟨(store_step B9x2 4 _).2.1 _ _ _ n7 hbx2.1, (store_step B9x2 4 _).2.1 _ _ _ n8 hbx2.2.1, (store_step B9x2 4 _).2.2 _ _ hbx2.2.2 h9⟩
              rw [← ex3]
              refine hK.out _ _ hbx3 ?_
              clear hK K cc ff ex3 hbx2 B9x2
              try simp only [Act.put, List.setIfInBounds_toArray, List.set_cons_zero, List.set_cons_succ]
              refine wpM_take (i := 26) (oi := ⟨some 95, _, _, _, _, _⟩) (v := ?_) rfl (by decide +kernel) (by decide +kernel) (by decide +kernel) (fun _ _ _ h => h) (Or.inl ⟨by rfl, ?_⟩) hbx3 ?_
              case refine_2 =>
                intro w' hSw
                have sg72 : w'.cell? ⟨g7, 2, none⟩ = some (.int .i64 lo) := hSw.1.cell 2
                have sg73 : w'.cell? ⟨g7, 3, none⟩ = some (.int .i64 hi') := hSw.1.cell 3
                have sg74 : w'.cell? ⟨g7, 4, none⟩ = some (.string fr) := hSw.1.cell 4
                have sg75 : w'.cell? ⟨g7, 5, none⟩ = some (.string tq) := hSw.1.cell 5
                have sg82 : w'.cell? ⟨g8, 2, none⟩ = some (.int .i64 lo2) := hSw.2.1.cell 2
                have sg83 : w'.cell? ⟨g8, 3, none⟩ = some (.int .i64 hi2') := hSw.2.1.cell 3
                have sg84 : w'.cell? ⟨g8, 4, none⟩ = some (.string fr2) := hSw.2.1.cell 4
                have sg85 : w'.cell? ⟨g8, 5, none⟩ = some (.string to2) := hSw.2.1.cell 5
                go_simp
                try (with_reducible rfl)
              try simp only [Act.put, List.setIfInBounds_toArray, List.set_cons_zero, List.set_cons_succ]
              refine wpM_done (by decide +kernel) ?_
              simp only [List.drop_succ_cons, List.drop_zero]
              have cc : x3.cell? ⟨g9, 5, none⟩ = some (.string ⟨#[]⟩) := B9x3.cell 5
              have ff : x3.frozen? ⟨g9, 5, none⟩ = false := Joins.unfrozen_of_block B9x3 5
              obtain ⟨x4, ex4⟩ : ∃ W, W = x3.setCell ⟨g9, 5, none⟩ (.string mx) := ⟨_, rfl⟩
              have B9x4 : Blk x4 g9 51 #[.bool (nu || nu2), .bool true, .int .i64 z1, .int .i64 z2, .string mn, .string mx] := by rw [ex4]; exact (store_step B9x3 5 _).1
              have hbx4 : Blk x4 g7 51 #[.bool nu, .bool true, .int .i64 lo, .int .i64 hi', .string fr, .string tq] ∧ Blk x4 g8 51 #[.bool nu2, .bool true, .int .i64 lo2, .int .i64 hi2', .string fr2, .string to2] ∧ Below wr.heap.size wr x4 := by rw [ex4]; exact ⟨(store_step B9x3 5 _).2.1 _ _ _ n7 hbx3.1, (store_step B9x3 5 _).2.1 _ _ _ n8 hbx3.2.1, (store_step B9x3 5 _).2.2 _ _ hbx3.2.2 h9⟩
              go_upto_region 16 with fail
              rw [← ex4]
              clear cc ff ex4 hbx3 B9x3
              have hd3 : Below wr.heap.size wr (x4.alloc (.cells #[.bool (nu || nu2), .bool true, .int .i64 z1, .int .i64 z2, .string mn, .string mx] 51)) := hbx4.2.2.alloc hbx4.2.2.size _
              have hs3 : wr.heap.size ≤ (x4.alloc (.cells #[.bool (nu || nu2), .bool true, .int .i64 z1, .int .i64 z2, .string mn, .string mx] 51)).heap.size := hd3.size
              have ek : x4.cell? ⟨w.heap.size + 1 + 1 + 1, 1, none⟩ = some v := (HK.out.below hbx4.2.2).cell 1
              have c90 : x4.cell? ⟨g9, 0, none⟩ = some (.bool (nu || nu2)) := B9x4.cell 0
              have c91 : x4.cell? ⟨g9, 1, none⟩ = some (.bool true) := B9x4.cell 1
              have c92 : x4.cell? ⟨g9, 2, none⟩ = some (.int .i64 z1) := B9x4.cell 2
              have c93 : x4.cell? ⟨g9, 3, none⟩ = some (.int .i64 z2) := B9x4.cell 3
              have c94 : x4.cell? ⟨g9, 4, none⟩ = some (.string mn) := B9x4.cell 4
              have c95 : x4.cell? ⟨g9, 5, none⟩ = some (.string mx) := B9x4.cell 5
              have HO3 := Lib.hid (show (x4.alloc (.cells #[.bool (nu || nu2), .bool true, .int .i64 z1, .int .i64 z2, .string mn, .string mx] 51)).ownsRow (w.heap.size + 4) 51 6 v k ((T.take k).flatMap Sd.cells) from own_below HO.out hd3)
              have HK3 := Lib.hid (show Blk (x4.alloc (.cells #[.bool (nu || nu2), .bool true, .int .i64 z1, .int .i64 z2, .string mn, .string mx] 51)) (w.heap.size + 3) 24 #[.int .i64 t, v] from HK.out.below hd3)
              have HR3 := Lib.hid (show Blk (x4.alloc (.cells #[.bool (nu || nu2), .bool true, .int .i64 z1, .int .i64 z2, .string mn, .string mx] 51)) (w.heap.size + 2) 24 #[.int .i64 0, .slice none 0 0] from HR.out.below hd3)
              have HY3 := Lib.hid (show Blk (x4.alloc (.cells #[.bool (nu || nu2), .bool true, .int .i64 z1, .int .i64 z2, .string mn, .string mx] 51)) (w.heap.size + 1) 24 #[.int .i64 u, .slice (some ⟨b2, off2, none⟩) n c2] from HY.out.below hd3)
              have HX3 := Lib.hid (show Blk (x4.alloc (.cells #[.bool (nu || nu2), .bool true, .int .i64 z1, .int .i64 z2, .string mn, .string mx] 51)) w.heap.size 24 #[.int .i64 t, .slice (some ⟨b, off, none⟩) n c] from HXA.out.below hd3)
              have HB3 := Lib.hid (show Below w.heap.size w (x4.alloc (.cells #[.bool (nu || nu2), .bool true, .int .i64 z1, .int .i64 z2, .string mn, .string mx] 51)) from HB.out.trans (hd3.mono HB.out.size))
              have HT2 := Lib.hid (show (T.take (k + 1)).flatMap Sd.cells = (T.take k).flatMap Sd.cells ++ [.bool (nu || nu2), .bool true, .int .i64 z1, .int .i64 z2, .string mn, .string mx] by rw [HT.out]; first | rfl | (rw [HZZ.out]; done))
              have HN3 : Hid (Src Try.prog 6 22 (.slice (some ⟨x4.heap.size, 0, none⟩) 1 1) 1 [.bool (nu || nu2), .bool true, .int .i64 z1, .int .i64 z2, .string mn, .string mx] (x4.alloc (.cells #[.bool (nu || nu2), .bool true, .int .i64 z1, .int .i64 z2, .string mn, .string mx] 51))) := Lib.hid (src_blk (c := 1) Try.underlying22 rfl (cells_one ⟨nu || nu2, true, _, _, _, _⟩) (show Blk (x4.alloc (.cells #[.bool (nu || nu2), .bool true, .int .i64 z1, .int .i64 z2, .string mn, .string mx] 51)) x4.heap.size 51 #[.bool (nu || nu2), .bool true, .int .i64 z1, .int .i64 z2, .string mn, .string mx] from Blk.new _ _ _))
              have hsz := hbx4.2.2.size
              clear HT hbx4 B9x4 hd3
              go_wp2_with (at_builtin; go_loud (refine wpList_append_src _ rfl _ _ 22 22 rfl (w.heap.size + 4) 51 i0 zS 6 56 Try.underlying22 hi hz0 hz1 hz2 rfl v k _ rfl HO3.out _ 1 [.bool (nu || nu2), .bool true, .int .i64 z1, .int .i64 z2, .string mn, .string mx] rfl HN3.out ?c1 ?c2 ?c3 ?_))
              case c1 => unfold maxLen; omega
              case c2 => omega
              case c3 => exact Nat.le_trans (by omega) hs3
              intro v' w4 own' hg _
              obtain ⟨g1, g2, g3, g4, g5⟩ := Bx.step HK3.out HO3.out (by decide) own' hg
              rw [← HT2.out] at g3
              obtain ⟨A3, a3, rfl, -⟩ := At.of_own own'
              have G2 := Lib.hid g2
              have G3 := Lib.hid g3
              have G4 := Lib.hid (g4 _ _ _ (by omega) (by decide) HR3.out)
              have G6 := Lib.hid (g4 _ _ _ (by omega) (by decide) HY3.out)
              have G7 := Lib.hid (g4 _ _ _ (by omega) (by decide) HX3.out)
              have G5 := Lib.hid (g5 _ _ HB3.out (by omega) (by omega) (Nat.le_trans (by omega) hs3))
              have g1c : w4.cell? ⟨w.heap.size + 1 + 1 + 1, 1, none⟩ = some v := g1.cell 1
              have f3 : w4.frozen? ⟨w.heap.size + 1 + 1 + 1, 1, none⟩ = false := Joins.unfrozen_of_block g1 1
              clear g1 g2 g3 g4 g5 own' hg
              go_wp2
              go_roundw
              case rel => exact ⟨k + 1, _, by go_num, hlt, G7.out, G6.out, G4.out, G2.out, G3.out, G5.out⟩
              case measure => simp [intOf]; omega
    · obtain rfl : k = n := by omega
      have e0 : wr.cell? ⟨w.heap.size + 1 + 1 + 1, 0, none⟩ = some (.int .i64 t) := HK.out.cell 0
      obtain ⟨A3, a3, rfl, -⟩ := At.of_own HO.out
      have e1 : wr.cell? ⟨w.heap.size + 1 + 1 + 1, 1, none⟩ = some (.slice A3 k a3) := HK.out.cell 1
      have HF : Hid ((T.take k).flatMap Sd.cells = T.flatMap Sd.cells) := Lib.hid (by rw [List.take_of_length_le (by rw [HN.out]; exact Nat.le_refl _)])
      go_wp2_with ((refine wpList_store_row (o := ⟨none, _, _, _, _, _⟩) rfl 24 _ _ rfl (w.heap.size + 2) #[.int .i64 t, .slice A3 k a3] rfl rfl 24 _ HR.out (by kernel_rfl) rfl (by simp [Value.oneCell']) ?_))
      have gr := grown_row wr (w.heap.size + 2) #[.int .i64 t, .slice A3 k a3]
      refine bodyPost_ret (results_c1 rfl _ _ _ (w.heap.size + 2) _ rfl (load24 (HR.out.setRow (ds := #[.int .i64 t, .slice A3 k a3])) rfl)) rfl ?_
      refine ⟨A3, a3, rfl, ?_, HB.out.grown gr HB.out.size (fun j hj => by injection hj with hj; omega)⟩
      have := HO.out.kept gr (.inr (own_blk_ne HO.out HR.out (by decide)))
      rw [HF.out] at this
      exact Sds.own this
end Go.Proofs.Ytcocdhndhlegiaa
