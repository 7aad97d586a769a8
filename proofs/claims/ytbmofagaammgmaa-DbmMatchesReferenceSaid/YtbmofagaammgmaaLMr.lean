/- Law DbmMatchesReference: for every input the call returns true, and its arguments read afterwards as before. -/
import Derived.Test.YtbmofagaammgmaaDgw
import Derived.Deep.Cut
namespace Go.Proofs.Ytbmofagaammgmaa
open Go.ChangeShapes Go.WideShapes Go.ChangeAt Go.RowKit Go.ChangeMaps

set_option maxRecDepth 100000 in
set_option maxHeartbeats 4000000 in
theorem dbmMatchesReference_walk (n : Int) (A : Option Addr) (m c : Nat) (R : List Rb)  (w : World) (li : -9223372036854775808 ≤ n) (gi : n ≤ 9223372036854775807) (k0 : At w A m 3 (R.flatMap Rb.cells)) (l0 : m ≤ 9223372036854775807) (g0 : ∀ x ∈ R, x.in)  :
    Calls Try.prog 3 #[.int .i64 n, .slice A m c] w fun e w' => e = .returned (.bool true) ∧ Below w.heap.size w w' := by
  have HR := Lib.hid (show Rbs w A m R from k0)
  have HIN := Lib.hid g0
  clear k0 g0
  go_enter Try.func3, Try.ntmps3
  go_wp2_with fail
  refine (awake_any w).mono ?_
  rintro e1 w1 ⟨rfl, hb1⟩
  have HBW := Lib.hid hb1
  clear hb1
  go_wp2_with fail
  refine (small_any w1 n A m c).mono ?_
  rintro e2 x2 ⟨rfl, hx⟩
  subst x2
  by_cases hsm : n ≤ 10 ∧ m ≤ 40
  rotate_left 1
  · rw [show (decide (n ≤ 10) && decide (m ≤ 40)) = false by by_cases q1 : n ≤ 10 <;> by_cases q2 : m ≤ 40 <;> simp [q1, q2] <;> exact absurd ⟨q1, q2⟩ hsm]
    go_wp2
    go_ret
    exact ⟨rfl, HBW.out⟩
  obtain ⟨hn10, hm40⟩ := hsm
  rw [show (decide (n ≤ 10) && decide (m ≤ 40)) = true by simp [hn10, hm40]]
  by_cases hn0 : n < 0
  · go_wp2_with fail
    refine (built_bad w1 n (.inl hn0) A m c).mono ?_
    rintro e3 w3 ⟨rfl, hb3⟩
    have HB3 := Lib.hid (HBW.out.trans (hb3.mono HBW.out.size))
    clear hb3
    go_wp2
    go_ret
    exact ⟨rfl, HB3.out⟩
  obtain ⟨n, rfl⟩ : ∃ n' : Nat, n = (n' : Int) := ⟨n.toNat, by omega⟩
  have hn10 : n ≤ 10 := by omega
  go_wp2_with fail
  refine (built_any w1 n (by omega) A m c R (HR.out.below HBW.out) (by omega)).mono ?_
  rintro e3 w3 ⟨g, A', m', c', rfl, hM, hR, hmc, hb3⟩
  have HM3 := Lib.hid (show MX w3 w1.heap.size g n (bld n R) from hM)
  have HR3 := Lib.hid hR
  have HB3 := Lib.hid hb3
  have HMC := Lib.hid hmc
  have hml : m' ≤ 40 := by
    have h1 := hR.len
    have h2 := List.length_filter_le (okB n) R
    have h3 := HR.out.len
    omega
  clear hM hR hb3 hmc
  have HSG := Lib.hid (bld_sg n R)
  have HSY := Lib.hid (bld_of n R)
  obtain ⟨s, hs⟩ : ∃ s, bld n R = s := ⟨_, rfl⟩
  rw [hs] at HM3 HSG HSY
  clear hs
  have HOK := Lib.hid (show ∀ b ∈ R.filter (okB n), okB n b = true from fun b hb => (List.mem_filter.1 hb).2)
  have HSS := Lib.hid (show satM s n = solM ((R.filter (okB n)).map toBd) by
    by_cases h : Sat s n
    · exact (satM_t h).trans (show solM ((R.filter (okB n)).map toBd) = true from solM_t ((sat_iff HSG.out HSY.out).1 h)).symm
    · exact (satM_f h).trans (show solM ((R.filter (okB n)).map toBd) = false from solM_f (fun h' => h ((sat_iff HSG.out HSY.out).2 h'))).symm)
  go_wp2_with fail
  refine (Solution_any w3 n hn10 A' m' c' (R.filter (okB n)) HR3.out hml HOK.out s.c s.prs HSY.out HSG.out.hP).mono ?_
  rintro e4 w4 ⟨A4, k4, c4, rfl, hb4⟩
  rw [← HSS.out]
  have HM4 := Lib.hid (HM3.out.below hb4)
  have HR4 := Lib.hid (HR3.out.below hb4)
  have HB4 := Lib.hid (HB3.out.trans (hb4.mono HB3.out.size))
  clear hb4 HM3 HR3 HB3 HSS
  go_wp2_with fail
  refine (Sat_any w4 _ g n s HM4.out).mono ?_
  rintro e5 w5 ⟨rfl, hb5⟩
  have HM5 := Lib.hid (HM4.out.below hb5)
  have HR5 := Lib.hid (HR4.out.below hb5)
  have HB5 := Lib.hid (HB4.out.trans (hb5.mono HB4.out.size))
  clear hb5 HM4 HR4 HB4
  obtain ⟨bs, hbs⟩ : ∃ b, satM s n = b := ⟨_, rfl⟩
  rw [hbs]
  have HBS := Lib.hid hbs
  clear hbs
  have hw1 : IntKind.i64.wrap ((n : Int) + 1) = (n : Int) + 1 := IntWalk.i64_in _ (by omega)
  go_wp2
  go_loopw [10] (fun s10 wr => ∃ i : Int, s10 = .int .i64 i ∧ -1 ≤ i ∧ i ≤ (n : Int) + 2 ∧ Below w5.heap.size w5 wr) (fun s10 _ => ((n : Int) + 2 - intOf s10).toNat)
  case atStart => exact ⟨-1, rfl, Int.le_refl _, by omega, Below.refl _ _⟩
  case round =>
    obtain ⟨i, rfl, hi1, hi2, hB⟩ := hrel
    have HB6 := Lib.hid hB
    clear hB
    generalize wr = WA at *
    by_cases hli : i ≤ (n : Int) + 1
    · have hwi : IntKind.i64.wrap (i + 1) = i + 1 := IntWalk.i64_in _ (by omega)
      go_wp2
      go_loopw [11] (fun s11 wr => ∃ j : Int, s11 = .int .i64 j ∧ -1 ≤ j ∧ j ≤ (n : Int) + 2 ∧ Below w5.heap.size w5 wr) (fun s11 _ => ((n : Int) + 2 - intOf s11).toNat)
      case atStart => exact ⟨-1, rfl, Int.le_refl _, by omega, HB6.out⟩
      case round =>
        obtain ⟨j, rfl, hj1, hj2, hB⟩ := hrel
        have HB7 := Lib.hid hB
        clear hB HB6
        by_cases hlj : j ≤ (n : Int) + 1
        · have hwj : IntKind.i64.wrap (j + 1) = j + 1 := IntWalk.i64_in _ (by omega)
          by_cases hgood : bs = true ∧ (0 ≤ i ∧ i ≤ (n : Int)) ∧ 0 ≤ j ∧ j ≤ (n : Int)
          · obtain ⟨hbt, ⟨hi3, hi4⟩, hj3, hj4⟩ := hgood
            subst hbt
            obtain ⟨i, rfl⟩ : ∃ i' : Nat, i = (i' : Int) := ⟨i.toNat, by omega⟩
            obtain ⟨j, rfl⟩ : ∃ j' : Nat, j = (j' : Int) := ⟨j.toNat, by omega⟩
            have hsat : Sat s n := by
              by_cases h : Sat s n
              · exact h
              · have := HBS.out
                rw [satM_f h] at this
                cases this
            have HSAT := Lib.hid hsat
            clear hsat
            have hge1 : (i : Int) ≥ 0 := by omega
            have hge2 : (j : Int) ≥ 0 := by omega
            go_wp2_with fail
            refine (Bound_all wr _ g n s (HM5.out.below HB7.out) (i : Int) (j : Int) (not_bad.2 ⟨hi3, hi4⟩)).mono ?_
            rintro e8 w8 ⟨rfl, hb8, hbe⟩
            obtain ⟨F, hF⟩ := hbe (not_bad.2 ⟨hj3, hj4⟩) HSAT.out
            rw [Int.toNat_natCast] at hF
            rw [bndM_eq (by omega) (by omega) HSAT.out hF]
            have HB8 := Lib.hid (HB7.out.trans (hb8.mono HB7.out.size))
            have CG := Lib.hid (Greatest_any w8 n hn10 A' m' c' (R.filter (okB n)) (HR5.out.below HB8.out) hml HOK.out s.c s.prs HSY.out HSG.out.hP i j (by omega) (by omega) F hF ((sat_iff HSG.out HSY.out).1 HSAT.out))
            clear hb8 hbe hF
            obtain ⟨o, ho⟩ : ∃ o, F i = o := ⟨_, rfl⟩
            rw [ho] at CG ⊢
            clear ho
            unfold bdA at CG ⊢
            cases o with
            | none =>
              dsimp only [Option.getD_none, Option.isSome_none] at CG ⊢
              go_wp2_with fail
              refine CG.out.mono ?_
              rintro e9 w9 ⟨rfl, hb9⟩
              have HBn := Lib.hid (HB8.out.trans (hb9.mono HB8.out.size))
              clear hb9
              go_wp2
              go_roundw
              case rel => exact ⟨(j : Int) + 1, by go_num, by omega, by omega, HBn.out⟩
              case measure => simp [intOf]; omega
            | some a =>
              dsimp only [Option.getD_some, Option.isSome_some] at CG ⊢
              go_wp2_with fail
              refine CG.out.mono ?_
              rintro e9 w9 ⟨rfl, hb9⟩
              have HBn := Lib.hid (HB8.out.trans (hb9.mono HB8.out.size))
              clear hb9
              go_wp2
              go_roundw
              case rel => exact ⟨(j : Int) + 1, by go_num, by omega, by omega, HBn.out⟩
              case measure => simp [intOf]; omega
          · have HNO := Lib.hid (show bndM s n i j = none from by
              refine bndM_no ?_
              cases bs with
              | false => exact .inr (.inr (uns_iff.2 (fun h => by have := HBS.out; rw [satM_t h] at this; cases this)))
              | true =>
                cases h1 : bad n i with
                | true => exact .inl rfl
                | false =>
                  cases h2 : bad n j with
                  | true => exact .inr (.inl rfl)
                  | false => exact absurd ⟨rfl, not_bad.1 h1, not_bad.1 h2⟩ hgood)
            go_wp2_with fail
            refine (Bound_any wr _ g n s (HM5.out.below HB7.out) i j).mono ?_
            rintro e8 w8 ⟨rfl, hb8⟩
            rw [HNO.out]
            have HBn := Lib.hid (HB7.out.trans (hb8.mono HB7.out.size))
            clear hb8
            unfold bdA
            dsimp only [Option.getD_none, Option.isSome_none]
            cases bs with
            | false =>
              clear hgood
              go_wp2
              go_roundw
              case rel => exact ⟨j + 1, by go_num, by omega, by omega, HBn.out⟩
              case measure => simp [intOf]; omega
            | true =>
              by_cases g1 : i ≥ 0
              · by_cases g2 : j ≥ 0
                · by_cases g3 : i ≤ (n : Int)
                  · have g4 : ¬ j ≤ (n : Int) := fun h => hgood ⟨rfl, ⟨g1, g3⟩, g2, h⟩
                    clear hgood
                    go_wp2
                    go_roundw
                    case rel => exact ⟨j + 1, by go_num, by omega, by omega, HBn.out⟩
                    case measure => simp [intOf]; omega
                  · clear hgood
                    go_wp2
                    go_roundw
                    case rel => exact ⟨j + 1, by go_num, by omega, by omega, HBn.out⟩
                    case measure => simp [intOf]; omega
                · clear hgood
                  go_wp2
                  go_roundw
                  case rel => exact ⟨j + 1, by go_num, by omega, by omega, HBn.out⟩
                  case measure => simp [intOf]; omega
              · clear hgood
                go_wp2
                go_roundw
                case rel => exact ⟨j + 1, by go_num, by omega, by omega, HBn.out⟩
                case measure => simp [intOf]; omega
        · obtain rfl : j = (n : Int) + 2 := by omega
          have hlj2 : ¬ ((n : Int) + 2 ≤ (n : Int) + 1) := by omega
          go_wp2
          go_roundw
          case rel => exact ⟨i + 1, by go_num, by omega, by omega, HB7.out⟩
          case measure => simp [intOf]; omega
    · obtain rfl : i = (n : Int) + 2 := by omega
      have hli2 : ¬ ((n : Int) + 2 ≤ (n : Int) + 1) := by omega
      go_wp2
      go_ret
      exact ⟨rfl, HBW.out.trans ((HB5.out.trans (HB6.out.mono HB5.out.size)).mono HBW.out.size)⟩

set_option maxRecDepth 100000 in
theorem dbmMatchesReference_lifted (os : Os) (started : os.Started) (H : Type) (enc : TypeId × Value → H) :
    ReturnsInHanded {} Try.checked os 3 .any (Rows.dbmMatchesReferenceSpec.pre6 enc Try.prog Try.f3 Rows.dbmMatchesReferenceRow.domain false) (Rows.dbmMatchesReferenceSpec.post enc Try.prog Try.f3 false true false false) := by
  refine law_lifted (C := Try.checked) (B := 4) Try.own started (by kernel_rfl) Try.func3
    (ChangeSpec.witness6 (enc := enc) (C := Try.checked) false ⟨#[], #[.int .i64 0, .slice none 0 0], []⟩ 8 (by kernel_rfl) (by kernel_rfl) (by kernel_rfl) (by kernel_rfl))
    Try.laidOut (by kernel_rfl) rfl rfl rfl Try.underlying4 (fun ds h => match ds, h with | [_, _], _ => rfl) ?_
  intro W base args ds ps hval hA hlt hsz
  rw [Try.params3] at hA hval hsz
  obtain ⟨v0, vs0, d0, ds0, p0, q0, hargs, rfl, rfl, h0, r0⟩ := trodAll_cons hA
  obtain ⟨v1, vs1, d1, ds1, p1, q1, rfl, rfl, rfl, h1, r1⟩ := trodAll_cons r0
  obtain ⟨rfl, rfl, rfl⟩ := trodAll_nil r1
  obtain rfl : args = #[v0, v1] := by cases args; simp_all
  obtain ⟨a0, rfl, rfl, rfl, w0⟩ := open_int Try.underlying3 (hval 0 3 v0 rfl rfl) h0
  obtain ⟨l0, g0⟩ := i64_bd w0
  obtain ⟨A1, n1, c1, R1, rfl, k1, l1, g1⟩ := open_bds (hval 1 22 v1 rfl rfl) h1 (fun x hx => hlt x (by simp [hx])) hsz (j := 1) rfl rfl
  exact dbmMatchesReference_walk a0 A1 n1 c1 R1 W l0 g0 k1 l1 g1

theorem dbmMatchesReference_over : Rows.dbmMatchesReferenceRow.holds Try.pinned (OpenSpec.ofChange Rows.dbmMatchesReferenceSpec) :=
  OpenClaim.holds_of_wide 3 Try.f3 rfl rfl rfl rfl rfl rfl rfl ⟨rfl, rfl, rfl, rfl, rfl⟩ rfl rfl rfl rfl rfl (by kernel_rfl) Try.func3 (by kernel_rfl)
    (of_decide_eq_true (by kernel_rfl)) (by unfold Func.isWrapper; first | (rw [if_pos (by decide +kernel)]; kernel_rfl) | (rw [if_neg (by decide +kernel)]; exact ⟨rfl, rfl⟩))
    (fun os started H enc _ => dbmMatchesReference_lifted os started H enc)

theorem dbmMatchesReference_proved : Rows.DbmMatchesReferenceSaid := dbmMatchesReference_over
end Go.Proofs.Ytbmofagaammgmaa
