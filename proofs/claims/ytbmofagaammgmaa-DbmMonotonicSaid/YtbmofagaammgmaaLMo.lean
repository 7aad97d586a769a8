/- Law DbmMonotonic: for every input the call returns true, and its arguments read afterwards as before. -/
import Derived.Test.YtbmofagaammgmaaDsz
import Derived.Deep.Cut
namespace Go.Proofs.Ytbmofagaammgmaa
open Go.ChangeShapes Go.WideShapes Go.ChangeAt Go.RowKit Go.ChangeMaps

/-- What stands while the values of Bound are written down. -/
structure MI (w1 W : World) (g n : Nat) (s : St) (K : Nat) (v1 v2 : Value) : Prop where
  mx : MX W w1.heap.size g n s
  r1 : W.ownsRow w1.heap.size 2 1 v1 K (vals s n K)
  r2 : W.ownsRow w1.heap.size 4 1 v2 K (knos s n K)
  bel : Below w1.heap.size w1 W
theorem MI.below {w1 W W' : World} {g n : Nat} {s : St} {K : Nat} {v1 v2 : Value} (h : MI w1 W g n s K v1 v2) (hb : Below W.heap.size W W') : MI w1 W' g n s K v1 v2 := ⟨h.mx.below hb, own_below h.r1 hb, own_below h.r2 hb, h.bel.trans (hb.mono h.bel.size)⟩
set_option maxRecDepth 100000 in
set_option maxHeartbeats 4000000 in
theorem dbmMonotonic_walk (n : Int) (A : Option Addr) (m c : Nat) (R : List Rb) (bi bj bc : Int) (w : World) (li : -9223372036854775808 ≤ n) (gi : n ≤ 9223372036854775807) (k0 : At w A m 3 (R.flatMap Rb.cells)) (l0 : m ≤ 9223372036854775807) (g0 : ∀ x ∈ R, x.in) (l1 : -9223372036854775808 ≤ bi ∧ bi ≤ 9223372036854775807) (g1 : -9223372036854775808 ≤ bj ∧ bj ≤ 9223372036854775807) (o1 : -9223372036854775808 ≤ bc ∧ bc ≤ 9223372036854775807) :
    Calls Try.prog 7 #[.int .i64 n, .slice A m c, .agg #[.int .i64 bi, .int .i64 bj, .int .i64 bc]] w fun e w' => e = .returned (.bool true) ∧ Below w.heap.size w w' := by
  have HR := Lib.hid (show Rbs w A m R from k0)
  have HIN := Lib.hid g0
  clear k0 g0
  obtain ⟨kx, hkx⟩ : ∃ kx, kx = w.heap.size := ⟨_, rfl⟩
  obtain ⟨W0, hW0⟩ : ∃ W0, W0 = w.alloc (.cells #[.int .i64 bi, .int .i64 bj, .int .i64 bc] 41) := ⟨_, rfl⟩
  have HB0 := Lib.hid (show Below w.heap.size w W0 by rw [hW0]; exact (Below.refl _ _).alloc (Nat.le_refl _) _)
  have KX0 := Lib.hid (show Blk W0 kx 41 #[.int .i64 bi, .int .i64 bj, .int .i64 bc] by rw [hW0]; exact Blk.new_ hkx rfl)
  go_enter Try.func7, Try.ntmps7
  go_wp2_with fail
  rw [← hkx, ← hW0]
  clear hkx hW0
  refine (awake_any W0).mono ?_
  rintro e1 w1 ⟨rfl, hb1⟩
  have HBW := Lib.hid (HB0.out.trans (hb1.mono HB0.out.size))
  have KX1 := Lib.hid (KX0.out.below hb1)
  clear hb1 HB0 KX0
  go_wp2_with fail
  refine (small_any w1 n A m c).mono ?_
  rintro e2 x2 ⟨rfl, hx⟩
  subst x2
  by_cases hsm : n ≤ 10 ∧ m ≤ 40
  rotate_left 1
  · rw [show (decide (n ≤ 10) && decide (m ≤ 40)) = false by by_cases q1 : n ≤ 10 <;> by_cases q2 : m ≤ 40 <;> simp [q1, q2] <;> exact absurd ⟨q1, q2⟩ hsm]
    go_wp2
    go_ret
    exact ⟨rfl, HBW.out⟩
  obtain ⟨hn10, hm40⟩ := hsm
  rw [show (decide (n ≤ 10) && decide (m ≤ 40)) = true by simp [hn10, hm40]]
  by_cases hn0 : n < 0
  · go_wp2_with fail
    refine (built_bad w1 n (.inl hn0) A m c).mono ?_
    rintro e3 w3 ⟨rfl, hb3⟩
    have HB3 := Lib.hid (HBW.out.trans (hb3.mono HBW.out.size))
    clear hb3
    go_wp2
    go_ret
    exact ⟨rfl, HB3.out⟩
  obtain ⟨n, rfl⟩ : ∃ n' : Nat, n = (n' : Int) := ⟨n.toNat, by omega⟩
  have hn10 : n ≤ 10 := by omega
  go_wp2_with fail
  refine (built_any w1 n (by omega) A m c R (HR.out.below HBW.out) (by omega)).mono ?_
  rintro e3 w3 ⟨g, A', m', c', rfl, hM, hR, hmc, hb3⟩
  have HM3 := Lib.hid (show MX w3 w1.heap.size g n (bld n R) from hM)
  have HR3 := Lib.hid hR
  have HB3 := Lib.hid hb3
  have HMC := Lib.hid hmc
  have KX3 := Lib.hid (KX1.out.below hb3)
  have hml : m' ≤ 40 := by
    have h1 := hR.len
    have h2 := List.length_filter_le (okB n) R
    have h3 := HR.out.len
    omega
  clear hM hR hb3 hmc
  have hSG := bld_sg n R
  have hSY := bld_of n R
  obtain ⟨s, hs⟩ : ∃ s, bld n R = s := ⟨_, rfl⟩
  have hsa : s.a < 100000 := by
    rw [← hs]
    have h1 := bldS_a n R ⟨[], fun _ => none, 0⟩
    have h2 := HR.out.len
    unfold bld
    dsimp only at h1
    omega
  rw [hs] at HM3 hSG hSY
  clear hs
  have HSG := Lib.hid hSG
  have HSY := Lib.hid hSY
  clear hSG hSY HR3
  obtain ⟨wa, hwa⟩ : ∃ b, satM s n = b := ⟨_, rfl⟩
  have HWA := Lib.hid hwa
  clear hwa
  go_wp2_with fail
  refine (Sat_any w3 w1.heap.size g n s HM3.out).mono ?_
  rintro e4 w4 ⟨rfl, hb4⟩
  rw [HWA.out]
  have HM4 := Lib.hid (HM3.out.below hb4)
  have HB4 := Lib.hid (HB3.out.trans (hb4.mono HB3.out.size))
  have KX4 := Lib.hid (KX3.out.below hb4)
  clear hb4 HM3 HB3 KX3
  obtain ⟨i2, hi2, hy0, hy1, hy2⟩ := info_parts Try.info2
  have HI2 := Lib.hid hi2
  have HY0 := Lib.hid hy0
  have HY1 := Lib.hid hy1
  have HY2 := Lib.hid hy2
  obtain ⟨i4, hi4, hz0, hz1, hz2⟩ := info_parts Try.info4
  have HI4 := Lib.hid hi4
  have HZ0 := Lib.hid hz0
  have HZ1 := Lib.hid hz1
  have HZ2 := Lib.hid hz2
  clear hi2 hy0 hy1 hy2 hi4 hz0 hz1 hz2
  have hw1 : IntKind.i64.wrap ((n : Int) + 1) = (n : Int) + 1 := IntWalk.i64_in _ (by omega)
  go_wp2
  go_loopw [11, 12, 46] (fun s11 s12 s46 wr => ∃ p : Nat, s46 = .int .i64 (p : Int) ∧ p ≤ n + 1 ∧ MI w1 wr g n s (p * (n + 1)) s11 s12) (fun _ _ s46 _ => n + 1 - (intOf s46).toNat)
  case atStart => exact ⟨0, rfl, Nat.zero_le _, by rw [Nat.zero_mul]; exact ⟨HM4.out, World.ownsRow_nil _ _ _ _, World.ownsRow_nil _ _ _ _, HB4.out⟩⟩
  case round =>
    obtain ⟨p, rfl, hpn, hMI⟩ := hrel
    have HMI := Lib.hid hMI
    clear hMI
    generalize wr = WA at *
    by_cases hlp : p < n + 1
    · have hpi : (p : Int) < (n : Int) + 1 := by omega
      go_wp2
      go_loopw [11, 12, 51] (fun s11 s12 s51 wr => ∃ q : Nat, s51 = .int .i64 (q : Int) ∧ q ≤ n + 1 ∧ MI w1 wr g n s (p * (n + 1) + q) s11 s12) (fun _ _ s51 _ => n + 1 - (intOf s51).toNat)
      case atStart => exact ⟨0, rfl, Nat.zero_le _, HMI.out⟩
      case round =>
        obtain ⟨q, rfl, hqn, hMI⟩ := hrel
        have HMJ := Lib.hid hMI
        clear hMI HMI
        by_cases hlq : q < n + 1
        · have hqi : (q : Int) < (n : Int) + 1 := by omega
          have HTB := Lib.hid (tab_at (s := s) (p := p) hlq)
          have hK : p * (n + 1) + q ≤ 130 := by
            have := Nat.mul_le_mul (show p ≤ 10 by omega) (show n + 1 ≤ 11 by omega)
            omega
          have HKQ := Lib.hid (show ∃ K, p * (n + 1) + q = K from ⟨_, rfl⟩)
          obtain ⟨K, hKq⟩ := HKQ.out
          rw [hKq] at HTB hK HMJ
          have HKQ := Lib.hid (show p * (n + 1) + (q + 1) = K + 1 by rw [← hKq]; rfl)
          clear hKq
          go_wp2_with fail
          refine (Bound_any wr w1.heap.size g n s HMJ.out.mx (p : Int) (q : Int)).mono ?_
          rintro e5 w5 ⟨rfl, hb5⟩
          rw [← HTB.out]
          have HM5 := Lib.hid (HMJ.out.below hb5)
          have HVS := Lib.hid (vals_succ s n K)
          have HKS := Lib.hid (knos_succ s n K)
          clear hb5 HMJ HTB
          unfold bdA
          obtain ⟨x, hx⟩ : ∃ x, (tab s n K).getD 0 = x := ⟨_, rfl⟩
          obtain ⟨y, hy⟩ : ∃ y, (tab s n K).isSome = y := ⟨_, rfl⟩
          rw [hx] at HVS
          rw [hy] at HKS
          rw [hx, hy]
          clear hx hy
          have HS5 := Lib.hid (src_blk (P := Try.prog) (c := 1) (n := 1) (size := 1) (xs := [.int .i64 x]) Try.underlying28 rfl (by simp [Value.oneCell']) (show Blk (w5.alloc (.cells #[.int .i64 x] 2)) w5.heap.size 2 _ from Blk.new _ _ _))
          have HM6 := Lib.hid (HM5.out.below ((Below.refl _ w5).alloc (Nat.le_refl _) (.cells #[.int .i64 x] 2)))
          go_wp2_with (at_builtin; go_loud (refine wpList_append_src _ rfl _ _ 28 28 rfl w1.heap.size 2 i2 _ 1 8 Try.underlying28 HI2.out HY0.out HY1.out HY2.out rfl _ K (vals s n K) rfl HM6.out.r1 _ 1 [.int .i64 x] rfl HS5.out (by unfold maxLen; omega) (by omega) HM6.out.bel.size ?_))
          intro v7 w7 own7 hg7 _
          rw [← HVS.out] at own7
          have HM7 := Lib.hid (show MX w7 w1.heap.size g n s ∧ w7.ownsRow w1.heap.size 2 1 v7 (K + 1) (vals s n (K + 1)) ∧ w7.ownsRow w1.heap.size 4 1 _ K (knos s n K) ∧ Below w1.heap.size w1 w7 from ⟨HM6.out.mx.app HM6.out.r1 (by decide) (by decide) hg7, own7, own_app HM6.out.r2 HM6.out.r1 (by decide) hg7, grown_below HM6.out.bel HM6.out.bel.size HM6.out.r1 hg7⟩)
          obtain ⟨A7, c7, rfl, -⟩ := At.of_own own7
          clear own7 hg7 HM6 HS5 HM5
          have HS7 := Lib.hid (src_blk (P := Try.prog) (c := 1) (n := 1) (size := 1) (xs := [.bool y]) Try.underlying43 rfl (by simp [Value.oneCell']) (show Blk (w7.alloc (.cells #[.bool y] 4)) w7.heap.size 4 _ from Blk.new _ _ _))
          have hb8 : Below w7.heap.size w7 (w7.alloc (.cells #[.bool y] 4)) := (Below.refl _ w7).alloc (Nat.le_refl _) _
          have HM8 := Lib.hid (show MX (w7.alloc (.cells #[.bool y] 4)) w1.heap.size g n s ∧ (w7.alloc (.cells #[.bool y] 4)).ownsRow w1.heap.size 2 1 (.slice A7 (K + 1) c7) (K + 1) (vals s n (K + 1)) ∧ (w7.alloc (.cells #[.bool y] 4)).ownsRow w1.heap.size 4 1 _ K (knos s n K) ∧ Below w1.heap.size w1 (w7.alloc (.cells #[.bool y] 4)) from ⟨HM7.out.1.below hb8, own_below HM7.out.2.1 hb8, own_below HM7.out.2.2.1 hb8, HM7.out.2.2.2.trans (hb8.mono HM7.out.2.2.2.size)⟩)
          clear hb8 HM7
          go_wp2_with (at_builtin; go_loud (refine wpList_append_src _ rfl _ _ 43 43 rfl w1.heap.size 4 i4 _ 1 1 Try.underlying43 HI4.out HZ0.out HZ1.out HZ2.out rfl _ K (knos s n K) rfl HM8.out.2.2.1 _ 1 [.bool y] rfl HS7.out (by unfold maxLen; omega) (by omega) HM8.out.2.2.2.size ?_))
          intro v9 w9 own9 hg9 _
          rw [← HKS.out] at own9
          have HM9 := Lib.hid (show MI w1 w9 g n s (K + 1) (.slice A7 (K + 1) c7) v9 from ⟨HM8.out.1.app HM8.out.2.2.1 (by decide) (by decide) hg9, own_app HM8.out.2.1 HM8.out.2.2.1 (by decide) hg9, own9, grown_below HM8.out.2.2.2 HM8.out.2.2.2.size HM8.out.2.2.1 hg9⟩)
          obtain ⟨A9, c9, rfl, -⟩ := At.of_own own9
          clear own9 hg9 HM8 HS7
          go_wp2
          go_roundw
          case rel => exact ⟨q + 1, by go_num, hlq, by rw [HKQ.out]; exact HM9.out⟩
          case measure => simp [intOf]; omega
        · obtain rfl : q = n + 1 := by omega
          have hlq2 : ¬ (((n + 1 : Nat) : Int) < (n : Int) + 1) := by omega
          have HMK := Lib.hid (show MI w1 wr g n s ((p + 1) * (n + 1)) _ _ by rw [Nat.succ_mul]; exact HMJ.out)
          go_wp2
          go_roundw
          case rel => exact ⟨p + 1, by go_num, hlp, HMK.out⟩
          case measure => simp [intOf]; omega
    · obtain rfl : p = n + 1 := by omega
      have hlp2 : ¬ (((n + 1 : Nat) : Int) < (n : Int) + 1) := by omega
      obtain ⟨K, hK⟩ : ∃ K, (n + 1) * (n + 1) = K := ⟨_, rfl⟩
      rw [hK] at HMI
      have HKE := Lib.hid hK
      clear hK
      have KX5 := Lib.hid (KX1.out.below HMI.out.bel)
      have c0 : WA.cell? ⟨kx, 0, none⟩ = some (.int .i64 bi) := KX5.out.cell 0
      have c1 : WA.cell? ⟨kx, 1, none⟩ = some (.int .i64 bj) := KX5.out.cell 1
      have c2 : WA.cell? ⟨kx, 2, none⟩ = some (.int .i64 bc) := KX5.out.cell 2
      have CA := Lib.hid (Add_any WA w1.heap.size g n s HMI.out.mx bi bj bc hsa)
      unfold AdP at CA
      go_wp2_with fail
      clear c0 c1 c2
      refine CA.out.mono ?_
      rintro e6 w6 ⟨rfl, hm6, hk6, hb6⟩
      have HM6 := Lib.hid hm6
      have HB6 := Lib.hid (hb6 _ HMI.out.bel)
      have HV6 := Lib.hid (own_kt HMI.out.r1 hk6 (by decide) (by decide))
      have HN6 := Lib.hid (own_kt HMI.out.r2 hk6 (by decide) (by decide))
      clear hm6 hk6 hb6 CA HMI KX5
      by_cases he : addE n bi bj bc = 0
      · have HS' := Lib.hid (addX_eq (s := s) he)
        have HSG' := Lib.hid (add_sg HSG.out he)
        have HSY' := Lib.hid (add_sys HSG.out HSY.out he)
        rw [HS'.out] at HM6
        have he1 : (addE n bi bj bc != 0) = false := by simpa using he
        rw [he]
        clear he he1
        obtain ⟨s', hs'⟩ : ∃ s', addS s bi bj bc = s' := ⟨_, rfl⟩
        rw [hs'] at HM6 HSG' HSY'
        clear hs' HS'
        go_wp2_with fail
        refine (Sat_any w6 w1.heap.size g n s' HM6.out).mono ?_
        rintro e7 w7 ⟨rfl, hb7⟩
        have HM7 := Lib.hid (HM6.out.below hb7)
        have HB7 := Lib.hid (HB6.out.trans (hb7.mono HB6.out.size))
        have HV7 := Lib.hid (own_below HV6.out hb7)
        have HN7 := Lib.hid (own_below HN6.out hb7)
        clear hb7 HM6 HB6 HV6 HN6
        by_cases hst : Sat s' n
        · rw [satM_t hst]
          have HST := Lib.hid hst
          have hwt : wa = true := by rw [← HWA.out]; exact satM_t (sat_mono HSG.out HSG'.out HSY.out HSY'.out (fun b hb => List.mem_append_left _ hb) hst)
          subst hwt
          clear hst
          go_wp2
          go_loopw [91] (fun s91 wr => ∃ p : Nat, s91 = .int .i64 (p : Int) ∧ p ≤ n + 1 ∧ Below w7.heap.size w7 wr) (fun s91 _ => n + 1 - (intOf s91).toNat)
          case atStart => exact ⟨0, rfl, Nat.zero_le _, Below.refl _ _⟩
          case round =>
            obtain ⟨p, rfl, hpn, hB⟩ := hrel
            have HB8 := Lib.hid hB
            clear hB
            generalize wr = WB at *
            by_cases hlp : p < n + 1
            · have hpi : (p : Int) < (n : Int) + 1 := by omega
              go_wp2
              go_loopw [96] (fun s96 wr => ∃ q : Nat, s96 = .int .i64 (q : Int) ∧ q ≤ n + 1 ∧ Below w7.heap.size w7 wr) (fun s96 _ => n + 1 - (intOf s96).toNat)
              case atStart => exact ⟨0, rfl, Nat.zero_le _, HB8.out⟩
              case round =>
                obtain ⟨q, rfl, hqn, hB⟩ := hrel
                have HB9 := Lib.hid hB
                clear hB HB8
                by_cases hlq : q < n + 1
                · have hqi : (q : Int) < (n : Int) + 1 := by omega
                  have HTB := Lib.hid (tab_at (s := s) (p := p) hlq)
                  have hKK : p * (n + 1) + q < K := by
                    have h1 := Nat.mul_le_mul (show p + 1 ≤ n + 1 by omega) (Nat.le_refl (n + 1))
                    rw [HKE.out, Nat.succ_mul] at h1
                    omega
                  have hK130 : p * (n + 1) + q ≤ 130 := by
                    have := Nat.mul_le_mul (show p ≤ 10 by omega) (show n + 1 ≤ 11 by omega)
                    omega
                  have hm1 : IntKind.i64.wrap ((p : Int) * ((n : Int) + 1)) = ((p * (n + 1) : Nat) : Int) := by
                    have e : (p : Int) * ((n : Int) + 1) = ((p * (n + 1) : Nat) : Int) := by rw [Int.natCast_mul]; rfl
                    rw [e]
                    exact IntWalk.i64_in _ (by omega)
                  have hm2 : IntKind.i64.wrap (((p * (n + 1) : Nat) : Int) + (q : Int)) = ((p * (n + 1) + q : Nat) : Int) := by
                    rw [← Int.natCast_add]
                    exact IntWalk.i64_in _ (by omega)
                  generalize p * (n + 1) + q = kk at *
                  generalize p * (n + 1) = k0 at *
                  have hkk0 : (0 : Int) ≤ (kk : Int) := by omega
                  have hkkK : (kk : Int) < (K : Int) := by omega
                  obtain ⟨AV, cV, hAV, hatV, -⟩ := At.of_own HV7.out
                  obtain ⟨AN, cN, hAN, hatN, -⟩ := At.of_own HN7.out
                  have HAV := Lib.hid hatV.2
                  have HAN := Lib.hid hatN.2
                  clear hatV hatN
                  subst hAV
                  subst hAN
                  obtain ⟨bV, oV, rfl, hbV, hcV⟩ := HAV.out (by omega)
                  obtain ⟨bN, oN, rfl, hbN, hcN⟩ := HAN.out (by omega)
                  have v0 := hcV kk (.int .i64 ((tab s n kk).getD 0)) (by unfold vals; simp [hKK])
                  have n0 := hcN kk (.bool (tab s n kk).isSome) (by unfold knos; simp [hKK])
                  clear hcV hcN hbV hbN HAV HAN
                  go_wp2_with fail
                  refine (Bound_all wr w1.heap.size g n s' (HM7.out.below HB9.out) (p : Int) (q : Int) (not_bad.2 ⟨by omega, by omega⟩)).mono ?_
                  rintro e10 w10 ⟨rfl, hb10, hbe⟩
                  have HB10 := Lib.hid (HB9.out.trans (hb10.mono HB9.out.size))
                  have v0 := keepcell HB10.out v0
                  have n0 := keepcell HB10.out n0
                  cases hT : tab s n kk with
                  | none =>
                    rw [hT] at v0 n0
                    dsimp only [Option.getD_none, Option.isSome_none] at v0 n0
                    unfold bdA
                    clear hT hbe hb10
                    obtain ⟨x, hx⟩ : ∃ x, (bndM s' n (p : Int) (q : Int)).getD 0 = x := ⟨_, rfl⟩
                    obtain ⟨y, hy⟩ : ∃ y, (bndM s' n (p : Int) (q : Int)).isSome = y := ⟨_, rfl⟩
                    rw [hx, hy]
                    clear hx hy
                    go_wp2
                    go_roundw
                    case rel => exact ⟨q + 1, by go_num, hlq, HB10.out⟩
                    case measure => simp [intOf]; omega
                  | some a =>
                    rw [hT] at v0 n0
                    dsimp only [Option.getD_some, Option.isSome_some] at v0 n0
                    have h0 : bndM s n (p : Int) (q : Int) = some a := by rw [← HTB.out]; exact hT
                    obtain ⟨a', ha', hle⟩ := bndM_mono HSY.out HSY'.out (fun b hb => List.mem_append_left _ hb) HST.out hbe h0
                    rw [ha']
                    unfold bdA
                    dsimp only [Option.getD_some, Option.isSome_some]
                    have hgt : ¬ (a' > a) := by omega
                    clear hT hbe hb10 h0 ha' hle
                    go_wp2
                    go_roundw
                    case rel => exact ⟨q + 1, by go_num, hlq, HB10.out⟩
                    case measure => simp [intOf]; omega
                · obtain rfl : q = n + 1 := by omega
                  have hlq2 : ¬ (((n + 1 : Nat) : Int) < (n : Int) + 1) := by omega
                  go_wp2
                  go_roundw
                  case rel => exact ⟨p + 1, by go_num, hlp, HB9.out⟩
                  case measure => simp [intOf]; omega
            · obtain rfl : p = n + 1 := by omega
              have hlp3 : ¬ (((n + 1 : Nat) : Int) < (n : Int) + 1) := by omega
              go_wp2
              go_ret
              exact ⟨rfl, HBW.out.trans ((HB7.out.trans (HB8.out.mono HB7.out.size)).mono HBW.out.size)⟩
        · rw [satM_f hst]
          clear hst
          go_wp2
          go_ret
          exact ⟨rfl, HBW.out.trans (HB7.out.mono HBW.out.size)⟩
      · have HS' := Lib.hid (show addX s n bi bj bc = s by unfold addX; rw [if_neg he])
        rw [HS'.out] at HM6
        have he1 : (addE n bi bj bc == 0) = false := by simpa using he
        obtain ⟨er, her⟩ : ∃ er, addE n bi bj bc = er := ⟨_, rfl⟩
        rw [her] at he he1 ⊢
        clear her HS'
        go_wp2_with fail
        refine (Sat_any w6 w1.heap.size g n s HM6.out).mono ?_
        rintro e7 w7 ⟨rfl, hb7⟩
        rw [HWA.out]
        have HB7 := Lib.hid (HB6.out.trans (hb7.mono HB6.out.size))
        clear hb7 HM6 HB6
        go_wp2
        go_ret
        exact ⟨by simp, HBW.out.trans (HB7.out.mono HBW.out.size)⟩

set_option maxRecDepth 100000 in
theorem dbmMonotonic_lifted (os : Os) (started : os.Started) (H : Type) (enc : TypeId × Value → H) :
    ReturnsInHanded {} Try.checked os 7 .any (Rows.dbmMonotonicSpec.pre6 enc Try.prog Try.f7 Rows.dbmMonotonicRow.domain false) (Rows.dbmMonotonicSpec.post enc Try.prog Try.f7 false true false false) := by
  refine law_lifted (C := Try.checked) (B := 4) Try.own started (by kernel_rfl) Try.func7
    (ChangeSpec.witness6 (enc := enc) (C := Try.checked) false ⟨#[], #[.int .i64 0, .slice none 0 0, .agg #[.int .i64 0, .int .i64 0, .int .i64 0]], []⟩ 8 (by kernel_rfl) (by kernel_rfl) (by kernel_rfl) (by kernel_rfl))
    Try.laidOut (by kernel_rfl) rfl rfl rfl Try.underlying4 (fun ds h => match ds, h with | [_, _, _], _ => rfl) ?_
  intro W base args ds ps hval hA hlt hsz
  rw [Try.params7] at hA hval hsz
  obtain ⟨v0, vs0, d0, ds0, p0, q0, hargs, rfl, rfl, h0, r0⟩ := trodAll_cons hA
  obtain ⟨v1, vs1, d1, ds1, p1, q1, rfl, rfl, rfl, h1, r1⟩ := trodAll_cons r0
  obtain ⟨v2, vs2, d2, ds2, p2, q2, rfl, rfl, rfl, h2, r2⟩ := trodAll_cons r1
  obtain ⟨rfl, rfl, rfl⟩ := trodAll_nil r2
  obtain rfl : args = #[v0, v1, v2] := by cases args; simp_all
  obtain ⟨a0, rfl, rfl, rfl, w0⟩ := open_int Try.underlying3 (hval 0 3 v0 rfl rfl) h0
  obtain ⟨l0, g0⟩ := i64_bd w0
  obtain ⟨A1, n1, c1, R1, rfl, k1, l1, g1⟩ := open_bds (hval 1 22 v1 rfl rfl) h1 (fun x hx => hlt x (by simp [hx])) hsz (j := 1) rfl rfl
  obtain ⟨x2, y2, z2, rfl, l2, g2, o2⟩ := open_bd (hval 2 41 v2 rfl rfl) h2 (fun x hx => hlt x (by simp [hx]))
  exact dbmMonotonic_walk a0 A1 n1 c1 R1 x2 y2 z2 W l0 g0 k1 l1 g1 l2 g2 o2

theorem dbmMonotonic_over : Rows.dbmMonotonicRow.holds Try.pinned (OpenSpec.ofChange Rows.dbmMonotonicSpec) :=
  OpenClaim.holds_of_wide 7 Try.f7 rfl rfl rfl rfl rfl rfl rfl ⟨rfl, rfl, rfl, rfl, rfl⟩ rfl rfl rfl rfl rfl (by kernel_rfl) Try.func7 (by kernel_rfl)
    (of_decide_eq_true (by kernel_rfl)) (by unfold Func.isWrapper; first | (rw [if_pos (by decide +kernel)]; kernel_rfl) | (rw [if_neg (by decide +kernel)]; exact ⟨rfl, rfl⟩))
    (fun os started H enc _ => dbmMonotonic_lifted os started H enc)

theorem dbmMonotonic_proved : Rows.DbmMonotonicSaid := dbmMonotonic_over
end Go.Proofs.Ytbmofagaammgmaa
