/- Law DbmCycle: for every input the call returns true, and its arguments read afterwards as before. -/
import Derived.Test.YtbmofagaammgmaaDpo
import Derived.Deep.Cut
namespace Go.Proofs.Ytbmofagaammgmaa
open Go.ChangeShapes Go.WideShapes Go.ChangeAt Go.RowKit Go.ChangeMaps

set_option maxRecDepth 100000 in
set_option maxHeartbeats 4000000 in
theorem dbmCycle_walk (n : Int) (A : Option Addr) (m c : Nat) (R : List Rb)  (w : World) (li : -9223372036854775808 ≤ n) (gi : n ≤ 9223372036854775807) (k0 : At w A m 3 (R.flatMap Rb.cells)) (l0 : m ≤ 9223372036854775807) (g0 : ∀ x ∈ R, x.in)  :
    Calls Try.prog 5 #[.int .i64 n, .slice A m c] w fun e w' => e = .returned (.bool true) ∧ Below w.heap.size w w' := by
  have HR := Lib.hid (show Rbs w A m R from k0)
  have HIN := Lib.hid g0
  clear k0 g0
  go_enter Try.func5, Try.ntmps5
  go_wp2_with fail
  refine (awake_any w).mono ?_
  rintro e1 w1 ⟨rfl, hb1⟩
  have HBW := Lib.hid hb1
  clear hb1
  go_wp2_with fail
  refine (small_any w1 n A m c).mono ?_
  rintro e2 x2 ⟨rfl, hx⟩
  subst x2
  by_cases hsm : n ≤ 10 ∧ m ≤ 40
  rotate_left 1
  · rw [show (decide (n ≤ 10) && decide (m ≤ 40)) = false by by_cases q1 : n ≤ 10 <;> by_cases q2 : m ≤ 40 <;> simp [q1, q2] <;> exact absurd ⟨q1, q2⟩ hsm]
    go_wp2
    go_ret
    exact ⟨rfl, HBW.out⟩
  obtain ⟨hn10, hm40⟩ := hsm
  rw [show (decide (n ≤ 10) && decide (m ≤ 40)) = true by simp [hn10, hm40]]
  by_cases hn0 : n < 0
  · go_wp2_with fail
    refine (built_bad w1 n (.inl hn0) A m c).mono ?_
    rintro e3 w3 ⟨rfl, hb3⟩
    have HB3 := Lib.hid (HBW.out.trans (hb3.mono HBW.out.size))
    clear hb3
    go_wp2
    go_ret
    exact ⟨rfl, HB3.out⟩
  obtain ⟨n, rfl⟩ : ∃ n' : Nat, n = (n' : Int) := ⟨n.toNat, by omega⟩
  have hn10 : n ≤ 10 := by omega
  go_wp2_with fail
  refine (built_any w1 n (by omega) A m c R (HR.out.below HBW.out) (by omega)).mono ?_
  rintro e3 w3 ⟨g, A', m', c', rfl, hM, hR, hmc, hb3⟩
  have HM3 := Lib.hid (show MX w3 w1.heap.size g n (bld n R) from hM)
  have HR3 := Lib.hid hR
  have HB3 := Lib.hid hb3
  have HMC := Lib.hid hmc
  have hml : m' ≤ 40 := by
    have h1 := hR.len
    have h2 := List.length_filter_le (okB n) R
    have h3 := HR.out.len
    omega
  clear hM hR hb3 hmc
  have HSG := Lib.hid (bld_sg n R)
  have HSY := Lib.hid (bld_of n R)
  have HPO := Lib.hid (bld_pos n R)
  obtain ⟨s, hs⟩ : ∃ s, bld n R = s := ⟨_, rfl⟩
  rw [hs] at HM3 HSG HSY HPO
  clear hs
  have HOK := Lib.hid (show ∀ b ∈ R.filter (okB n), okB n b = true from fun b hb => (List.mem_filter.1 hb).2)
  by_cases hsat : Sat s n
  · have HSOL := Lib.hid (show solM ((R.filter (okB n)).map toBd) = true from solM_t ((sat_iff HSG.out HSY.out).1 hsat))
    have CM := Lib.hid (Cycle_sat w3 w1.heap.size g n s HM3.out hsat)
    clear hsat
    go_wp2_with fail
    refine CM.out.mono ?_
    rintro e4 w4 ⟨rfl, hb4⟩
    have HR4 := Lib.hid (HR3.out.below hb4)
    have HB4 := Lib.hid (HB3.out.trans (hb4.mono HB3.out.size))
    clear hb4 CM
    go_wp2_with fail
    refine (Solution_any w4 n hn10 A' m' c' (R.filter (okB n)) HR4.out hml HOK.out s.c s.prs HSY.out HSG.out.hP).mono ?_
    rintro e5 w5 ⟨A5, k5, c5, rfl, hb5⟩
    rw [HSOL.out]
    have HB5 := Lib.hid (HB4.out.trans (hb5.mono HB4.out.size))
    clear hb5
    go_wp2
    go_ret
    exact ⟨rfl, HBW.out.trans (HB5.out.mono HBW.out.size)⟩
  · have HSOL := Lib.hid (show solM ((R.filter (okB n)).map toBd) = false from solM_f (fun h => hsat ((sat_iff HSG.out HSY.out).2 h)))
    have CM := Lib.hid (Cycle_uns w3 w1.heap.size g n s HM3.out (uns_iff.2 hsat))
    have HCB := Lib.hid (fun p => c_bd HM3.out p)
    clear hsat
    go_wp2_with fail
    refine CM.out.mono ?_
    rintro e4 w4 ⟨nd, A4, m4, c4, i, j, rfl, hN, hji, hi, hnd, hdis, hm4, hat, hb4⟩
    have HR4 := Lib.hid (HR3.out.below hb4)
    have HB4 := Lib.hid (HB3.out.trans (hb4.mono HB3.out.size))
    have HN := Lib.hid hN
    have HDIS := Lib.hid hdis
    have HAT := Lib.hid hat
    have HND := Lib.hid hnd
    have HM4 := Lib.hid hm4
    clear hb4 CM hN hdis hat hnd hm4
    go_wp2_with fail
    refine (Solution_any w4 n hn10 A' m' c' (R.filter (okB n)) HR4.out hml HOK.out s.c s.prs HSY.out HSG.out.hP).mono ?_
    rintro e5 w5 ⟨A5, k5, c5, rfl, hb5⟩
    rw [HSOL.out]
    have HB5 := Lib.hid (HB4.out.trans (hb5.mono HB4.out.size))
    have HR5 := Lib.hid (HR4.out.below hb5)
    have HAT5 := Lib.hid (At.below HAT.out hb5)
    clear hb5 HAT HR4 HB4
    have CN := Lib.hid (Negative_true w5 A' m' c' (R.filter (okB n)) HR5.out (by omega) A4 m4 c4 _ HAT5.out (by have := HM4.out; omega) (by have := HM4.out; omega) (fun t => (eN nd i t : Int)) (wN s nd i)
      (fun t ht => cyc_at HSG.out HPO.out HN.out hji hi t (by have := HM4.out; omega))
      (by rw [HM4.out]; unfold eN; rw [show i - (i - j) = j by omega, Nat.sub_zero, HND.out])
      (fun a b hab hb => by have := HM4.out; unfold eN; exact fun e => HDIS.out (i - b) (i - a) (by omega) (by omega) (by omega) (by omega))
      (fun t => HCB.out _) (by rw [HM4.out]; exact cyc_neg HSG.out.hP HN.out hji hi HND.out))
    go_wp2_with fail
    refine CN.out.mono ?_
    rintro e6 w6 ⟨rfl, hb6⟩
    have HB6 := Lib.hid (HB5.out.trans (hb6.mono HB5.out.size))
    clear hb6
    go_wp2
    go_ret
    exact ⟨rfl, HBW.out.trans (HB6.out.mono HBW.out.size)⟩

set_option maxRecDepth 100000 in
theorem dbmCycle_lifted (os : Os) (started : os.Started) (H : Type) (enc : TypeId × Value → H) :
    ReturnsInHanded {} Try.checked os 5 .any (Rows.dbmCycleSpec.pre6 enc Try.prog Try.f5 Rows.dbmCycleRow.domain false) (Rows.dbmCycleSpec.post enc Try.prog Try.f5 false true false false) := by
  refine law_lifted (C := Try.checked) (B := 4) Try.own started (by kernel_rfl) Try.func5
    (ChangeSpec.witness6 (enc := enc) (C := Try.checked) false ⟨#[], #[.int .i64 0, .slice none 0 0], []⟩ 8 (by kernel_rfl) (by kernel_rfl) (by kernel_rfl) (by kernel_rfl))
    Try.laidOut (by kernel_rfl) rfl rfl rfl Try.underlying4 (fun ds h => match ds, h with | [_, _], _ => rfl) ?_
  intro W base args ds ps hval hA hlt hsz
  rw [Try.params5] at hA hval hsz
  obtain ⟨v0, vs0, d0, ds0, p0, q0, hargs, rfl, rfl, h0, r0⟩ := trodAll_cons hA
  obtain ⟨v1, vs1, d1, ds1, p1, q1, rfl, rfl, rfl, h1, r1⟩ := trodAll_cons r0
  obtain ⟨rfl, rfl, rfl⟩ := trodAll_nil r1
  obtain rfl : args = #[v0, v1] := by cases args; simp_all
  obtain ⟨a0, rfl, rfl, rfl, w0⟩ := open_int Try.underlying3 (hval 0 3 v0 rfl rfl) h0
  obtain ⟨l0, g0⟩ := i64_bd w0
  obtain ⟨A1, n1, c1, R1, rfl, k1, l1, g1⟩ := open_bds (hval 1 22 v1 rfl rfl) h1 (fun x hx => hlt x (by simp [hx])) hsz (j := 1) rfl rfl
  exact dbmCycle_walk a0 A1 n1 c1 R1 W l0 g0 k1 l1 g1

theorem dbmCycle_over : Rows.dbmCycleRow.holds Try.pinned (OpenSpec.ofChange Rows.dbmCycleSpec) :=
  OpenClaim.holds_of_wide 5 Try.f5 rfl rfl rfl rfl rfl rfl rfl ⟨rfl, rfl, rfl, rfl, rfl⟩ rfl rfl rfl rfl rfl (by kernel_rfl) Try.func5 (by kernel_rfl)
    (of_decide_eq_true (by kernel_rfl)) (by unfold Func.isWrapper; first | (rw [if_pos (by decide +kernel)]; kernel_rfl) | (rw [if_neg (by decide +kernel)]; exact ⟨rfl, rfl⟩))
    (fun os started H enc _ => dbmCycle_lifted os started H enc)

theorem dbmCycle_proved : Rows.DbmCycleSaid := dbmCycle_over
end Go.Proofs.Ytbmofagaammgmaa
