/- Law CongruenceCount: for every input the call returns true, and its arguments read afterwards as before. -/
import Derived.Test.YtgicdfhhaefibaaOpn
namespace Go.Proofs.Ytgicdfhhaefibaa
open Go.Sort Go.ChangeShapes Go.WideShapes Go.ChangeAt Go.RowKit

theorem stp_dvd (r m n : Int) : ∃ k, n + stp r m n - r = m * k := by
  have h1 := Int.emod_add_mul_ediv n m
  have h2 := Int.emod_add_mul_ediv (r - n % m) m
  exact ⟨n / m - (r - n % m) / m, by unfold stp; grind⟩

theorem div_is (a m q t : Int) (h : a = t + m * q) (h0 : 0 ≤ t) (h1 : t < m) : a / m = q := by
  subst h
  rw [Int.add_mul_ediv_left _ _ (by omega), Int.ediv_eq_zero_of_lt h0 h1]; omega

theorem cnt_eq (r m lo hi : Int) (hv : vld r m = true) (h1 : -1099511627776 ≤ lo) (h2 : hi ≤ 1099511627776) (h3 : lo ≤ hi + 1) : cnt r m lo hi = (hi - r) / m - (lo - 1 - r) / m := by
  obtain ⟨m1, m2, r0, r1⟩ := vld_yes hv
  obtain ⟨s0, s1⟩ := stp_bd r m lo m1
  obtain ⟨k, hk⟩ := stp_dvd r m lo
  unfold cnt
  rw [if_pos hv, if_pos (by omega)]
  have e1 : (lo - 1 - r) / m = k - 1 := div_is _ m (k - 1) (m - 1 - stp r m lo) (by grind) (by omega) (by omega)
  rw [e1]
  by_cases hf : lo + stp r m lo ≤ hi
  · rw [if_pos hf]
    have e2 : (hi - r) / m = (hi - (lo + stp r m lo)) / m + k := by
      rw [show hi - r = hi - (lo + stp r m lo) + m * k by omega, Int.add_mul_ediv_left _ _ (by omega)]
    have e3 : (hi - (lo + stp r m lo)) / m ≤ hi - (lo + stp r m lo) := Int.ediv_le_self m (by omega)
    rw [if_neg (by omega), e2]; omega
  · rw [if_neg hf]
    have e2 : (hi - r) / m = k - 1 := div_is _ m (k - 1) (hi - (lo + stp r m lo) + m) (by grind) (by omega) (by omega)
    rw [e2]; omega

theorem cnt_sum (r m lo hi mid : Int) (h1 : -1099511627776 ≤ lo) (h2 : hi ≤ 1099511627776) (h3 : lo ≤ mid) (h4 : mid < hi) : cnt r m lo mid + cnt r m (mid + 1) hi = cnt r m lo hi := by
  cases hv : vld r m
  · simp [cnt, hv]
  · rw [cnt_eq r m lo mid hv h1 (by omega) (by omega), cnt_eq r m (mid + 1) hi hv (by omega) h2 (by omega), cnt_eq r m lo hi hv h1 h2 (by omega)]
    rw [show mid + 1 - 1 - r = mid - r by omega]; omega

theorem cnt_bd (r m lo hi : Int) (h1 : -1099511627776 ≤ lo) (h2 : hi ≤ 1099511627776) (h3 : lo ≤ hi + 1) : 0 ≤ cnt r m lo hi ∧ cnt r m lo hi ≤ 4398046511104 := by
  unfold cnt
  by_cases hv : vld r m = true
  · obtain ⟨m1, m2, r0, r1⟩ := vld_yes hv
    obtain ⟨s0, s1⟩ := stp_bd r m lo m1
    rw [if_pos hv, if_pos (by omega)]
    by_cases hf : lo + stp r m lo ≤ hi
    · rw [if_pos hf]
      have e3 : (hi - (lo + stp r m lo)) / m ≤ hi - (lo + stp r m lo) := Int.ediv_le_self m (by omega)
      have e4 : 0 ≤ (hi - (lo + stp r m lo)) / m := Int.ediv_nonneg (by omega) (by omega)
      rw [if_neg (by omega)]; omega
    · rw [if_neg hf]; omega
  · rw [if_neg hv]; omega

set_option maxHeartbeats 2000000 in
theorem count_out (r m lo hi : Int) (w : World) (hl : -9223372036854775808 ≤ lo) (hl2 : lo ≤ 9223372036854775807) (hh : -9223372036854775808 ≤ hi) (hh2 : hi ≤ 9223372036854775807) (hx : hi ≤ lo ∨ lo < -1099511627776 ∨ 1099511627776 < hi) :
    Calls Try.prog 9 #[.agg #[.int .i64 r, .int .i64 m], .int .i64 lo, .int .i64 hi] w fun e w' => e = .returned (.bool true) ∧ Below w.heap.size w w' := by
  rcases (show hi ≤ lo ∨ (lo < hi ∧ lo < -1099511627776) ∨ (lo < hi ∧ -1099511627776 ≤ lo ∧ 1099511627776 < hi) by omega) with t1 | ⟨t1, t2⟩ | ⟨t1, t2, t3⟩
  all_goals
    have N1 := Lib.hid (fun w => Count_any r m lo hi w hl hl2 hh hh2)
    have N2 := Lib.hid (fun w => refCount_any r m lo hi w hl hl2 hh hh2)
    obtain ⟨c, hc⟩ : ∃ c, cnt r m lo hi = c := ⟨_, rfl⟩
    rw [hc] at N1 N2
    have HC := Lib.hid hc
    clear hc
    go_enter Try.func9, Try.ntmps9
    go_wp2_with fail
    refine (awake_any _).mono ?_
    rintro e wa ⟨rfl, h1⟩
    have b0 := keepcell h1 newcell0
    have b1 := keepcell h1 newcell1
    have hA := box_below h1
    clear h1
    go_wp2_with fail
    refine (to_any _ _ _).mono ?_
    rintro e wb ⟨rfl, h2⟩
    replace b0 := keepcell h2 b0
    replace b1 := keepcell h2 b1
    have hB := more_below hA h2
    clear h2 hA
    go_wp2_with fail
    refine (N1.out _).mono ?_
    rintro e wc ⟨rfl, h3⟩
    replace b0 := keepcell h3 b0
    replace b1 := keepcell h3 b1
    have hC := more_below hB h3
    clear h3 hB
    go_wp2_with fail
    refine (N2.out _).mono ?_
    rintro e wd ⟨rfl, h4⟩
    replace b0 := keepcell h4 b0
    replace b1 := keepcell h4 b1
    have hD := more_below hC h4
    clear h4 hC
    go_wp2
    go_ret
    exact ⟨rfl, hD⟩

set_option maxHeartbeats 2000000 in
theorem count_in (r m lo hi : Int) (w : World) (hl : -9223372036854775808 ≤ lo) (hl2 : lo ≤ 9223372036854775807) (hh : -9223372036854775808 ≤ hi) (hh2 : hi ≤ 9223372036854775807) (t1 : lo < hi) (t2 : -1099511627776 ≤ lo) (t3 : hi ≤ 1099511627776) :
    Calls Try.prog 9 #[.agg #[.int .i64 r, .int .i64 m], .int .i64 lo, .int .i64 hi] w fun e w' => e = .returned (.bool true) ∧ Below w.heap.size w w' := by
  have N1 := Lib.hid (fun w => Count_any r m lo hi w hl hl2 hh hh2)
  have N2 := Lib.hid (fun w => refCount_any r m lo hi w hl hl2 hh hh2)
  obtain ⟨c, hc⟩ : ∃ c, cnt r m lo hi = c := ⟨_, rfl⟩
  rw [hc] at N1 N2
  have HC := Lib.hid hc
  clear hc
  go_enter Try.func9, Try.ntmps9
  go_wp2_with fail
  refine (awake_any _).mono ?_
  rintro e wa ⟨rfl, h1⟩
  have b0 := keepcell h1 newcell0
  have b1 := keepcell h1 newcell1
  have hA := box_below h1
  clear h1
  go_wp2_with fail
  refine (to_any _ _ _).mono ?_
  rintro e wb ⟨rfl, h2⟩
  replace b0 := keepcell h2 b0
  replace b1 := keepcell h2 b1
  have hB := more_below hA h2
  clear h2 hA
  go_wp2_with fail
  refine (N1.out _).mono ?_
  rintro e wc ⟨rfl, h3⟩
  replace b0 := keepcell h3 b0
  replace b1 := keepcell h3 b1
  have hC := more_below hB h3
  clear h3 hB
  go_wp2_with fail
  refine (N2.out _).mono ?_
  rintro e wd ⟨rfl, h4⟩
  replace b0 := keepcell h4 b0
  replace b1 := keepcell h4 b1
  have hD := more_below hC h4
  clear h4 hC
  go_wp2
  obtain ⟨mid, hmid⟩ : ∃ mid, lo + (hi - lo) / 2 = mid := ⟨_, rfl⟩
  rw [hmid]
  have m1 : lo ≤ mid := by omega
  have m2 : mid < hi := by omega
  clear hmid
  have S := cnt_sum r m lo hi mid t2 t3 m1 m2
  have q1 := cnt_bd r m lo mid t2 (by omega) (by omega)
  have q2 := cnt_bd r m (mid + 1) hi (by omega) t3 (by omega)
  rw [HC.out] at S
  have L1 := Lib.hid (fun w => Count_any r m lo mid w (by omega) (by omega) (by omega) (by omega))
  have L2 := Lib.hid (fun w => Count_any r m (mid + 1) hi w (by omega) (by omega) (by omega) (by omega))
  generalize cnt r m lo mid = u1 at *
  generalize cnt r m (mid + 1) hi = u2 at *
  have b0' := fun d os => cell_regrown b0 d os
  have b1' := fun d os => cell_regrown b1 d os
  have e1 : IntKind.i64.wrap (mid + 1) = mid + 1 := IntWalk.i64_in _ (by omega)
  have e2 : IntKind.i64.wrap (u1 + u2) = c := (IntWalk.i64_in _ (by omega)).trans S
  clear b0 b1 S
  refine wp_region_quiet_below (by kernel_rfl) (by kernel_rfl) ?_
  repeat (go_big_quiet_step ((first | (go_at_call 17; exact Calls.regrown_of (to_any _ _ _)) | (go_at_call 25; first | (with_reducible exact Calls.regrown_of (L1.out _)) | (with_reducible exact Calls.regrown_of (L2.out _))))))
  refine wpQuiet_nil ?_
  intro _ hw'
  obtain ⟨⟨dq, osq⟩, hw''⟩ := hw'
  subst hw''
  go_wp2
  go_ret
  exact ⟨rfl, end_below' hD _ _⟩

theorem congruenceCount_walk (r m lo hi : Int) (w : World) (_ : -9223372036854775808 ≤ r) (_ : r ≤ 9223372036854775807) (_ : -9223372036854775808 ≤ m) (_ : m ≤ 9223372036854775807) (hl : -9223372036854775808 ≤ lo) (hl2 : lo ≤ 9223372036854775807) (hh : -9223372036854775808 ≤ hi) (hh2 : hi ≤ 9223372036854775807) :
    Calls Try.prog 9 #[.agg #[.int .i64 r, .int .i64 m], .int .i64 lo, .int .i64 hi] w fun e w' => e = .returned (.bool true) ∧ Below w.heap.size w w' := by
  by_cases hx : hi ≤ lo ∨ lo < -1099511627776 ∨ 1099511627776 < hi
  · exact count_out r m lo hi w hl hl2 hh hh2 hx
  · exact count_in r m lo hi w hl hl2 hh hh2 (by omega) (by omega) (by omega)

set_option maxRecDepth 100000 in
theorem congruenceCount_lifted (os : Os) (started : os.Started) (H : Type) (enc : TypeId × Value → H) :
    ReturnsInHanded {} Try.checked os 9 .any (Rows.congruenceCountSpec.pre6 enc Try.prog Try.f9 Rows.congruenceCountRow.domain false) (Rows.congruenceCountSpec.post enc Try.prog Try.f9 false true false false) := by
  refine law_lifted (C := Try.checked) (B := 4) Try.own started (by kernel_rfl) Try.func9
    (ChangeSpec.witness6 (enc := enc) (C := Try.checked) false ⟨#[], #[.agg #[.int .i64 0, .int .i64 0], .int .i64 0, .int .i64 0], []⟩ 8 (by kernel_rfl) (by kernel_rfl) (by kernel_rfl) (by kernel_rfl))
    Try.laidOut (by kernel_rfl) rfl rfl rfl Try.underlying4 (fun ds h => match ds, h with | [_, _, _], _ => rfl) ?_
  intro W base args ds ps hval hA hlt hsz
  rw [Try.params9] at hA hval
  clear hlt hsz
  obtain ⟨v0, vs0, d0, ds0, p0, q0, hargs, rfl, rfl, h0, r0⟩ := trodAll_cons hA
  obtain ⟨v1, vs1, d1, ds1, p1, q1, rfl, rfl, rfl, h1, r1⟩ := trodAll_cons r0
  obtain ⟨v2, vs2, d2, ds2, p2, q2, rfl, rfl, rfl, h2, r2⟩ := trodAll_cons r1
  obtain ⟨rfl, rfl, rfl⟩ := trodAll_nil r2
  obtain rfl : args = #[v0, v1, v2] := by cases args; simp_all
  obtain ⟨e0, f0, y0, z0, m0, rfl, rfl, rfl, hy0, hz0⟩ := Joins.open_agg2 Try.underlying28 (by kernel_rfl) Try.cells28 (hval 0 28 v0 rfl rfl) h0
  obtain ⟨r0x, er0, rfl, wr0⟩ := DataW.trod_int Try.underlying2 hy0
  obtain ⟨m0x, em0, rfl, wm0⟩ := DataW.trod_int Try.underlying2 hz0
  obtain rfl : e0 = .int .i64 r0x := by simpa using er0
  obtain rfl : f0 = .int .i64 m0x := by simpa using em0
  obtain ⟨lr0, gr0⟩ := i64_bd wr0
  obtain ⟨lm0, gm0⟩ := i64_bd wm0
  obtain ⟨a1, rfl, rfl, rfl, w1⟩ := open_int Try.underlying2 (hval 1 2 v1 rfl rfl) h1
  obtain ⟨l1, g1⟩ := i64_bd w1
  obtain ⟨a2, rfl, rfl, rfl, w2⟩ := open_int Try.underlying2 (hval 2 2 v2 rfl rfl) h2
  obtain ⟨l2, g2⟩ := i64_bd w2
  exact congruenceCount_walk r0x m0x a1 a2 W lr0 gr0 lm0 gm0 l1 g1 l2 g2

theorem congruenceCount_over : Rows.congruenceCountRow.holds Try.pinned (OpenSpec.ofChange Rows.congruenceCountSpec) :=
  OpenClaim.holds_of_wide 9 Try.f9 rfl rfl rfl rfl rfl rfl rfl ⟨rfl, rfl, rfl, rfl, rfl⟩ rfl rfl rfl rfl rfl (by kernel_rfl) Try.func9 (by kernel_rfl)
    (of_decide_eq_true (by kernel_rfl)) (by unfold Func.isWrapper; first | (rw [if_pos (by decide +kernel)]; kernel_rfl) | (rw [if_neg (by decide +kernel)]; exact ⟨rfl, rfl⟩))
    (fun os started H enc _ => congruenceCount_lifted os started H enc)

theorem congruenceCount_proved : Rows.CongruenceCountSaid := congruenceCount_over
end Go.Proofs.Ytgicdfhhaefibaa
