/- Law DbmOrder: for every input the call returns true, and its arguments read afterwards as before. -/
import Derived.Test.YtbmofagaammgmaaDap
import Derived.Deep.Cut
namespace Go.Proofs.Ytbmofagaammgmaa
open Go.ChangeShapes Go.WideShapes Go.ChangeAt Go.RowKit Go.ChangeMaps

open Go.Deep Go.WideElems in
set_option maxRecDepth 100000 in
theorem open_bdsC {H : Type} {enc : TypeId × Value → H} {W : World} {r : Reach} {b0 : Nat} {v : Value} {d : DataW H} {p : List MemPlace} {ts : List TypeId} {ds : List (DataW H)} {j : Nat}
    (hv : Value.okWide Try.prog W r b0 22 v) (h : DataW.Trod enc Try.prog W 0 (fun _ => true) true 22 v d p) (hlt : ∀ x ∈ p, x.block < W.heap.size)
    (hsz : (DataW.weightsEach Try.prog ts ds).all (· ≤ reachBytes) = true) (hts : ts[j]? = some 22) (hds : ds[j]? = some d) :
    ∃ (A : Option Addr) (n c : Nat) (R : List Rb), v = .slice A n c ∧ At W A n 3 (R.flatMap Rb.cells) ∧ n ≤ 9223372036854775807 ∧ (∀ x ∈ R, x.in) ∧ n ≤ c ∧ c ≤ 9223372036854775807 := by
  obtain ⟨a0, len, cap, rfl⟩ := okWide_slice Try.underlying22 hv
  obtain ⟨fuel, hf⟩ := h
  obtain ⟨A, n, c, R, e, h1, h2, h3, h4⟩ := bds_trod (v := .slice a0 len cap) hf hlt (fun z hz => by simpa using List.all_eq_true.1 hsz _ (DataW.weights_mem_each hts hds z hz))
  exact ⟨A, n, c, R, e, h1, by omega, h4, h2, by omega⟩
theorem u8_bd {n : Int} (h : (Lit.int .u8 n).wf = true) : 0 ≤ n ∧ n ≤ 255 := u8_bdx h
theorem Rbs.drop {w : World} {b off n k : Nat} {R : List Rb} (h : Rbs w (some ⟨b, off, none⟩) n R) (hk : k < n) : Rbs w (some ⟨b, off + k * 3, none⟩) (n - k) (R.drop k) := by
  have hl := h.len
  obtain ⟨b', off', e, hb, hc⟩ := h.2 (by omega)
  injection e with e
  injection e with e1 e2
  subst e1
  subst e2
  have hl2 : ((R.drop k).flatMap Rb.cells).length = (n - k) * 3 := by rw [flat_len Rb.cells 3 (fun _ => rfl), List.length_drop, hl]
  refine ⟨hl2, fun _ => ⟨b, off + k * 3, rfl, hb, fun j u hu => ?_⟩⟩
  have hj := (List.getElem?_eq_some_iff.1 hu).1
  rw [hl2] at hj
  have e3 : R.flatMap Rb.cells = (R.take k).flatMap Rb.cells ++ (R.drop k).flatMap Rb.cells := by rw [← List.flatMap_append, List.take_append_drop]
  have hl3 : ((R.take k).flatMap Rb.cells).length = k * 3 := by rw [flat_len Rb.cells 3 (fun _ => rfl), List.length_take, hl, Nat.min_eq_left (by omega)]
  have := hc (k * 3 + j) u (by rw [e3, List.getElem?_append_right (by omega), hl3, Nat.add_sub_cancel_left]; exact hu)
  rw [Nat.add_assoc]
  exact this
theorem Rbs.take {w : World} {A : Option Addr} {n k : Nat} {R : List Rb} (h : Rbs w A n R) (hk : k ≤ n) : Rbs w A k (R.take k) := by
  have hl := h.len
  have hl3 : ((R.take k).flatMap Rb.cells).length = k * 3 := by rw [flat_len Rb.cells 3 (fun _ => rfl), List.length_take, hl, Nat.min_eq_left (by omega)]
  refine ⟨hl3, fun hk0 => ?_⟩
  obtain ⟨b, off, e, hb, hc⟩ := h.2 (by omega)
  refine ⟨b, off, e, hb, fun j u hu => hc j u ?_⟩
  have e3 : R.flatMap Rb.cells = (R.take k).flatMap Rb.cells ++ (R.drop k).flatMap Rb.cells := by rw [← List.flatMap_append, List.take_append_drop]
  have hj := (List.getElem?_eq_some_iff.1 hu).1
  rw [e3, List.getElem?_append_left hj]
  exact hu
set_option maxRecDepth 100000 in
set_option maxHeartbeats 4000000 in
theorem dbmOrder_walk (n : Int) (A : Option Addr) (m c : Nat) (R : List Rb) (sh : Int) (w : World) (li : -9223372036854775808 ≤ n) (gi : n ≤ 9223372036854775807) (k0 : At w A m 3 (R.flatMap Rb.cells)) (l0 : m ≤ 9223372036854775807) (g0 : ∀ x ∈ R, x.in) (oc : m ≤ c ∧ c ≤ 9223372036854775807) (ls : 0 ≤ sh) (gs : sh ≤ 255) :
    Calls Try.prog 8 #[.int .i64 n, .slice A m c, .int .u8 sh] w fun e w' => e = .returned (.bool true) ∧ Below w.heap.size w w' := by
  have HR := Lib.hid (show Rbs w A m R from k0)
  have HIN := Lib.hid g0
  clear k0 g0
  go_enter Try.func8, Try.ntmps8
  go_wp2_with fail
  refine (awake_any w).mono ?_
  rintro e1 w1 ⟨rfl, hb1⟩
  have HBW := Lib.hid hb1
  clear hb1
  go_wp2_with fail
  refine (small_any w1 n A m c).mono ?_
  rintro e2 x2 ⟨rfl, hx⟩
  subst x2
  by_cases hsm : n ≤ 10 ∧ m ≤ 40
  rotate_left 1
  · rw [show (decide (n ≤ 10) && decide (m ≤ 40)) = false by by_cases q1 : n ≤ 10 <;> by_cases q2 : m ≤ 40 <;> simp [q1, q2] <;> exact absurd ⟨q1, q2⟩ hsm]
    go_wp2
    go_ret
    exact ⟨rfl, HBW.out⟩
  obtain ⟨hn10, hm40⟩ := hsm
  rw [show (decide (n ≤ 10) && decide (m ≤ 40)) = true by simp [hn10, hm40]]
  by_cases hm0 : m = 0
  · subst hm0
    go_wp2
    go_ret
    exact ⟨rfl, HBW.out⟩
  have hm1 : ¬ ((m : Int) = 0) := by omega
  have hm2 : ((m : Int) == 0) = false := by simpa using hm1
  obtain ⟨sn, rfl⟩ : ∃ sn : Nat, sh = (sn : Int) := ⟨sh.toNat, by omega⟩
  have hrem : ((sn : Int).tmod (m : Int)) = ((sn % m : Nat) : Int) := rfl
  have hsn : IntKind.i64.wrap (sn : Int) = (sn : Int) := IntWalk.i64_in _ (by omega)
  obtain ⟨k, hk⟩ : ∃ k, sn % m = k := ⟨_, rfl⟩
  have hkm : k < m := by rw [← hk]; exact Nat.mod_lt _ (by omega)
  rw [hk] at hrem
  have hwk : IntKind.i64.wrap (k : Int) = (k : Int) := IntWalk.i64_in _ (by omega)
  clear hk
  obtain ⟨b0, off, rfl, -, -⟩ := HR.out.at (by omega)
  have hki : (k : Int) < (m : Int) := by omega
  have hk0 : (0 : Int) ≤ (k : Int) := by omega
  have hmc : (m : Int) ≤ (c : Int) := by omega
  have hkc : ¬ c = k := by omega
  have hkt : (k : Int).toNat = k := by omega
  have hn1 : ¬ (k : Int) < 0 := by omega
  have hn2 : ¬ (m : Int) < (k : Int) := by omega
  have hn3 : ¬ (c : Int) < (k : Int) := by omega
  have hn4 : ¬ (c : Int) < (m : Int) := by omega
  have HRD := Lib.hid (HR.out.below HBW.out |>.drop hkm)
  have HRT := Lib.hid ((HR.out.below HBW.out).take (Nat.le_of_lt hkm))
  obtain ⟨i0, hi, hz0, hz1, hz2⟩ := info_parts Try.info41
  have HI := Lib.hid hi
  have HZ0 := Lib.hid hz0
  have HZ1 := Lib.hid hz1
  have HZ2 := Lib.hid hz2
  clear hi hz0 hz1 hz2
  go_upto_region 6 with fail
  have hb0 : Below w1.heap.size w1 w1.drew := below_drew (Below.refl _ _)
  refine wp_region_mix 8 (fun w' => Below w1.heap.size w1 w') (by kernel_rfl) (by decide) ?_
  generalize w1.drew = y0 at hb0 ⊢
  refine wpM_take (i := 1) (oi := ⟨some 38, _, _, _, _, _⟩) (v := ?_) rfl (by decide +kernel) (by decide +kernel) (by decide +kernel) (fun _ _ _ h => h) (Or.inl ⟨by rfl, ?_⟩) hb0 ?_
  case refine_2 =>
    intro w' hSw
    go_simp
    try (with_reducible rfl)
  try simp only [Act.put, List.setIfInBounds_toArray, List.set_cons_zero, List.set_cons_succ]
  refine wpM_take (i := 2) (oi := ⟨some 39, _, _, _, _, _⟩) (v := ?_) rfl (by decide +kernel) (by decide +kernel) (by decide +kernel) (fun _ _ _ h => h) (Or.inl ⟨by rfl, ?_⟩) hb0 ?_
  case refine_2 =>
    intro w' hSw
    go_simp
    try (with_reducible rfl)
  try simp only [Act.put, List.setIfInBounds_toArray, List.set_cons_zero, List.set_cons_succ]
  refine wpM_take (i := 3) (oi := ⟨some 40, _, _, _, _, _⟩) (v := ?_) rfl (by decide +kernel) (by decide +kernel) (by decide +kernel) (fun _ _ _ h => h) (Or.inl ⟨by rfl, ?_⟩) hb0 ?_
  case refine_2 =>
    intro w' hSw
    go_simp
    try (with_reducible rfl)
  try simp only [Act.put, List.setIfInBounds_toArray, List.set_cons_zero, List.set_cons_succ]
  refine wpM_take (i := 5) (oi := ⟨some 42, _, _, _, _, _⟩) (v := ?_) rfl (by decide +kernel) (by decide +kernel) (by decide +kernel) (fun _ _ _ h => h) (Or.inl ⟨by rfl, ?_⟩) hb0 ?_
  case refine_2 =>
    intro w' hSw
    go_simp
    try (with_reducible rfl)
  try simp only [Act.put, List.setIfInBounds_toArray, List.set_cons_zero, List.set_cons_succ]
  refine wpM_take (i := 6) (oi := ⟨some 43, _, _, _, _, _⟩) (v := ?_) rfl (by decide +kernel) (by decide +kernel) (by decide +kernel) (fun _ _ _ h => h) (Or.inl ⟨by rfl, ?_⟩) hb0 ?_
  case refine_2 =>
    intro w' hSw
    go_simp
    try (with_reducible rfl)
  try simp only [Act.put, List.setIfInBounds_toArray, List.set_cons_zero, List.set_cons_succ]
  refine wpM_take (i := 7) (oi := ⟨some 44, _, _, _, _, _⟩) (v := ?_) rfl (by decide +kernel) (by decide +kernel) (by decide +kernel) (fun _ _ _ h => h) (Or.inl ⟨by rfl, ?_⟩) hb0 ?_
  case refine_2 =>
    intro w' hSw
    go_simp
    try (with_reducible rfl)
  try simp only [Act.put, List.setIfInBounds_toArray, List.set_cons_zero, List.set_cons_succ]
  refine wpM_step (i := 0) (o := ⟨some 37, _, _, _, _, _⟩) rfl (by decide +kernel) (by decide) (fun K hK => ?_)
  go_simp
  have hb1 : Below w1.heap.size w1 (y0.alloc (.cells #[] 41)) := hb0.alloc hb0.size _
  refine hK.out _ _ hb1 ?_
  clear hK K
  try simp only [Act.put, List.setIfInBounds_toArray, List.set_cons_zero, List.set_cons_succ]
  obtain ⟨y1, hy1⟩ : ∃ y1, y1 = y0.alloc (.cells #[] 41) := ⟨_, rfl⟩
  have HE := Lib.hid (show y1.heap[y0.heap.size]? = some (.cells #[] 41 (0, 0)) by rw [hy1]; exact Blk.new _ _ _)
  have hyl : w1.heap.size ≤ y0.heap.size := hb0.size
  rw [← hy1] at hb1 ⊢
  clear hy1
  refine wpM_step (i := 4) (o := ⟨some 41, _, _, _, _, _⟩) rfl (by decide +kernel) (by decide) (fun K hK => ?_)
  refine step_append_new y1 rfl (.tmp 37) (.tmp 40) 22 22 (by rfl) w1.heap.size 41 i0 _ 3 24 Try.underlying22 HI.out HZ0.out HZ1.out HZ2.out rfl y0.heap.size hyl (by rfl) HE.out _ (m - k) ((R.drop k).flatMap Rb.cells) (by rfl) (At.src Try.underlying22 (At.below HRD.out hb1) (rb_one _) (by decide)) (by unfold maxLen; omega) (by omega) ?_
  intro v2 y2 own2 hb2
  have hb2 := hb1.trans (hb2.mono hb1.size)
  refine hK.out _ _ hb2 ?_
  clear hK K
  try simp only [Act.put, List.setIfInBounds_toArray, List.set_cons_zero, List.set_cons_succ]
  refine wpM_done (by decide +kernel) ?_
  simp only [List.drop_succ_cons, List.drop_zero]
  refine wpList_append_src y2 rfl (.tmp 41) (.tmp 44) 22 22 rfl w1.heap.size 41 i0 _ 3 24 Try.underlying22 HI.out HZ0.out HZ1.out HZ2.out rfl _ (m - k) ((R.drop k).flatMap Rb.cells) rfl own2 _ k ((R.take k).flatMap Rb.cells) rfl (At.src Try.underlying22 (At.below HRT.out hb2) (rb_one _) (by decide)) (by unfold maxLen; omega) (by omega) hb2.size ?_
  intro v3 w3 own3 hg3 _
  have hb3 : Below w1.heap.size w1 w3 := grown_below hb2 hb2.size own2 hg3
  obtain ⟨A3, c3, rfl, hat, -, -⟩ := At.of_own own3
  have HO := Lib.hid (show Rbs w3 A3 m (R.drop k ++ R.take k) by
    unfold Rbs
    rw [List.flatMap_append]
    rw [show m - k + k = m by omega] at hat
    exact hat)
  have HBX := Lib.hid hb3
  rw [show m - k + k = m by omega]
  clear hat own3 hg3 own2 hb2 hb1 hb0 HE HRD HRT hb3
  clear hki hk0 hmc hkc hkt hn1 hn2 hn3 hn4 hrem hsn hwk hm2 hyl
  obtain ⟨R2, hR2⟩ : ∃ R2, R.drop k ++ R.take k = R2 := ⟨_, rfl⟩
  have HMEM := Lib.hid (show ∀ b, b ∈ okL (n.toNat) R ↔ b ∈ okL (n.toNat) R2 from fun b => by
    have h1 : ∀ x, x ∈ R ↔ x ∈ R2 := fun x => by
      rw [← hR2, List.mem_append]
      conv => lhs; rw [← List.take_append_drop k R, List.mem_append]
      exact Or.comm
    unfold okL
    simp only [List.mem_map, List.mem_filter, h1])
  rw [hR2] at HO
  clear hR2
  by_cases hn0 : n < 0
  · go_wp2_with fail
    refine (built_bad w3 n (.inl hn0) _ m c).mono ?_
    rintro e4 w4 ⟨rfl, hb4⟩
    have HB4 := Lib.hid (HBX.out.trans (hb4.mono HBX.out.size))
    clear hb4
    go_wp2_with fail
    refine (built_bad w4 n (.inl hn0) _ m c3).mono ?_
    rintro e5 w5 ⟨rfl, hb5⟩
    have HB5 := Lib.hid (HBW.out.trans ((HB4.out.trans (hb5.mono HB4.out.size)).mono HBW.out.size))
    clear hb5
    go_wp2
    go_ret
    exact ⟨rfl, HB5.out⟩
  obtain ⟨n, rfl⟩ : ∃ n' : Nat, n = (n' : Int) := ⟨n.toNat, by omega⟩
  rw [Int.toNat_natCast] at HMEM
  have hn10' : n ≤ 10 := by omega
  go_wp2_with fail
  refine (built_any w3 n (by omega) _ m c R (HR.out.below (HBW.out.trans (HBX.out.mono HBW.out.size))) (by omega)).mono ?_
  rintro e4 w4 ⟨ga, A4, m4, c4, rfl, hM, -, -, hb4⟩
  have HMa := Lib.hid (show MX w4 w3.heap.size ga n (bld n R) from hM)
  have HB4 := Lib.hid (HBX.out.trans (hb4.mono HBX.out.size))
  have HO4 := Lib.hid (HO.out.below hb4)
  clear hM hb4
  go_wp2_with fail
  refine (built_any w4 n (by omega) A3 m c3 R2 HO4.out (by omega)).mono ?_
  rintro e5 w5 ⟨gb, A5, m5, c5, rfl, hM, -, -, hb5⟩
  have HMb := Lib.hid (show MX w5 w4.heap.size gb n (bld n R2) from hM)
  have HMa5 := Lib.hid (HMa.out.below hb5)
  have HB5 := Lib.hid (HB4.out.trans (hb5.mono HB4.out.size))
  clear hM hb5 HO4 HO HMa HB4
  have HSGa := Lib.hid (bld_sg n R)
  have HSYa := Lib.hid (bld_of n R)
  have HSGb := Lib.hid (bld_sg n R2)
  have HSYb := Lib.hid (bld_of n R2)
  generalize bld n R = sa at *
  generalize bld n R2 = sb at *
  have HSS := Lib.hid (show satM sa n = satM sb n by
    by_cases h : Sat sb n
    · rw [satM_t h, satM_t (sat_mono HSGa.out HSGb.out HSYa.out HSYb.out (fun b hb => (HMEM.out b).1 hb) h)]
    · rw [satM_f h, satM_f (fun h' => h (sat_mono HSGb.out HSGa.out HSYb.out HSYa.out (fun b hb => (HMEM.out b).2 hb) h'))])
  go_wp2_with fail
  refine (Sat_any w5 _ ga n sa HMa5.out).mono ?_
  rintro e6 w6 ⟨rfl, hb6⟩
  rw [HSS.out]
  have HMb6 := Lib.hid (HMb.out.below hb6)
  have HMa6 := Lib.hid (HMa5.out.below hb6)
  have HB6 := Lib.hid (HB5.out.trans (hb6.mono HB5.out.size))
  clear hb6 HMb HMa5 HB5 HSS
  go_wp2_with fail
  refine (Sat_any w6 _ gb n sb HMb6.out).mono ?_
  rintro e7 w7 ⟨rfl, hb7⟩
  have HMb7 := Lib.hid (HMb6.out.below hb7)
  have HMa7 := Lib.hid (HMa6.out.below hb7)
  have HB7 := Lib.hid (HB6.out.trans (hb7.mono HB6.out.size))
  clear hb7 HMb6 HMa6 HB6
  obtain ⟨bs, hbs⟩ : ∃ b, satM sb n = b := ⟨_, rfl⟩
  rw [hbs]
  clear hbs
  have hw1 : IntKind.i64.wrap ((n : Int) + 1) = (n : Int) + 1 := IntWalk.i64_in _ (by omega)
  go_wp2
  go_loopw [85] (fun s85 wr => ∃ p : Nat, s85 = .int .i64 (p : Int) ∧ p ≤ n + 1 ∧ Below w7.heap.size w7 wr) (fun s85 _ => n + 1 - (intOf s85).toNat)
  case atStart => exact ⟨0, rfl, Nat.zero_le _, Below.refl _ _⟩
  case round =>
    obtain ⟨p, rfl, hpn, hB⟩ := hrel
    have HB8 := Lib.hid hB
    clear hB
    generalize wr = WB at *
    by_cases hlp : p < n + 1
    · have hpi : (p : Int) < (n : Int) + 1 := by omega
      go_wp2
      go_loopw [90] (fun s90 wr => ∃ q : Nat, s90 = .int .i64 (q : Int) ∧ q ≤ n + 1 ∧ Below w7.heap.size w7 wr) (fun s90 _ => n + 1 - (intOf s90).toNat)
      case atStart => exact ⟨0, rfl, Nat.zero_le _, HB8.out⟩
      case round =>
        obtain ⟨q, rfl, hqn, hB⟩ := hrel
        have HB9 := Lib.hid hB
        clear hB HB8
        by_cases hlq : q < n + 1
        · have hqi : (q : Int) < (n : Int) + 1 := by omega
          have hbp : bad n (p : Int) = false := not_bad.2 ⟨by omega, by omega⟩
          go_wp2_with fail
          refine (Bound_all wr _ ga n sa (HMa7.out.below HB9.out) (p : Int) (q : Int) hbp).mono ?_
          rintro e10 w10 ⟨rfl, hb10, hbea⟩
          have HB10 := Lib.hid (HB9.out.trans (hb10.mono HB9.out.size))
          have HBEa := Lib.hid hbea
          clear hb10 hbea
          unfold bdA
          obtain ⟨x, hx⟩ : ∃ x, (bndM sa n (p : Int) (q : Int)).getD 0 = x := ⟨_, rfl⟩
          obtain ⟨y, hy⟩ : ∃ y, (bndM sa n (p : Int) (q : Int)).isSome = y := ⟨_, rfl⟩
          have HX := Lib.hid hx
          have HY := Lib.hid hy
          rw [hx, hy]
          clear hx hy
          go_wp2_with fail
          refine (Bound_all w10 _ gb n sb (HMb7.out.below HB10.out) (p : Int) (q : Int) hbp).mono ?_
          rintro e11 w11 ⟨rfl, hb11, hbeb⟩
          rw [← bndM_same HSGa.out HSGb.out HSYa.out HSYb.out (fun b hb => (HMEM.out b).1 hb) (fun b hb => (HMEM.out b).2 hb) HBEa.out hbeb]
          have HB11 := Lib.hid (HB10.out.trans (hb11.mono HB10.out.size))
          clear hb11 hbeb
          unfold bdA
          rw [HX.out, HY.out]
          go_wp2
          go_roundw
          case rel => exact ⟨q + 1, by go_num, hlq, HB11.out⟩
          case measure => simp [intOf]; omega
        · obtain rfl : q = n + 1 := by omega
          have hlq2 : ¬ (((n + 1 : Nat) : Int) < (n : Int) + 1) := by omega
          go_wp2
          go_roundw
          case rel => exact ⟨p + 1, by go_num, hlp, HB9.out⟩
          case measure => simp [intOf]; omega
    · obtain rfl : p = n + 1 := by omega
      have hlp3 : ¬ (((n + 1 : Nat) : Int) < (n : Int) + 1) := by omega
      go_wp2
      go_ret
      exact ⟨rfl, HBW.out.trans ((HB7.out.trans (HB8.out.mono HB7.out.size)).mono HBW.out.size)⟩

set_option maxRecDepth 100000 in
theorem dbmOrder_lifted (os : Os) (started : os.Started) (H : Type) (enc : TypeId × Value → H) :
    ReturnsInHanded {} Try.checked os 8 .any (Rows.dbmOrderSpec.pre6 enc Try.prog Try.f8 Rows.dbmOrderRow.domain false) (Rows.dbmOrderSpec.post enc Try.prog Try.f8 false true false false) := by
  refine law_lifted (C := Try.checked) (B := 4) Try.own started (by kernel_rfl) Try.func8
    (ChangeSpec.witness6 (enc := enc) (C := Try.checked) false ⟨#[], #[.int .i64 0, .slice none 0 0, .int .u8 0], []⟩ 8 (by kernel_rfl) (by kernel_rfl) (by kernel_rfl) (by kernel_rfl))
    Try.laidOut (by kernel_rfl) rfl rfl rfl Try.underlying4 (fun ds h => match ds, h with | [_, _, _], _ => rfl) ?_
  intro W base args ds ps hval hA hlt hsz
  rw [Try.params8] at hA hval hsz
  obtain ⟨v0, vs0, d0, ds0, p0, q0, hargs, rfl, rfl, h0, r0⟩ := trodAll_cons hA
  obtain ⟨v1, vs1, d1, ds1, p1, q1, rfl, rfl, rfl, h1, r1⟩ := trodAll_cons r0
  obtain ⟨v2, vs2, d2, ds2, p2, q2, rfl, rfl, rfl, h2, r2⟩ := trodAll_cons r1
  obtain ⟨rfl, rfl, rfl⟩ := trodAll_nil r2
  obtain rfl : args = #[v0, v1, v2] := by cases args; simp_all
  obtain ⟨a0, rfl, rfl, rfl, w0⟩ := open_int Try.underlying3 (hval 0 3 v0 rfl rfl) h0
  obtain ⟨l0, g0⟩ := i64_bd w0
  obtain ⟨A1, n1, c1, R1, rfl, k1, l1, g1, o1⟩ := open_bdsC (hval 1 22 v1 rfl rfl) h1 (fun x hx => hlt x (by simp [hx])) hsz (j := 1) rfl rfl
  obtain ⟨a2, rfl, rfl, rfl, w2⟩ := open_int Try.underlying5 (hval 2 5 v2 rfl rfl) h2
  obtain ⟨l2, g2⟩ := u8_bd w2
  exact dbmOrder_walk a0 A1 n1 c1 R1 a2 W l0 g0 k1 l1 g1 o1 l2 g2

theorem dbmOrder_over : Rows.dbmOrderRow.holds Try.pinned (OpenSpec.ofChange Rows.dbmOrderSpec) :=
  OpenClaim.holds_of_wide 8 Try.f8 rfl rfl rfl rfl rfl rfl rfl ⟨rfl, rfl, rfl, rfl, rfl⟩ rfl rfl rfl rfl rfl (by kernel_rfl) Try.func8 (by kernel_rfl)
    (of_decide_eq_true (by kernel_rfl)) (by unfold Func.isWrapper; first | (rw [if_pos (by decide +kernel)]; kernel_rfl) | (rw [if_neg (by decide +kernel)]; exact ⟨rfl, rfl⟩))
    (fun os started H enc _ => dbmOrder_lifted os started H enc)

theorem dbmOrder_proved : Rows.DbmOrderSaid := dbmOrder_over
end Go.Proofs.Ytbmofagaammgmaa
