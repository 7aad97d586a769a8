/- Law SessionNumbers: for every input the call returns true, and its arguments read afterwards as before. -/
import Derived.Test.YtgcjbpiofcggcaaNum
namespace Go.Proofs.Ytgcjbpiofcggcaa
open Go.ChangeShapes Go.WideShapes Go.ChangeAt Go.RowKit Go.ChangeMaps

/-- The last number before the round k. -/
def lastOf (num k : Nat) : Nat := if k = 0 then 0 else 1 + (k - 1) * 8 + num
theorem lastOf_succ (num k : Nat) : lastOf num (k + 1) = 1 + k * 8 + num := by unfold lastOf; simp
theorem upd_below2 {B : Nat} {w0 W W' : World} {p : Nat} (hb : Below B w0 W) (hp : B ≤ p) (h : W.grownBy W' (some p)) (hB : B ≤ W.heap.size := by omega) : Below B w0 W' := hb.grown h hB (fun k hk => by injection hk with hk; omega)
theorem blk_grown {W W' : World} {g p : Nat} {t : TypeId} {cs : Array Value} (h : Blk W g t cs) (hg : W.grownBy W' (some p)) (hne : g ≠ p) : Blk W' g t cs := (hg.block g h.lt (fun e => by injection e with e; omega)).trans h
theorem lastOf_lt (num k : Nat) : lastOf num k < 1 + k * 8 + num := by unfold lastOf; split <;> omega
set_option maxRecDepth 100000 in
set_option maxHeartbeats 4000000 in
theorem sessionNumbers_in (a b x y : Nat) (w : World) (ha : a < 256) (hb : b < 256) (hx : x < 256) (hy : y < 256) :
    Calls Try.prog 8 #[.int .u8 (a : Int), .int .u8 (b : Int), .agg #[.int .u8 (x : Int), .int .u8 (y : Int)]] w fun e w' => e = .returned (.bool true) ∧ Below w.heap.size w w' := by
  have HX : Hid (x % 60 < 60 ∧ (x : Int) % 60 = ((x % 60 : Nat) : Int)) := Lib.hid (by omega)
  have HY : Hid (y % 60 < 60 ∧ (y : Int) % 60 = ((y % 60 : Nat) : Int)) := Lib.hid (by omega)
  obtain ⟨cs, hcs, hmk⟩ : ∃ cs : Array Value, Hid (cs.toList = ic .i64 z60) ∧ ∀ w : World, (Instr.makeSlice 22 (.int .i64 60) (.int .i64 60)).run Try.prog w = .ok (.slice (some ⟨w.heap.size, 0, none⟩) 60 60) (w.alloc (.cells cs 3)) :=
    ⟨Array.replicate 60 (.int .i64 0), Lib.hid rfl, fun w => by kernel_rfl⟩
  go_enter Try.func8, Try.ntmps8
  go_wp2_with fail
  have HW := Lib.hid (((Below.refl _ w).alloc (Nat.le_refl _) (.cells #[.int .u8 (x : Int), .int .u8 (y : Int)] 64)).alloc (by simp) (.cells cs 3))
  have HP : Hid (Blk ((w.alloc (.cells #[.int .u8 (x : Int), .int .u8 (y : Int)] 64)).alloc (.cells cs 3)) w.heap.size 64 #[.int .u8 (x : Int), .int .u8 (y : Int)]) := Lib.hid ((Blk.new _ _ _).alloc _)
  have HZ : Hid (At ((w.alloc (.cells #[.int .u8 (x : Int), .int .u8 (y : Int)] 64)).alloc (.cells cs 3)) (some ⟨w.heap.size + 1, 0, none⟩) 60 1 (ic .i64 z60)) := by
    refine Lib.hid ⟨rfl, fun _ => ⟨_, 0, rfl, by simp, fun j u hj => ?_⟩⟩
    rw [Nat.zero_add]
    exact newcell j u (by simp) (by rw [← hcs.out] at hj; simpa using hj)
  clear hcs hmk
  refine (Script_New _ 60 _ z60 _ HZ.out (by decide)).mono ?_
  rintro e w2 ⟨A2, c2, rfl, hA2, hc2, hn2, hb⟩
  have HW := Lib.hid (HW.out.trans (hb.mono HW.out.size))
  have HZ := Lib.hid (HZ.out.below hb)
  have HP := Lib.hid (HP.out.below hb)
  have HA := Lib.hid hA2
  have HC := Lib.hid hc2
  have HN := Lib.hid hn2
  clear hb hA2 hc2 hn2
  go_wp2_with fail
  refine (New_at _ (a % 8) (by omega) _ _ _ z60 w2 HA.out rfl (by decide) HC.out HN.out (by omega)).mono ?_
  rintro e w3 ⟨p, rfl, hs, hb⟩
  have hp : w.heap.size < p := by have h1 := HP.out.lt; obtain ⟨_, _, _, h2, _⟩ := hs; omega
  have HW := Lib.hid (HW.out.trans (hb.mono HW.out.size))
  have HZ := Lib.hid (HZ.out.below hb)
  have HP := Lib.hid (HP.out.below hb)
  have HS := Lib.hid hs
  clear hb hs HA HC HN
  go_wp2_with fail
  refine (Script_New _ 60 _ z60 w3 HZ.out (by decide)).mono ?_
  rintro e w4 ⟨A2, c2, rfl, hA2, hc2, hn2, hb⟩
  have HW := Lib.hid (HW.out.trans (hb.mono HW.out.size))
  have HP := Lib.hid (HP.out.below hb)
  have HS := Lib.hid (HS.out.below hb)
  have HA := Lib.hid hA2
  have HC := Lib.hid hc2
  have HN := Lib.hid hn2
  clear hb hA2 hc2 hn2
  go_wp2_with fail
  refine (New_at _ (b % 8) (by omega) _ _ _ z60 w4 HA.out rfl (by decide) HC.out HN.out (by omega)).mono ?_
  rintro e w5 ⟨p2, rfl, hs, hb⟩
  have hpp : p + 1 ≤ w4.heap.size := HS.out.lt
  have HW := Lib.hid (HW.out.trans (hb.mono HW.out.size))
  have HP := Lib.hid (HP.out.below hb)
  have HS := Lib.hid (HS.out.below hb)
  have hp2 : w.heap.size < p2 ∧ p + 1 ≤ p2 := by obtain ⟨_, _, _, h2, _⟩ := hs; have := HP.out.lt; omega
  have HT := Lib.hid hs
  have H4 := Lib.hid hpp
  clear hb hs HA HC HN HZ
  go_wp2_with fail
  refine (awake_any _).mono ?_
  rintro e w6 ⟨rfl, hb⟩
  have HW := Lib.hid (HW.out.trans (hb.mono HW.out.size))
  have HP := Lib.hid (HP.out.below hb)
  have HS := Lib.hid (HS.out.below hb)
  have HT := Lib.hid (HT.out.below hb)
  have px := HP.out.cell 0
  simp at px
  clear hb
  have t1 : decide ((x : Int) % 60 < 0) = false := by simp; omega
  go_wp2
  rw [HX.out.2]
  obtain ⟨hq, -⟩ := HX.out
  generalize x % 60 = q at *
  go_loopw [10, 39] (fun l i wr => ∃ k ex : Nat, k ≤ q ∧ i = .int .i64 (k : Int) ∧ l = .int .i64 (lastOf (a % 8) k : Int) ∧ Ses wr w2.heap.size (p + 1) p (a % 8) z60 k ex ∧ Ses wr w4.heap.size (p2 + 1) p2 (b % 8) z60 0 0 ∧ Blk wr w.heap.size 64 #[.int .u8 (x : Int), .int .u8 (y : Int)] ∧ Below w.heap.size w wr) (fun _ i _ => q - (intOf i).toNat)
  case atStart => exact ⟨0, 0, Nat.zero_le _, rfl, rfl, HS.out, HT.out, HP.out, HW.out⟩
  case round =>
    obtain ⟨k, ex, hk, rfl, rfl, hS, hT, hP, hB⟩ := hrel
    have HS := Lib.hid hS
    have HT := Lib.hid hT
    have HP := Lib.hid hP
    have HB := Lib.hid hB
    clear hS hT hP hB
    have HLl := Lib.hid (lastOf_lt (a % 8) k)
    have HLs := Lib.hid (lastOf_succ (a % 8) k)
    generalize lastOf (a % 8) k = L at *
    obtain ⟨T, hT⟩ : ∃ T : Nat, T = 1 + k * 8 + a % 8 := ⟨_, rfl⟩
    have HLT : L < T := by have := HLl.out; omega
    have HTv : Hid ((T : Int) = ((1 + k * 8 + a % 8 : Nat) : Int)) := Lib.hid (by omega)
    have HLn : Hid (lastOf (a % 8) (k + 1) = T) := Lib.hid (by rw [HLs.out, hT])
    clear hT
    by_cases hlt : k < q
    · have t2 : decide ((T : Int) ≤ (L : Int)) = false := by simp; omega
      go_wp2_with fail
      refine (trans_at _ _ _ _ _ _ _ _ HS.out (T : Int) HTv.out).mono ?_
      rintro e v1 ⟨rfl, hb⟩
      have HB := Lib.hid (HB.out.trans (hb.mono HB.out.size))
      have HP := Lib.hid (HP.out.below hb)
      have HS := Lib.hid (HS.out.below hb)
      have HT := Lib.hid (HT.out.below hb)
      clear hb
      go_wp2_with fail
      refine (trans_at _ _ _ _ _ _ _ _ HS.out (T : Int) HTv.out).mono ?_
      rintro e v2 ⟨rfl, hb⟩
      have HB := Lib.hid (HB.out.trans (hb.mono HB.out.size))
      have HP := Lib.hid (HP.out.below hb)
      have HS := Lib.hid (HS.out.below hb)
      have HT := Lib.hid (HT.out.below hb)
      clear hb
      go_wp2_with fail
      refine (fin_at _ _ _ _ _ _ _ _ HS.out (k + 1) 0 (fin60 k ex (by omega))).mono ?_
      rintro e v3 ⟨rfl, hg, hs⟩
      have HB := Lib.hid (upd_below2 HB.out (by omega) hg HB.out.size)
      have HT := Lib.hid (HT.out.grown hg (.inr (by have := H4.out; omega)))
      have HP := Lib.hid (blk_grown HP.out hg (by omega))
      have HS := Lib.hid hs
      clear hg hs
      go_wp2
      go_roundw
      case rel => exact ⟨k + 1, 0, by omega, by go_num, by rw [HLn.out], HS.out, HT.out, HP.out, HB.out⟩
      case measure => simp [intOf]; omega
    · obtain rfl : k = q := by omega
      have py := HP.out.cell 1
      simp at py
      go_wp2
      rw [HY.out.2]
      obtain ⟨hr, -⟩ := HY.out
      generalize y % 60 = r at *
      go_loopw [54] (fun i wr => ∃ j ey : Nat, j ≤ r ∧ i = .int .i64 (j : Int) ∧ Ses wr w2.heap.size (p + 1) p (a % 8) z60 k ex ∧ Ses wr w4.heap.size (p2 + 1) p2 (b % 8) z60 j ey ∧ Blk wr w.heap.size 64 #[.int .u8 (x : Int), .int .u8 (y : Int)] ∧ Below w.heap.size w wr) (fun i _ => r - (intOf i).toNat)
      case atStart => exact ⟨0, 0, Nat.zero_le _, rfl, HS.out, HT.out, HP.out, HB.out⟩
      case round =>
        obtain ⟨j, ey, hj, rfl, hS, hT, hP, hB⟩ := hrel
        have HS := Lib.hid hS
        have HT := Lib.hid hT
        have HP := Lib.hid hP
        have HB := Lib.hid hB
        clear hS hT hP hB
        by_cases hjt : j < r
        · go_wp2_with fail
          refine (fin_at _ _ _ _ _ _ _ _ HT.out (j + 1) 0 (fin60 j ey (by omega))).mono ?_
          rintro e v3 ⟨rfl, hg, hs⟩
          have HB := Lib.hid (upd_below2 HB.out (by omega) hg HB.out.size)
          have HS := Lib.hid (HS.out.grown hg (.inl (by omega)))
          have HP := Lib.hid (blk_grown HP.out hg (by omega))
          have HT := Lib.hid hs
          clear hg hs
          go_wp2
          go_roundw
          case rel => exact ⟨j + 1, 0, by omega, by go_num, HS.out, HT.out, HP.out, HB.out⟩
          case measure => simp [intOf]; omega
        · obtain rfl : j = r := by omega
          have t2 : decide ((T : Int) > (L : Int)) = true := by simp; omega
          go_wp2_with fail
          refine (trans_at _ _ _ _ _ _ _ _ HS.out (T : Int) HTv.out).mono ?_
          rintro e v1 ⟨rfl, hb⟩
          have HB := Lib.hid (HB.out.trans (hb.mono HB.out.size))
          have HP := Lib.hid (HP.out.below hb)
          have HS := Lib.hid (HS.out.below hb)
          have HT := Lib.hid (HT.out.below hb)
          clear hb
          go_wp2_with fail
          refine (trans_at _ _ _ _ _ _ _ _ HS.out (T : Int) HTv.out).mono ?_
          rintro e v2 ⟨rfl, hb⟩
          have HB := Lib.hid (HB.out.trans (hb.mono HB.out.size))
          have HP := Lib.hid (HP.out.below hb)
          have HS := Lib.hid (HS.out.below hb)
          have HT := Lib.hid (HT.out.below hb)
          clear hb
          obtain ⟨U, hU⟩ : ∃ U : Nat, U = 1 + j * 8 + b % 8 := ⟨_, rfl⟩
          go_wp2_with fail
          refine (trans_at _ _ _ _ _ _ _ _ HT.out (U : Int) (by omega)).mono ?_
          rintro e v4 ⟨rfl, hb⟩
          have HB := Lib.hid (HB.out.trans (hb.mono HB.out.size))
          have HP := Lib.hid (HP.out.below hb)
          clear hb
          have p0 := HP.out.cell 0
          have p1 := HP.out.cell 1
          simp at p0 p1
          have hTn := HTv.out
          have hx6 := HX.out.2
          have hy6 := HY.out.2
          have key : ((T : Int) == (U : Int)) = (((a : Int) % 8 == (b : Int) % 8) && ((x : Int) % 60 == (y : Int) % 60)) := by
            rw [Bool.eq_iff_iff]; simp only [Bool.and_eq_true, beq_iff_eq]; omega
          have KEY := Lib.hid key
          clear key hTn hx6 hy6 hU
          rcases hA : ((a : Int) % 8 == (b : Int) % 8) with _ | _
          all_goals rcases hX : ((x : Int) % 60 == (y : Int) % 60) with _ | _
          all_goals rw [hA, hX] at KEY
          all_goals have hK := KEY.out
          all_goals simp at hK
          all_goals go_wp2
          all_goals go_ret
          all_goals refine ⟨?_, HB.out⟩
          all_goals first | rfl | (refine ret_bool ?_; simp [hK])
theorem sessionNumbers_walk (a b : Int) (x y : Nat) (w : World) (ha : 0 ≤ a) (ha2 : a ≤ 255) (hb : 0 ≤ b) (hb2 : b ≤ 255) (hx : x < 256) (hy : y < 256) :
    Calls Try.prog 8 #[.int .u8 a, .int .u8 b, .agg #[.int .u8 (x : Int), .int .u8 (y : Int)]] w fun e w' => e = .returned (.bool true) ∧ Below w.heap.size w w' := by
  obtain ⟨a, rfl⟩ := Int.eq_ofNat_of_zero_le ha
  obtain ⟨b, rfl⟩ := Int.eq_ofNat_of_zero_le hb
  exact sessionNumbers_in a b x y w (by omega) (by omega) hx hy

set_option maxRecDepth 100000 in
theorem sessionNumbers_lifted (os : Os) (started : os.Started) (H : Type) (enc : TypeId × Value → H) :
    ReturnsInHanded {} Try.checked os 8 .any (Rows.sessionNumbersSpec.pre6 enc Try.prog Try.f8 Rows.sessionNumbersRow.domain false) (Rows.sessionNumbersSpec.post enc Try.prog Try.f8 false true false false) := by
  refine law_lifted (C := Try.checked) (B := 4) Try.own started (by kernel_rfl) Try.func8
    (ChangeSpec.witness6 (enc := enc) (C := Try.checked) false ⟨#[], #[.int .u8 0, .int .u8 0, .agg #[.int .u8 0, .int .u8 0]], []⟩ 8 (by kernel_rfl) (by kernel_rfl) (by kernel_rfl) (by kernel_rfl))
    Try.laidOut (by kernel_rfl) rfl rfl rfl Try.underlying4 (fun ds h => match ds, h with | [_, _, _], _ => rfl) ?_
  intro W base args ds ps hval hA hlt hsz
  rw [Try.params8] at hA hval hsz
  obtain ⟨v0, vs0, d0, ds0, p0, q0, hargs, rfl, rfl, h0, r0⟩ := trodAll_cons hA
  obtain ⟨v1, vs1, d1, ds1, p1, q1, rfl, rfl, rfl, h1, r1⟩ := trodAll_cons r0
  obtain ⟨v2, vs2, d2, ds2, p2, q2, rfl, rfl, rfl, h2, r2⟩ := trodAll_cons r1
  obtain ⟨rfl, rfl, rfl⟩ := trodAll_nil r2
  obtain rfl : args = #[v0, v1, v2] := by cases args; simp_all
  obtain ⟨a0, rfl, rfl, rfl, w0⟩ := open_int Try.underlying5 (hval 0 5 v0 rfl rfl) h0
  obtain ⟨l0, g0⟩ := u8_bd w0
  obtain ⟨a1, rfl, rfl, rfl, w1⟩ := open_int Try.underlying5 (hval 1 5 v1 rfl rfl) h1
  obtain ⟨l1, g1⟩ := u8_bd w1
  obtain ⟨x2, y2, lx2, ly2, rfl⟩ := open_arr2 (hval 2 64 v2 rfl rfl) h2
  exact sessionNumbers_walk a0 a1 x2 y2 W l0 g0 l1 g1 lx2 ly2

theorem sessionNumbers_over : Rows.sessionNumbersRow.holds Try.pinned (OpenSpec.ofChange Rows.sessionNumbersSpec) :=
  OpenClaim.holds_of_wide 8 Try.f8 rfl rfl rfl rfl rfl rfl rfl ⟨rfl, rfl, rfl, rfl, rfl⟩ rfl rfl rfl rfl rfl (by kernel_rfl) Try.func8 (by kernel_rfl)
    (of_decide_eq_true (by kernel_rfl)) (by unfold Func.isWrapper; first | (rw [if_pos (by decide +kernel)]; kernel_rfl) | (rw [if_neg (by decide +kernel)]; exact ⟨rfl, rfl⟩))
    (fun os started H enc _ => sessionNumbers_lifted os started H enc)

theorem sessionNumbers_proved : Rows.SessionNumbersSaid := sessionNumbers_over
end Go.Proofs.Ytgcjbpiofcggcaa
