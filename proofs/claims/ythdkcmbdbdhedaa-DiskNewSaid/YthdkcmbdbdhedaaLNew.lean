/- Law DiskNew: for every input the call returns true, and its arguments read afterwards as before. -/
import Derived.Test.YthdkcmbdbdhedaaAwk
namespace Go.Proofs.Ythdkcmbdbdhedaa
open Go.ChangeShapes Go.WideShapes Go.ChangeAt Go.RowKit Go.ChangeMaps

set_option maxRecDepth 100000 in
set_option maxHeartbeats 1000000 in
theorem diskNew_walk (x : Int) (w : World) (_ : -9223372036854775808 ≤ x) (_ : x ≤ 9223372036854775807) :
    Calls Try.prog 4 #[.int .i64 x] w fun e w' => e = .returned (.bool true) ∧ Below w.heap.size w w' := by
  obtain ⟨cs, hcs, hmk⟩ := make64
  go_enter Try.func4, Try.ntmps4
  go_wp2_with fail
  refine (awake_any _).mono ?_
  rintro e w1 ⟨rfl, hb⟩
  have HW := Lib.hid hb
  clear hb
  by_cases h7 : 70000 < x
  · go_wp2_with fail
    refine (awake_any _).mono ?_
    rintro e w5 ⟨rfl, hb⟩
    replace HW := Lib.hid (HW.out.trans (hb.mono HW.out.size))
    clear hb
    go_wp2
    go_ret
    exact ⟨rfl, HW.out⟩
  · by_cases hx : x < 1 ∨ 65536 < x
    · have CN := Lib.hid (New_bad w1 x hx)
      rcases hx with hx | hx
      · go_wp2_with fail
        refine CN.out.mono ?_
        rintro e w2 ⟨rfl, rfl⟩
        go_wp2
        go_ret
        exact ⟨rfl, HW.out⟩
      · have h1 : ¬ x < 1 := by omega
        go_wp2_with fail
        refine CN.out.mono ?_
        rintro e w2 ⟨rfl, rfl⟩
        go_wp2
        go_ret
        exact ⟨rfl, HW.out⟩
    · obtain ⟨m, rfl⟩ : ∃ m : Nat, x = (m : Int) := ⟨x.toNat, by omega⟩
      obtain ⟨n, hnm⟩ : ∃ n : Nat, n + 1 = m := ⟨m - 1, by omega⟩
      have CN := Lib.hid (New_ok w1 m (by omega) (by omega))
      have h1 : ¬ (m : Int) < 1 := by omega
      have h2 : ¬ (65536 : Int) < (m : Int) := by omega
      have HRL := Lib.hid (show (St.new m).R.length = m by simp [St.new])
      have HZ : Hid ((St.new m).R.getD n [] = zeros) := Lib.hid (by show (List.replicate m zeros).getD n [] = zeros; rw [List.getD_eq_getElem?_getD, List.getElem?_replicate, if_pos (by omega)]; rfl)
      have e1 : IntKind.i64.wrap ((m : Int) - 1) = (n : Int) := by rw [IntWalk.i64_in _ (by omega)]; omega
      clear hx
      go_wp2_with fail
      refine CN.out.mono ?_
      rintro e w2 ⟨rfl, hd, hb⟩
      have HD := Lib.hid hd
      replace HW := Lib.hid (HW.out.trans (hb.mono HW.out.size))
      generalize w1.heap.size + 1 = p at *
      generalize w1.heap.size = q at *
      clear hd hb CN
      go_wp2_with fail
      refine (Sectors_any w2 p q _ HD.out).mono ?_
      rintro e w3 ⟨rfl, rfl⟩
      rw [HRL.out]
      go_wp2_with fail
      refine (Failed_any w2 p q _ HD.out).mono ?_
      rintro e w3 ⟨rfl, rfl⟩
      have hf : (St.new m).f = false := rfl
      rw [hf]
      go_wp2_with fail
      refine (Writes_any w2 p q _ HD.out).mono ?_
      rintro e w3 ⟨rfl, rfl⟩
      have hxx : (((St.new m).x : Nat) : Int) = 0 := rfl
      rw [hxx]
      have CR := Lib.hid (Read_ok w2 p q _ HD.out rfl n (by rw [HRL.out]; omega))
      go_wp2_with fail
      refine CR.out.mono ?_
      rintro e w4 ⟨g, rfl, hg, hk, hb⟩
      rw [HZ.out] at hk
      have HK := Lib.hid hk
      replace HD := Lib.hid (HD.out.below hb)
      replace HW := Lib.hid (HW.out.trans (hb.mono HW.out.size))
      clear hk hb CR
      go_wp2_with fail
      refine (Read_bad w4 p q _ HD.out _ 1 (.inr ⟨rfl, by rw [HRL.out]; omega, rfl⟩)).mono ?_
      rintro e w5 ⟨rfl, rfl⟩
      go_wp2_with fail
      have HM := Lib.hid (Blk.new w4 5 cs)
      rw [hcs.out] at HM
      have HK2 := Lib.hid (HK.out.alloc (.cells cs 5))
      refine (Same_any _ _ _ 64 64 64 64 zeros zeros (bytes_of_blk HK2.out (by decide)) (bytes_of_blk (t := 5) (by rw [hcs.out]; exact Blk.new w4 5 _) (by decide)) true (by simp)).mono ?_
      rintro e w6 ⟨rfl, rfl⟩
      go_wp2
      go_ret
      exact ⟨rfl, HW.out.alloc HW.out.size _⟩

set_option maxRecDepth 100000 in
theorem diskNew_lifted (os : Os) (started : os.Started) (H : Type) (enc : TypeId × Value → H) :
    ReturnsInHanded {} Try.checked os 4 .any (Rows.diskNewSpec.pre6 enc Try.prog Try.f4 Rows.diskNewRow.domain false) (Rows.diskNewSpec.post enc Try.prog Try.f4 false true false false) := by
  refine law_lifted (C := Try.checked) (B := 4) Try.own started (by kernel_rfl) Try.func4
    (ChangeSpec.witness6 (enc := enc) (C := Try.checked) false ⟨#[], #[.int .i64 0], []⟩ 8 (by kernel_rfl) (by kernel_rfl) (by kernel_rfl) (by kernel_rfl))
    Try.laidOut (by kernel_rfl) rfl rfl rfl Try.underlying4 (fun ds h => match ds, h with | [_], _ => rfl) ?_
  intro W base args ds ps hval hA hlt hsz
  rw [Try.params4] at hA hval hsz
  obtain ⟨v0, vs0, d0, ds0, p0, q0, hargs, rfl, rfl, h0, r0⟩ := trodAll_cons hA
  obtain ⟨rfl, rfl, rfl⟩ := trodAll_nil r0
  obtain rfl : args = #[v0] := by cases args; simp_all
  obtain ⟨a0, rfl, rfl, rfl, w0⟩ := open_int Try.underlying3 (hval 0 3 v0 rfl rfl) h0
  obtain ⟨l0, g0⟩ := i64_bd w0
  clear hlt hsz
  exact diskNew_walk a0 W l0 g0

theorem diskNew_over : Rows.diskNewRow.holds Try.pinned (OpenSpec.ofChange Rows.diskNewSpec) :=
  OpenClaim.holds_of_wide 4 Try.f4 rfl rfl rfl rfl rfl rfl rfl ⟨rfl, rfl, rfl, rfl, rfl⟩ rfl rfl rfl rfl rfl (by kernel_rfl) Try.func4 (by kernel_rfl)
    (of_decide_eq_true (by kernel_rfl)) (by unfold Func.isWrapper; first | (rw [if_pos (by decide +kernel)]; kernel_rfl) | (rw [if_neg (by decide +kernel)]; exact ⟨rfl, rfl⟩))
    (fun os started H enc _ => diskNew_lifted os started H enc)

theorem diskNew_proved : Rows.DiskNewSaid := diskNew_over
end Go.Proofs.Ythdkcmbdbdhedaa
