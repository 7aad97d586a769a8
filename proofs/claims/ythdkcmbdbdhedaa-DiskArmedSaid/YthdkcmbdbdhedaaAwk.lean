/- The function awake of the laws of this layer returns true. -/
import Derived.Test.YthdkcmbdbdhedaaDnw
namespace Go.Proofs.Ythdkcmbdbdhedaa
open Go.ChangeShapes Go.WideShapes Go.ChangeAt Go.RowKit Go.ChangeMaps

theorem Dk.fresh {w : World} {p q g : Nat} {s : St} (h : Dk w p q s) (hg : w.heap.size ≤ g) : ¬ PQ p q g := fun e => by
  have h1 := h.1.lt
  have h2 := h.2.1.lt
  rcases e with e | e <;> omega
def aw1 : St := ⟨[zeros, zeros], false, 2, 3, 0⟩
def aw2 : St := ⟨[List.replicate 64 5, zeros], false, 1, 3, 1⟩
def aw3 : St := ⟨[List.replicate 64 5, List.replicate 3 7 ++ List.replicate 61 0], true, 0, 3, 1⟩
theorem aw1_eq : (St.new 2).Ar 2 3 = aw1 := by rfl
theorem aw2_eq : ({ aw1 with R := aw1.R.set 0 (List.replicate 64 5), a := aw1.a - 1, x := aw1.x + 1 } : St) = aw2 := by rfl
theorem aw3_eq : ({ aw2 with R := aw2.R.set 1 ((List.replicate 64 7).take aw2.b ++ (aw2.R.getD 1 []).drop aw2.b), f := true, a := 0 } : St) = aw3 := by rfl
set_option maxRecDepth 100000 in
set_option maxHeartbeats 1000000 in
theorem awake_any (w : World) : Calls Try.prog 9 #[] w fun e w' => e = .returned (.bool true) ∧ Below w.heap.size w w' := by
  have C0 := Lib.hid (New_ok w 2 (by decide) (by decide))
  go_enter Try.func9, Try.ntmps9
  go_wp2_with fail
  refine C0.out.mono ?_
  rintro e w1 ⟨rfl, hd, hb⟩
  have HP := Lib.hid (show ∀ k, PQ (w.heap.size + 1) w.heap.size k → w.heap.size ≤ k from fun k hk => by rcases hk with e | e <;> omega)
  have HD := Lib.hid hd
  have HB := Lib.hid hb
  clear hd hb C0
  generalize w.heap.size + 1 = p at *
  generalize hq : w.heap.size = q at HD HP
  go_wp2_with fail
  refine (Arm_any _ _ _ _ HD.out 2 3 (by decide)).mono ?_
  rintro e w2 ⟨rfl, hd, hc⟩
  rw [aw1_eq] at hd
  replace HD := Lib.hid hd
  replace HB := Lib.hid (hc.below HB.out (by rw [hq]; exact HP.out) HB.out.size)
  clear hd hc
  go_wp2_with fail
  refine (fill_any w2 5).mono ?_
  rintro e w3 ⟨rfl, hk, hb⟩
  have hg := HD.out.fresh (Nat.le_refl _)
  replace HD := Lib.hid (HD.out.below hb)
  replace HB := Lib.hid (HB.out.trans (hb.mono HB.out.size))
  have HA := Lib.hid (ba_of_blk (n := 64) hk (by decide) hg)
  clear hk hb hg
  go_wp2_with fail
  refine (Write_more w3 p q _ HD.out rfl (by decide) (by decide) 0 (by decide) _ 64 _ HA.out (by decide)).mono ?_
  rintro e w4 ⟨rfl, hd, hc⟩
  rw [aw2_eq] at hd
  replace HD := Lib.hid hd
  replace HB := Lib.hid (hc.below HB.out (by rw [hq]; exact HP.out) HB.out.size)
  clear hd hc HA
  go_wp2_with fail
  refine (fill_any w4 7).mono ?_
  rintro e w5 ⟨rfl, hk, hb⟩
  replace HD := Lib.hid (HD.out.below hb)
  replace HB := Lib.hid (HB.out.trans (hb.mono HB.out.size))
  have HA := Lib.hid (bytes_of_blk (n := 64) hk (by decide))
  clear hk hb
  go_wp2_with fail
  refine (Write_torn w5 p q _ HD.out rfl (by decide) 1 (by decide) _ 64 _ HA.out (by decide)).mono ?_
  rintro e w6 ⟨rfl, hd, hc⟩
  rw [aw3_eq] at hd
  replace HD := Lib.hid hd
  replace HB := Lib.hid (hc.below HB.out (by rw [hq]; exact HP.out) HB.out.size)
  clear hd hc HA
  go_wp2_with fail
  refine (fill_any w6 1).mono ?_
  rintro e w7 ⟨rfl, hk, hb⟩
  replace HD := Lib.hid (HD.out.below hb)
  replace HB := Lib.hid (HB.out.trans (hb.mono HB.out.size))
  clear hk hb
  go_wp2_with fail
  refine (Write_fail w7 p q _ HD.out rfl 0 _).mono ?_
  rintro e w8 ⟨rfl, rfl⟩
  go_wp2_with fail
  refine (Restart_any w7 p q _ HD.out).mono ?_
  rintro e w9 ⟨rfl, hd, hc⟩
  replace HD := Lib.hid hd
  replace HB := Lib.hid (hc.below HB.out (by rw [hq]; exact HP.out) HB.out.size)
  clear hd hc
  go_wp2_with fail
  refine (Read_ok w9 p q _ HD.out rfl 1 (by decide)).mono ?_
  rintro e w10 ⟨g, rfl, hg, hk, hb⟩
  replace HD := Lib.hid (HD.out.below hb)
  replace HB := Lib.hid (HB.out.trans (hb.mono HB.out.size))
  have b2 : w10.cell? ⟨g, 2, none⟩ = some (.int .u8 7) := (hk.cell 2).trans (by rfl)
  have b3 : w10.cell? ⟨g, 3, none⟩ = some (.int .u8 0) := (hk.cell 3).trans (by rfl)
  clear hk hb
  go_wp2_with fail
  refine (Writes_any w10 p q _ HD.out).mono ?_
  rintro e w11 ⟨rfl, rfl⟩
  have hx : ((aw3.Re.x : Nat) : Int) = 1 := rfl
  rw [hx]
  go_wp2
  go_ret
  exact ⟨rfl, HB.out⟩
end Go.Proofs.Ythdkcmbdbdhedaa
