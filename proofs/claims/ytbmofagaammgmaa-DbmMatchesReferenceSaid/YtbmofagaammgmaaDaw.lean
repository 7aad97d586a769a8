/- Add as a whole; awake. -/
import Derived.Test.YtbmofagaammgmaaDbe
import Derived.Test.YtbmofagaammgmaaDw0
namespace Go.Proofs.Ytbmofagaammgmaa
open Go.ChangeShapes Go.WideShapes Go.ChangeAt Go.RowKit Go.ChangeMaps

def addX (s : St) (n : Nat) (i j c : Int) : St := if addE n i j c = 0 then addS s i j c else s
def AdP (w : World) (B g n : Nat) (s : St) (i j c : Int) (e : Ending) (w' : World) : Prop := e = .returned (.int .i64 (addE n i j c)) ∧ MX w' B g n (addX s n i j c) ∧ KT w w' ∧ ∀ w0, Below B w0 w → Below B w0 w'
theorem addE_ok {n : Nat} {i j c : Int} (h : addE n i j c = 0) : (0 ≤ i ∧ i ≤ (n : Int)) ∧ (0 ≤ j ∧ j ≤ (n : Int)) ∧ ¬ c < -1125899906842624 ∧ ¬ c > 1125899906842624 := by
  unfold addE at h
  split at h
  · cases h
  rename_i h1
  split at h
  · cases h
  rename_i h2
  have b1 : bad n i = false := by cases hb : bad n i with | false => rfl | true => exact absurd (.inl hb) h1
  have b2 : bad n j = false := by cases hb : bad n j with | false => rfl | true => exact absurd (.inr hb) h1
  exact ⟨not_bad.1 b1, not_bad.1 b2, fun h => h2 (.inl h), fun h => h2 (.inr h)⟩
theorem Add_any (w : World) (B g n : Nat) (s : St) (h : MX w B g n s) (i j c : Int) (ha : s.a < 100000) : Calls Try.prog 22 #[.pointer (some ⟨g, 0, none⟩), .int .i64 i, .int .i64 j, .int .i64 c] w (AdP w B g n s i j c) := by
  by_cases h0 : addE n i j c = 0
  · obtain ⟨hi, hj, h1, h2⟩ := addE_ok h0
    have e : addX s n i j c = addS s i j c := by unfold addX; rw [if_pos h0]
    unfold AdP
    rw [e, h0]
    cases hf : s.f (i, j) with
    | none => exact Add_new w B g n s h i j c hi hj h1 h2 ha hf
    | some q => exact Add_old w B g n s h i j c hi hj h1 h2 ha q.1 q.2 hf
  · have e : addX s n i j c = s := by unfold addX; rw [if_neg h0]
    refine (Add_bad w B g n s h i j c h0).mono ?_
    rintro e' w' ⟨h1, rfl⟩
    exact ⟨h1, by rw [e]; exact h, KT.refl _, fun _ q => q⟩
theorem e0A : addE 2 0 1 (-3) = 0 := by decide
theorem e0B : addE 2 1 2 5 = 0 := by decide
theorem e0C : addE 2 2 0 (-3) = 0 := by decide
theorem xA : addX ⟨[], fun _ => none, 0⟩ 2 0 1 (-3) = sA := by unfold addX; rw [if_pos e0A]; rfl
theorem xB : addX sA 2 1 2 5 = sB := by unfold addX; rw [if_pos e0B]; rfl
theorem xC : addX sB 2 2 0 (-3) = sC := by unfold addX; rw [if_pos e0C]; rfl
set_option maxRecDepth 100000 in
set_option maxHeartbeats 4000000 in
theorem awake_any (w : World) : Calls Try.prog 11 #[] w fun e w' => e = .returned (.bool true) ∧ Below w.heap.size w w' := by
  go_enter Try.func11, Try.ntmps11
  go_wp2_with fail
  refine (New_any w 2 (by decide)).mono ?_
  rintro e w1 ⟨g, rfl, hm, hb⟩
  have HM1 := Lib.hid hm
  have HB1 := Lib.hid hb
  clear hm hb
  go_wp2_with fail
  refine (New_bad w1 65 (.inr (by decide))).mono ?_
  rintro e w1' ⟨rfl, hx⟩
  subst w1'
  go_wp2_with fail
  refine (Add_any w1 w.heap.size g 2 _ HM1.out 0 1 (-3) (by decide)).mono ?_
  rintro e w2 ⟨he, hm, -, hb⟩
  rw [e0A] at he
  subst he
  rw [xA] at hm
  have HM2 := Lib.hid hm
  have HB2 := Lib.hid (hb _ HB1.out)
  clear hm hb HM1 HB1
  go_wp2_with fail
  refine (Add_any w2 w.heap.size g 2 _ HM2.out 1 2 5 (by decide)).mono ?_
  rintro e w3 ⟨he, hm, -, hb⟩
  rw [e0B] at he
  subst he
  rw [xB] at hm
  have HM3 := Lib.hid hm
  have HB3 := Lib.hid (hb _ HB2.out)
  clear hm hb HM2 HB2
  go_wp2_with fail
  refine (Bound_any w3 w.heap.size g 2 _ HM3.out 0 2).mono ?_
  rintro e w4 ⟨he, hb⟩
  rw [bndB] at he
  subst he
  have HM4 := Lib.hid (HM3.out.below hb)
  have HB4 := Lib.hid (HB3.out.trans (hb.mono HB3.out.size))
  clear hb HM3 HB3
  unfold bdA
  dsimp only [Option.getD_some, Option.isSome_some]
  go_wp2_with fail
  refine (Sat_sat w4 w.heap.size g 2 _ HM4.out satB).mono ?_
  rintro e w5 ⟨rfl, hb⟩
  have HM5 := Lib.hid (HM4.out.below hb)
  have HB5 := Lib.hid (HB4.out.trans (hb.mono HB4.out.size))
  clear hb HM4 HB4
  go_wp2_with fail
  refine (Add_any w5 w.heap.size g 2 _ HM5.out 2 0 (-3) (by decide)).mono ?_
  rintro e w6 ⟨he, hm, -, hb⟩
  rw [e0C] at he
  subst he
  rw [xC] at hm
  have HM6 := Lib.hid hm
  have HB6 := Lib.hid (hb _ HB5.out)
  clear hm hb HM5 HB5
  go_wp2_with fail
  refine (Model_uns w6 w.heap.size g 2 _ HM6.out unsC).mono ?_
  rintro e w7 ⟨rfl, hb⟩
  have HM7 := Lib.hid (HM6.out.below hb)
  have HB7 := Lib.hid (HB6.out.trans (hb.mono HB6.out.size))
  clear hb HM6 HB6
  go_wp2_with fail
  refine (Sat_uns w7 w.heap.size g 2 _ HM7.out unsC).mono ?_
  rintro e w8 ⟨rfl, hb⟩
  have HM8 := Lib.hid (HM7.out.below hb)
  have HB8 := Lib.hid (HB7.out.trans (hb.mono HB7.out.size))
  clear hb HM7 HB7
  go_wp2_with fail
  refine (Cycle_uns w8 w.heap.size g 2 _ HM8.out unsC).mono ?_
  rintro e w9 ⟨nd, A, m, c, i, j, rfl, hN, hji, hi, hnd, -, hm, -, hb⟩
  have hm3 : m = 3 := by rw [hm]; exact lenC hN hji hi hnd
  subst hm3
  have HB9 := Lib.hid (HB8.out.trans (hb.mono HB8.out.size))
  clear hb HM8 HB8 hN hji hi hnd hm
  go_wp2
  go_ret
  exact ⟨rfl, HB9.out⟩
end Go.Proofs.Ytbmofagaammgmaa
