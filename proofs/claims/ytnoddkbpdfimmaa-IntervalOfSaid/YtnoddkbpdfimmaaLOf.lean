/- Law IntervalOf: for every input the call returns true, and its arguments read afterwards as before. -/
import Derived.Test.YtnoddkbpdfimmaaIva
import Derived.Test.YtnoddkbpdfimmaaIvx
import Derived.Test.YtnoddkbpdfimmaaOpn
import Derived.Test.YtnoddkbpdfimmaaIvd
namespace Go.Proofs.Ytnoddkbpdfimmaa
open Go.ChangeShapes Go.WideShapes Go.ChangeAt Go.RowKit Go.ChangeMaps

set_option maxRecDepth 100000 in
set_option maxHeartbeats 2000000 in
theorem intervalOf_walk (A : Option Addr) (n c : Nat) (R : List Iv) (w : World) (k0 : At w A n 2 (R.flatMap Iv.cells)) (l0 : n ≤ 9223372036854775807) (g0 : ∀ x ∈ R, x.in) : Calls Try.prog 3 #[.slice A n c] w fun e w' => e = .returned (.bool true) ∧ Below w.heap.size w w' := by
  have HK := Lib.hid (show Ivs w A n R from k0)
  have HOK := Lib.hid (show ∀ x ∈ R, x.ok from fun x hx => g0 x hx)
  clear k0 g0
  obtain rfl := HK.out.len
  go_enter Try.func3, Try.ntmps3
  go_wp2_with fail
  refine (awake_any w).mono ?_
  rintro e w1 ⟨rfl, hb⟩
  replace HK := Lib.hid (HK.out.below hb)
  have HB := Lib.hid hb
  clear hb
  go_wp2_with fail
  refine (few_any A R.length c w1).mono ?_
  rintro e w2 ⟨rfl, rfl⟩
  by_cases hn : (R.length : Int) ≤ 30
  · have hd : decide ((R.length : Int) ≤ 30) = true := by simpa using hn
    rw [hd]
    have hn2 : R.length ≤ 100000 := by omega
    clear hn hd
    have CC := Lib.hid (to_any A R.length c R w2 HK.out hn2)
    go_wp2_with fail
    refine CC.out.mono ?_
    rintro e w3 ⟨v, rfl, ho, hb⟩
    clear CC
    obtain ⟨Aa, ca, ev, Ia, -, -⟩ := ho.ivs
    subst ev
    clear ho
    replace Ia := Lib.hid Ia
    replace HB := HB
    replace HK := Lib.hid (HK.out.below hb)
    replace HB := Lib.hid (HB.out.trans (hb.mono HB.out.size))
    clear hb
    have CC := Lib.hid (Of_uni Aa R.length ca R w3 Ia.out hn2 HOK.out)
    go_wp2_with fail
    refine CC.out.mono ?_
    rintro e w4 ⟨v, rfl, Ss, hu, hok, hls, ho, hb⟩
    clear CC
    obtain ⟨As, cs, ev, Is, -, -⟩ := ho.ivs
    subst ev
    clear ho
    replace Is := Lib.hid Is
    have Us := Lib.hid hu
    have Os := Lib.hid hok
    clear hu hok
    replace HK := Lib.hid (HK.out.below hb)
    replace Ia := Lib.hid (Ia.out.below hb)
    replace HB := Lib.hid (HB.out.trans (hb.mono HB.out.size))
    clear hb
    clear Ia
    have CC := Lib.hid (of_any As Ss.length cs Ss w4 Is.out (by omega))
    go_wp2_with fail
    refine CC.out.mono ?_
    rintro e w5 ⟨v, rfl, ho, hb⟩
    clear CC
    obtain ⟨Ab, cb, ev, Ib, -, -⟩ := ho.ivs
    subst ev
    clear ho
    replace Ib := Lib.hid Ib
    replace HB := HB
    replace HK := Lib.hid (HK.out.below hb)
    replace Is := Lib.hid (Is.out.below hb)
    replace HB := Lib.hid (HB.out.trans (hb.mono HB.out.size))
    clear hb
    have CC := Lib.hid (ROf_any A R.length c R w5 HK.out hn2 HOK.out)
    go_wp2_with fail
    refine CC.out.mono ?_
    rintro e w6 ⟨v, rfl, St, hu, hok, hlt, ho, hb⟩
    clear CC
    obtain ⟨At, ct, ev, It, -, -⟩ := ho.ivs
    subst ev
    clear ho
    replace It := Lib.hid It
    have Ut := Lib.hid hu
    have Ot := Lib.hid hok
    clear hu hok
    replace HK := Lib.hid (HK.out.below hb)
    replace Is := Lib.hid (Is.out.below hb)
    replace Ib := Lib.hid (Ib.out.below hb)
    replace HB := Lib.hid (HB.out.trans (hb.mono HB.out.size))
    clear hb
    obtain rfl := uni_eq Us.out Ut.out
    have CC := Lib.hid (RSame_eq Ab At Ss.length Ss.length cb ct Ss Ss w6 Ib.out It.out (by omega) rfl)
    go_wp2_with fail
    refine CC.out.mono ?_
    rintro e w7 ⟨rfl, hb⟩
    clear CC
    replace HK := Lib.hid (HK.out.below hb)
    replace Is := Lib.hid (Is.out.below hb)
    replace Ib := Lib.hid (Ib.out.below hb)
    replace It := Lib.hid (It.out.below hb)
    replace HB := Lib.hid (HB.out.trans (hb.mono HB.out.size))
    clear hb
    clear Ib
    clear It
    clear Is
    have CC := Lib.hid (to_any A R.length c R w7 HK.out hn2)
    go_wp2_with fail
    refine CC.out.mono ?_
    rintro e w8 ⟨v, rfl, ho, hb⟩
    clear CC
    obtain ⟨Ad, cd, ev, Id, -, -⟩ := ho.ivs
    subst ev
    clear ho
    replace Id := Lib.hid Id
    replace HB := HB
    replace HK := Lib.hid (HK.out.below hb)
    replace HB := Lib.hid (HB.out.trans (hb.mono HB.out.size))
    clear hb
    have CC := Lib.hid (Valid_any Ad R.length cd R w8 Id.out hn2 HOK.out)
    go_wp2_with fail
    refine CC.out.mono ?_
    rintro e w9 ⟨rfl, hb⟩
    clear CC
    replace HK := Lib.hid (HK.out.below hb)
    replace Id := Lib.hid (Id.out.below hb)
    replace HB := Lib.hid (HB.out.trans (hb.mono HB.out.size))
    clear hb
    clear Id
    obtain ⟨bv, hbv⟩ : ∃ b, decide (Nrm R) = b := ⟨_, rfl⟩
    rw [hbv]
    have CC := Lib.hid (show Calls Try.prog 19 #[.slice A R.length c] w9 fun e w' => e = .returned (.bool bv) ∧ Below w9.heap.size w9 w' by rw [← hbv]; exact RValid_any A R.length c R w9 HK.out hn2 HOK.out)
    go_wp2_with fail
    refine CC.out.mono ?_
    rintro e w10 ⟨rfl, hb⟩
    clear CC
    replace HK := Lib.hid (HK.out.below hb)
    replace HB := Lib.hid (HB.out.trans (hb.mono HB.out.size))
    clear hb
    have CC := Lib.hid (to_any A R.length c R w10 HK.out hn2)
    go_wp2_with fail
    refine CC.out.mono ?_
    rintro e w11 ⟨v, rfl, ho, hb⟩
    clear CC
    obtain ⟨Af, cf, ev, If, -, -⟩ := ho.ivs
    subst ev
    clear ho
    replace If := Lib.hid If
    replace HB := HB
    replace HK := Lib.hid (HK.out.below hb)
    replace HB := Lib.hid (HB.out.trans (hb.mono HB.out.size))
    clear hb
    have CC := Lib.hid (Of_uni Af R.length cf R w11 If.out hn2 HOK.out)
    go_wp2_with fail
    refine CC.out.mono ?_
    rintro e w12 ⟨v, rfl, Sg, hu, hok, hlg, ho, hb⟩
    clear CC
    obtain ⟨Ag, cg, ev, Ig, -, -⟩ := ho.ivs
    subst ev
    clear ho
    replace Ig := Lib.hid Ig
    have Ug := Lib.hid hu
    have Og := Lib.hid hok
    clear hu hok
    replace HK := Lib.hid (HK.out.below hb)
    replace If := Lib.hid (If.out.below hb)
    replace HB := Lib.hid (HB.out.trans (hb.mono HB.out.size))
    clear hb
    clear If
    have CC := Lib.hid (Valid_nrm Ag Sg.length cg Sg w12 Ig.out (by omega) Og.out Ug.out.1)
    go_wp2_with fail
    refine CC.out.mono ?_
    rintro e w13 ⟨rfl, hb⟩
    clear CC
    replace HK := Lib.hid (HK.out.below hb)
    replace Ig := Lib.hid (Ig.out.below hb)
    replace HB := Lib.hid (HB.out.trans (hb.mono HB.out.size))
    clear hb
    go_wp2
    go_ret
    exact ⟨rfl, HB.out⟩
  · have hd : decide ((R.length : Int) ≤ 30) = false := by simpa using hn
    rw [hd]
    go_wp2
    go_ret
    exact ⟨rfl, HB.out⟩

set_option maxRecDepth 100000 in
theorem intervalOf_lifted (os : Os) (started : os.Started) (H : Type) (enc : TypeId × Value → H) :
    ReturnsInHanded {} Try.checked os 3 .any (Rows.intervalOfSpec.pre6 enc Try.prog Try.f3 Rows.intervalOfRow.domain false) (Rows.intervalOfSpec.post enc Try.prog Try.f3 false true false false) := by
  refine law_lifted (C := Try.checked) (B := 4) Try.own started (by kernel_rfl) Try.func3
    (ChangeSpec.witness6 (enc := enc) (C := Try.checked) false ⟨#[], #[.slice none 0 0], []⟩ 8 (by kernel_rfl) (by kernel_rfl) (by kernel_rfl) (by kernel_rfl))
    Try.laidOut (by kernel_rfl) rfl rfl rfl Try.underlying4 (fun ds h => match ds, h with | [_], _ => rfl) ?_
  intro W base args ds ps hval hA hlt hsz
  rw [Try.params3] at hA hval hsz
  obtain ⟨v0, vs0, d0, ds0, p0, q0, hargs, rfl, rfl, h0, r0⟩ := trodAll_cons hA
  obtain ⟨rfl, rfl, rfl⟩ := trodAll_nil r0
  obtain rfl : args = #[v0] := by cases args; simp_all
  obtain ⟨A0, n0, c0, R0, rfl, k0, l0, g0⟩ := open_row (hval 0 22 v0 rfl rfl) h0 (fun x hx => hlt x (by simp [hx])) hsz (j := 0) rfl rfl
  exact intervalOf_walk A0 n0 c0 R0 W k0 l0 g0

theorem intervalOf_over : Rows.intervalOfRow.holds Try.pinned (OpenSpec.ofChange Rows.intervalOfSpec) :=
  OpenClaim.holds_of_wide 3 Try.f3 rfl rfl rfl rfl rfl rfl rfl ⟨rfl, rfl, rfl, rfl, rfl⟩ rfl rfl rfl rfl rfl (by kernel_rfl) Try.func3 (by kernel_rfl)
    (of_decide_eq_true (by kernel_rfl)) (by unfold Func.isWrapper; first | (rw [if_pos (by decide +kernel)]; kernel_rfl) | (rw [if_neg (by decide +kernel)]; exact ⟨rfl, rfl⟩))
    (fun os started H enc _ => intervalOf_lifted os started H enc)

theorem intervalOf_proved : Rows.IntervalOfSaid := intervalOf_over
end Go.Proofs.Ytnoddkbpdfimmaa
