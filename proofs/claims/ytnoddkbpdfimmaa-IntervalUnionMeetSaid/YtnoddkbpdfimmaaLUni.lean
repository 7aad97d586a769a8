/- Law IntervalUnionMeet: for every input the call returns true, and its arguments read afterwards as before. -/
import Derived.Test.YtnoddkbpdfimmaaIva
import Derived.Test.YtnoddkbpdfimmaaIvx
import Derived.Test.YtnoddkbpdfimmaaOpn
import Derived.Test.YtnoddkbpdfimmaaIvd
import Derived.Test.YtnoddkbpdfimmaaIvrm
namespace Go.Proofs.Ytnoddkbpdfimmaa
open Go.ChangeShapes Go.WideShapes Go.ChangeAt Go.RowKit Go.ChangeMaps

set_option maxRecDepth 100000 in
set_option maxHeartbeats 2000000 in
theorem intervalUnionMeet_walk (A : Option Addr) (n c : Nat) (R : List Iv) (B : Option Addr) (m c2 : Nat) (T : List Iv) (w : World) (k0 : At w A n 2 (R.flatMap Iv.cells)) (l0 : n ≤ 9223372036854775807) (g0 : ∀ x ∈ R, x.in) (k1 : At w B m 2 (T.flatMap Iv.cells)) (l1 : m ≤ 9223372036854775807) (g1 : ∀ x ∈ T, x.in) : Calls Try.prog 5 #[.slice A n c, .slice B m c2] w fun e w' => e = .returned (.bool true) ∧ Below w.heap.size w w' := by
  have HK := Lib.hid (show Ivs w A n R from k0)
  have HK2 := Lib.hid (show Ivs w B m T from k1)
  have HOK := Lib.hid (show ∀ x ∈ R, x.ok from fun x hx => g0 x hx)
  have HOK2 := Lib.hid (show ∀ x ∈ T, x.ok from fun x hx => g1 x hx)
  clear k0 g0 k1 g1
  obtain rfl := HK.out.len
  obtain rfl := HK2.out.len
  go_enter Try.func5, Try.ntmps5
  go_wp2_with fail
  refine (awake_any w).mono ?_
  rintro e w1 ⟨rfl, hb⟩
  replace HK := Lib.hid (HK.out.below hb)
  replace HK2 := Lib.hid (HK2.out.below hb)
  have HB := Lib.hid hb
  clear hb
  go_wp2_with fail
  refine (few_any A R.length c w1).mono ?_
  rintro e w2 ⟨rfl, rfl⟩
  by_cases hn : (R.length : Int) ≤ 30
  · have hd : decide ((R.length : Int) ≤ 30) = true := by simpa using hn
    rw [hd]
    have hn2 : R.length ≤ 30 := by omega
    clear hn hd
    go_wp2_with fail
    refine (few_any B T.length c2 w2).mono ?_
    rintro e w3 ⟨rfl, rfl⟩
    by_cases hm : (T.length : Int) ≤ 30
    · have hd : decide ((T.length : Int) ≤ 30) = true := by simpa using hm
      rw [hd]
      have hm2 : T.length ≤ 30 := by omega
      clear hm hd
      have CC := Lib.hid (ROf_any A R.length c R w3 HK.out (by omega) HOK.out)
      go_wp2_with fail
      refine CC.out.mono ?_
      rintro e w4 ⟨v, rfl, Sx, hu, hok, hlx, ho, hb⟩
      clear CC
      obtain ⟨Ax, cx, ev, Ix, -, -⟩ := ho.ivs
      subst ev
      clear ho
      replace Ix := Lib.hid Ix
      have Ux := Lib.hid hu
      have Ox := Lib.hid hok
      clear hu hok
      replace HK := Lib.hid (HK.out.below hb)
      replace HK2 := Lib.hid (HK2.out.below hb)
      replace HB := Lib.hid (HB.out.trans (hb.mono HB.out.size))
      clear hb
      have CC := Lib.hid (ROf_any B T.length c2 T w4 HK2.out (by omega) HOK2.out)
      go_wp2_with fail
      refine CC.out.mono ?_
      rintro e w5 ⟨v, rfl, Sy, hu, hok, hly, ho, hb⟩
      clear CC
      obtain ⟨Ay, cy, ev, Iy, -, -⟩ := ho.ivs
      subst ev
      clear ho
      replace Iy := Lib.hid Iy
      have Uy := Lib.hid hu
      have Oy := Lib.hid hok
      clear hu hok
      replace HK := Lib.hid (HK.out.below hb)
      replace HK2 := Lib.hid (HK2.out.below hb)
      replace Ix := Lib.hid (Ix.out.below hb)
      replace HB := Lib.hid (HB.out.trans (hb.mono HB.out.size))
      clear hb
      obtain ⟨i0, hi, hz0, hz1, hz2⟩ := info_parts Try.info42
      have HO6 := Lib.hid (show (w5.alloc (.cells #[] 42)).ownsRow w5.heap.size 42 2 (.slice (some ⟨w5.heap.size, 0, none⟩) 0 0) 0 [] from ⟨rfl, .inr ⟨w5.heap.size, 0, #[], rfl, Nat.le_refl _, heap_alloc_new w5 _, Nat.le_refl _, Nat.zero_le _, rfl, rfl⟩⟩)
      have HS6 := Lib.hid (At.src (P := Try.prog) (c := c) Try.underlying22 (At.alloc HK.out (.cells #[] 42)) (ivs_one R) (by decide))
      have hb6 : Below w5.heap.size w5 (w5.alloc (.cells #[] 42)) := (Below.refl _ w5).alloc (Nat.le_refl _) _
      have HB6 := Lib.hid hb6
      have hsz6 : w5.heap.size ≤ (w5.alloc (.cells #[] 42)).heap.size := hb6.size
      clear hb6
      go_wp2_with (at_builtin; go_loud (refine wpList_append_src _ rfl _ _ 22 22 rfl w5.heap.size 42 i0 _ 2 16 Try.underlying22 hi hz0 hz1 hz2 rfl _ 0 [] rfl HO6.out _ R.length (R.flatMap Iv.cells) rfl HS6.out ?c1 ?c2 hsz6 ?_))
      case c1 => unfold maxLen; omega
      case c2 => omega
      intro v7 w6 own' hg _
      have HB7 := Lib.hid (HB6.out.grown hg hsz6 (fun j hj => (HO6.out.lt j hj).1))
      have HO7 := Lib.hid own'
      have HS7 := Lib.hid (At.src (P := Try.prog) (c := c2) Try.underlying22 (HK2.out.below HB7.out) (ivs_one T) (by decide))
      have hsz7 := HB7.out.size
      clear own' hg HO6 HS6 HB6 hsz6
      go_wp2_with (at_builtin; go_loud (refine wpList_append_src _ rfl _ _ 22 22 rfl w5.heap.size 42 i0 _ 2 16 Try.underlying22 hi hz0 hz1 hz2 rfl _ R.length _ (by first | rfl | simp) HO7.out _ T.length (T.flatMap Iv.cells) rfl HS7.out ?c3 ?c4 hsz7 ?_))
      case c3 => unfold maxLen; omega
      case c4 => omega
      intro v8 w7 own' hg _
      have hb : Below w5.heap.size w5 w7 := HB7.out.grown hg hsz7 (fun j hj => (HO7.out.lt j hj).1)
      obtain ⟨L, hL⟩ : ∃ L, R ++ T = L := ⟨_, rfl⟩
      have hln : L.length = R.length + T.length := by rw [← hL, List.length_append]
      have HOL := Lib.hid (show ∀ x ∈ L, x.ok from fun x hx => by
        rw [← hL] at hx
        rcases List.mem_append.1 hx with h | h
        · exact HOK.out x h
        · exact HOK2.out x h)
      have HL := Lib.hid hL
      have hI : OR 42 w7 w5.heap.size v8 L := by
        unfold OR
        rw [hln, ← hL, List.flatMap_append]
        simpa using own'
      obtain ⟨A8, c8, rfl, hI8, -, -⟩ := hI.ivs
      have IL := Lib.hid hI8
      have hlnb : L.length ≤ 60 := by omega
      clear own' hg HO7 HS7 HB7 hsz7 hI hI8 hL hln
      replace HK := Lib.hid (HK.out.below hb)
      replace HK2 := Lib.hid (HK2.out.below hb)
      replace Ix := Lib.hid (Ix.out.below hb)
      replace Iy := Lib.hid (Iy.out.below hb)
      replace HB := Lib.hid (HB.out.trans (hb.mono HB.out.size))
      clear hb
      clear HK
      clear HK2
      have CC := Lib.hid (to_any Ax Sx.length cx Sx w7 Ix.out (by omega))
      go_wp2_with fail
      refine CC.out.mono ?_
      rintro e w8 ⟨v, rfl, ho, hb⟩
      clear CC
      obtain ⟨Aa, ca, ev, Ia, -, -⟩ := ho.ivs
      subst ev
      clear ho
      replace Ia := Lib.hid Ia
      replace HB := HB
      replace Ix := Lib.hid (Ix.out.below hb)
      replace Iy := Lib.hid (Iy.out.below hb)
      replace IL := Lib.hid (IL.out.below hb)
      replace HB := Lib.hid (HB.out.trans (hb.mono HB.out.size))
      clear hb
      have CC := Lib.hid (to_any Ay Sy.length cy Sy w8 Iy.out (by omega))
      go_wp2_with fail
      refine CC.out.mono ?_
      rintro e w9 ⟨v, rfl, ho, hb⟩
      clear CC
      obtain ⟨Ab, cb, ev, Ib, -, -⟩ := ho.ivs
      subst ev
      clear ho
      replace Ib := Lib.hid Ib
      replace HB := HB
      replace Ix := Lib.hid (Ix.out.below hb)
      replace Iy := Lib.hid (Iy.out.below hb)
      replace IL := Lib.hid (IL.out.below hb)
      replace Ia := Lib.hid (Ia.out.below hb)
      replace HB := Lib.hid (HB.out.trans (hb.mono HB.out.size))
      clear hb
      have hsum : Sx.length + Sy.length ≤ 60 := by omega
      have CC := Lib.hid (Union_any Aa Ab ca cb Sx Sy w9 Ia.out Ib.out (by omega) Ox.out Oy.out)
      go_wp2_with fail
      refine CC.out.mono ?_
      rintro e w10 ⟨v, rfl, Su, hu, hok, hlu, ho, hb⟩
      clear CC
      obtain ⟨Au, cu, ev, Iu, -, -⟩ := ho.ivs
      subst ev
      clear ho
      replace Iu := Lib.hid Iu
      have Uu := Lib.hid hu
      have Ou := Lib.hid hok
      clear hu hok
      replace Ix := Lib.hid (Ix.out.below hb)
      replace Iy := Lib.hid (Iy.out.below hb)
      replace IL := Lib.hid (IL.out.below hb)
      replace Ia := Lib.hid (Ia.out.below hb)
      replace Ib := Lib.hid (Ib.out.below hb)
      replace HB := Lib.hid (HB.out.trans (hb.mono HB.out.size))
      clear hb
      have CC := Lib.hid (of_any Au Su.length cu Su w10 Iu.out (by omega))
      go_wp2_with fail
      refine CC.out.mono ?_
      rintro e w11 ⟨v, rfl, ho, hb⟩
      clear CC
      obtain ⟨Av, cv, ev, Iv, -, -⟩ := ho.ivs
      subst ev
      clear ho
      replace Iv := Lib.hid Iv
      replace HB := HB
      replace Ix := Lib.hid (Ix.out.below hb)
      replace Iy := Lib.hid (Iy.out.below hb)
      replace IL := Lib.hid (IL.out.below hb)
      replace Ia := Lib.hid (Ia.out.below hb)
      replace Ib := Lib.hid (Ib.out.below hb)
      replace Iu := Lib.hid (Iu.out.below hb)
      replace HB := Lib.hid (HB.out.trans (hb.mono HB.out.size))
      clear hb
      have CC := Lib.hid (ROf_any A8 L.length c8 L w11 IL.out (by omega) HOL.out)
      go_wp2_with fail
      refine CC.out.mono ?_
      rintro e w12 ⟨v, rfl, St, hu, hok, hlt, ho, hb⟩
      clear CC
      obtain ⟨At, ct, ev, It, -, -⟩ := ho.ivs
      subst ev
      clear ho
      replace It := Lib.hid It
      have Ut := Lib.hid hu
      have Ot := Lib.hid hok
      clear hu hok
      replace Ix := Lib.hid (Ix.out.below hb)
      replace Iy := Lib.hid (Iy.out.below hb)
      replace IL := Lib.hid (IL.out.below hb)
      replace Ia := Lib.hid (Ia.out.below hb)
      replace Ib := Lib.hid (Ib.out.below hb)
      replace Iu := Lib.hid (Iu.out.below hb)
      replace Iv := Lib.hid (Iv.out.below hb)
      replace HB := Lib.hid (HB.out.trans (hb.mono HB.out.size))
      clear hb
      have HE := Lib.hid (show Su = St from nrm_uniq Uu.out.1 Ut.out.1 (fun z => by rw [Uu.out.2, Ut.out.2, ← HL.out, List.any_append, List.any_append, Ux.out.2, Uy.out.2]))
      have CC := Lib.hid (RSame_eq Av At Su.length St.length cv ct Su St w12 Iv.out It.out (by omega) HE.out)
      go_wp2_with fail
      refine CC.out.mono ?_
      rintro e w13 ⟨rfl, hb⟩
      clear CC
      replace Ix := Lib.hid (Ix.out.below hb)
      replace Iy := Lib.hid (Iy.out.below hb)
      replace IL := Lib.hid (IL.out.below hb)
      replace Ia := Lib.hid (Ia.out.below hb)
      replace Ib := Lib.hid (Ib.out.below hb)
      replace Iu := Lib.hid (Iu.out.below hb)
      replace Iv := Lib.hid (Iv.out.below hb)
      replace It := Lib.hid (It.out.below hb)
      replace HB := Lib.hid (HB.out.trans (hb.mono HB.out.size))
      clear hb
      clear Ia
      clear Ib
      clear Iu
      clear Iv
      clear It
      clear IL
      have CC := Lib.hid (to_any Ax Sx.length cx Sx w13 Ix.out (by omega))
      go_wp2_with fail
      refine CC.out.mono ?_
      rintro e w14 ⟨v, rfl, ho, hb⟩
      clear CC
      obtain ⟨Aa2, ca2, ev, Ia2, -, -⟩ := ho.ivs
      subst ev
      clear ho
      replace Ia2 := Lib.hid Ia2
      replace HB := HB
      replace Ix := Lib.hid (Ix.out.below hb)
      replace Iy := Lib.hid (Iy.out.below hb)
      replace HB := Lib.hid (HB.out.trans (hb.mono HB.out.size))
      clear hb
      have CC := Lib.hid (to_any Ay Sy.length cy Sy w14 Iy.out (by omega))
      go_wp2_with fail
      refine CC.out.mono ?_
      rintro e w15 ⟨v, rfl, ho, hb⟩
      clear CC
      obtain ⟨Ab2, cb2, ev, Ib2, -, -⟩ := ho.ivs
      subst ev
      clear ho
      replace Ib2 := Lib.hid Ib2
      replace HB := HB
      replace Ix := Lib.hid (Ix.out.below hb)
      replace Iy := Lib.hid (Iy.out.below hb)
      replace Ia2 := Lib.hid (Ia2.out.below hb)
      replace HB := Lib.hid (HB.out.trans (hb.mono HB.out.size))
      clear hb
      have CC := Lib.hid (Meet_any Aa2 Ab2 ca2 cb2 Sx Sy w15 Ia2.out Ib2.out (by omega) Ux.out.1 Uy.out.1 Ox.out Oy.out)
      go_wp2_with fail
      refine CC.out.mono ?_
      rintro e w16 ⟨v, rfl, Sm, hu, hok, hlm, ho, hb⟩
      clear CC
      obtain ⟨Am, cm, ev, Im, -, -⟩ := ho.ivs
      subst ev
      clear ho
      replace Im := Lib.hid Im
      have Um := Lib.hid hu
      have Om := Lib.hid hok
      clear hu hok
      replace Ix := Lib.hid (Ix.out.below hb)
      replace Iy := Lib.hid (Iy.out.below hb)
      replace Ia2 := Lib.hid (Ia2.out.below hb)
      replace Ib2 := Lib.hid (Ib2.out.below hb)
      replace HB := Lib.hid (HB.out.trans (hb.mono HB.out.size))
      clear hb
      have CC := Lib.hid (of_any Am Sm.length cm Sm w16 Im.out (by omega))
      go_wp2_with fail
      refine CC.out.mono ?_
      rintro e w17 ⟨v, rfl, ho, hb⟩
      clear CC
      obtain ⟨An, cn, ev, In, -, -⟩ := ho.ivs
      subst ev
      clear ho
      replace In := Lib.hid In
      replace HB := HB
      replace Ix := Lib.hid (Ix.out.below hb)
      replace Iy := Lib.hid (Iy.out.below hb)
      replace Ia2 := Lib.hid (Ia2.out.below hb)
      replace Ib2 := Lib.hid (Ib2.out.below hb)
      replace Im := Lib.hid (Im.out.below hb)
      replace HB := Lib.hid (HB.out.trans (hb.mono HB.out.size))
      clear hb
      have CC := Lib.hid (RMeet_any Ax Ay cx cy Sx Sy w17 Ix.out Iy.out (by omega) (by omega) Ox.out Oy.out)
      go_wp2_with fail
      refine CC.out.mono ?_
      rintro e w18 ⟨v, rfl, Sr, hu, hok, hlr, ho, hb⟩
      clear CC
      obtain ⟨Ar, cr, ev, Ir, -, -⟩ := ho.ivs
      subst ev
      clear ho
      replace Ir := Lib.hid Ir
      have Ur := Lib.hid hu
      have Or := Lib.hid hok
      clear hu hok
      replace Ix := Lib.hid (Ix.out.below hb)
      replace Iy := Lib.hid (Iy.out.below hb)
      replace Ia2 := Lib.hid (Ia2.out.below hb)
      replace Ib2 := Lib.hid (Ib2.out.below hb)
      replace Im := Lib.hid (Im.out.below hb)
      replace In := Lib.hid (In.out.below hb)
      replace HB := Lib.hid (HB.out.trans (hb.mono HB.out.size))
      clear hb
      have HE2 := Lib.hid (show Sm = Sr from cut_eq Um.out Ur.out)
      have CC := Lib.hid (RSame_eq An Ar Sm.length Sr.length cn cr Sm Sr w18 In.out Ir.out (by omega) HE2.out)
      go_wp2_with fail
      refine CC.out.mono ?_
      rintro e w19 ⟨rfl, hb⟩
      clear CC
      replace Ix := Lib.hid (Ix.out.below hb)
      replace Iy := Lib.hid (Iy.out.below hb)
      replace Ia2 := Lib.hid (Ia2.out.below hb)
      replace Ib2 := Lib.hid (Ib2.out.below hb)
      replace Im := Lib.hid (Im.out.below hb)
      replace In := Lib.hid (In.out.below hb)
      replace Ir := Lib.hid (Ir.out.below hb)
      replace HB := Lib.hid (HB.out.trans (hb.mono HB.out.size))
      clear hb
      go_wp2
      go_ret
      exact ⟨rfl, HB.out⟩
    · have hd : decide ((T.length : Int) ≤ 30) = false := by simpa using hm
      rw [hd]
      go_wp2
      go_ret
      exact ⟨rfl, HB.out⟩
  · have hd : decide ((R.length : Int) ≤ 30) = false := by simpa using hn
    rw [hd]
    go_wp2
    go_ret
    exact ⟨rfl, HB.out⟩

set_option maxRecDepth 100000 in
theorem intervalUnionMeet_lifted (os : Os) (started : os.Started) (H : Type) (enc : TypeId × Value → H) :
    ReturnsInHanded {} Try.checked os 5 .any (Rows.intervalUnionMeetSpec.pre6 enc Try.prog Try.f5 Rows.intervalUnionMeetRow.domain false) (Rows.intervalUnionMeetSpec.post enc Try.prog Try.f5 false true false false) := by
  refine law_lifted (C := Try.checked) (B := 4) Try.own started (by kernel_rfl) Try.func5
    (ChangeSpec.witness6 (enc := enc) (C := Try.checked) false ⟨#[], #[.slice none 0 0, .slice none 0 0], []⟩ 8 (by kernel_rfl) (by kernel_rfl) (by kernel_rfl) (by kernel_rfl))
    Try.laidOut (by kernel_rfl) rfl rfl rfl Try.underlying4 (fun ds h => match ds, h with | [_, _], _ => rfl) ?_
  intro W base args ds ps hval hA hlt hsz
  rw [Try.params5] at hA hval hsz
  obtain ⟨v0, vs0, d0, ds0, p0, q0, hargs, rfl, rfl, h0, r0⟩ := trodAll_cons hA
  obtain ⟨v1, vs1, d1, ds1, p1, q1, rfl, rfl, rfl, h1, r1⟩ := trodAll_cons r0
  obtain ⟨rfl, rfl, rfl⟩ := trodAll_nil r1
  obtain rfl : args = #[v0, v1] := by cases args; simp_all
  obtain ⟨A0, n0, c0, R0, rfl, k0, l0, g0⟩ := open_row (hval 0 22 v0 rfl rfl) h0 (fun x hx => hlt x (by simp [hx])) hsz (j := 0) rfl rfl
  obtain ⟨A1, n1, c1, R1, rfl, k1, l1, g1⟩ := open_row (hval 1 22 v1 rfl rfl) h1 (fun x hx => hlt x (by simp [hx])) hsz (j := 1) rfl rfl
  exact intervalUnionMeet_walk A0 n0 c0 R0 A1 n1 c1 R1 W k0 l0 g0 k1 l1 g1

theorem intervalUnionMeet_over : Rows.intervalUnionMeetRow.holds Try.pinned (OpenSpec.ofChange Rows.intervalUnionMeetSpec) :=
  OpenClaim.holds_of_wide 5 Try.f5 rfl rfl rfl rfl rfl rfl rfl ⟨rfl, rfl, rfl, rfl, rfl⟩ rfl rfl rfl rfl rfl (by kernel_rfl) Try.func5 (by kernel_rfl)
    (of_decide_eq_true (by kernel_rfl)) (by unfold Func.isWrapper; first | (rw [if_pos (by decide +kernel)]; kernel_rfl) | (rw [if_neg (by decide +kernel)]; exact ⟨rfl, rfl⟩))
    (fun os started H enc _ => intervalUnionMeet_lifted os started H enc)

theorem intervalUnionMeet_proved : Rows.IntervalUnionMeetSaid := intervalUnionMeet_over
end Go.Proofs.Ytnoddkbpdfimmaa
