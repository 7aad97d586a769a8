/- Law IntervalAlgebra: for every input the call returns true, and its arguments read afterwards as before. -/
import Derived.Test.YtnoddkbpdfimmaaIva
import Derived.Test.YtnoddkbpdfimmaaIvx
import Derived.Test.YtnoddkbpdfimmaaOpn
import Derived.Test.YtnoddkbpdfimmaaIvd
import Derived.Test.YtnoddkbpdfimmaaIvrm
namespace Go.Proofs.Ytnoddkbpdfimmaa
open Go.ChangeShapes Go.WideShapes Go.ChangeAt Go.RowKit Go.ChangeMaps

set_option maxRecDepth 100000 in
set_option maxHeartbeats 2000000 in
theorem intervalAlgebra_walk (A : Option Addr) (n c : Nat) (R : List Iv) (B : Option Addr) (m c2 : Nat) (T : List Iv) (C : Option Addr) (p c3 : Nat) (U : List Iv) (w : World) (k0 : At w A n 2 (R.flatMap Iv.cells)) (l0 : n ≤ 9223372036854775807) (g0 : ∀ x ∈ R, x.in) (k1 : At w B m 2 (T.flatMap Iv.cells)) (l1 : m ≤ 9223372036854775807) (g1 : ∀ x ∈ T, x.in) (k2 : At w C p 2 (U.flatMap Iv.cells)) (l2 : p ≤ 9223372036854775807) (g2 : ∀ x ∈ U, x.in) : Calls Try.prog 6 #[.slice A n c, .slice B m c2, .slice C p c3] w fun e w' => e = .returned (.bool true) ∧ Below w.heap.size w w' := by
  have HK := Lib.hid (show Ivs w A n R from k0)
  have HOK := Lib.hid (show ∀ x ∈ R, x.ok from fun x hx => g0 x hx)
  have HK2 := Lib.hid (show Ivs w B m T from k1)
  have HOK2 := Lib.hid (show ∀ x ∈ T, x.ok from fun x hx => g1 x hx)
  have HK3 := Lib.hid (show Ivs w C p U from k2)
  have HOK3 := Lib.hid (show ∀ x ∈ U, x.ok from fun x hx => g2 x hx)
  clear k0 g0 k1 g1 k2 g2
  obtain rfl := HK.out.len
  obtain rfl := HK2.out.len
  obtain rfl := HK3.out.len
  go_enter Try.func6, Try.ntmps6
  go_wp2_with fail
  refine (awake_any w).mono ?_
  rintro e w1 ⟨rfl, hb⟩
  replace HK := Lib.hid (HK.out.below hb)
  replace HK2 := Lib.hid (HK2.out.below hb)
  replace HK3 := Lib.hid (HK3.out.below hb)
  have HB := Lib.hid hb
  clear hb
  go_wp2_with fail
  refine (few_any A R.length c w1).mono ?_
  rintro e w2 ⟨rfl, rfl⟩
  by_cases hn : (R.length : Int) ≤ 30
  · have hd : decide ((R.length : Int) ≤ 30) = true := by simpa using hn
    rw [hd]
    have hnN : R.length ≤ 30 := by omega
    clear hn hd
    go_wp2_with fail
    refine (few_any B T.length c2 w2).mono ?_
    rintro e w3 ⟨rfl, rfl⟩
    by_cases hn2 : (T.length : Int) ≤ 30
    · have hd : decide ((T.length : Int) ≤ 30) = true := by simpa using hn2
      rw [hd]
      have hn2N : T.length ≤ 30 := by omega
      clear hn2 hd
      go_wp2_with fail
      refine (few_any C U.length c3 w3).mono ?_
      rintro e w4 ⟨rfl, rfl⟩
      by_cases hn3 : (U.length : Int) ≤ 30
      · have hd : decide ((U.length : Int) ≤ 30) = true := by simpa using hn3
        rw [hd]
        have hn3N : U.length ≤ 30 := by omega
        clear hn3 hd
        have CC := Lib.hid (ROf_any A R.length c R w4 HK.out (by omega) HOK.out)
        go_wp2_with fail
        refine CC.out.mono ?_
        rintro e w5 ⟨v, rfl, Srx, hu, hok, hlrx, ho, hb⟩
        clear CC
        obtain ⟨Arx, crx, ev, Irx, -, -⟩ := ho.ivs
        subst ev
        clear ho
        replace Irx := Lib.hid Irx
        have Urx := Lib.hid hu
        have Orx := Lib.hid hok
        clear hu hok
        replace HK := Lib.hid (HK.out.below hb)
        replace HK2 := Lib.hid (HK2.out.below hb)
        replace HK3 := Lib.hid (HK3.out.below hb)
        replace HB := Lib.hid (HB.out.trans (hb.mono HB.out.size))
        clear hb
        clear HK
        have CC := Lib.hid (to_any Arx Srx.length crx Srx w5 Irx.out (by omega))
        go_wp2_with fail
        refine CC.out.mono ?_
        rintro e w6 ⟨v, rfl, ho, hb⟩
        clear CC
        obtain ⟨Atx, ctx, ev, Itx, -, -⟩ := ho.ivs
        subst ev
        clear ho
        replace Itx := Lib.hid Itx
        replace HB := HB
        replace HK2 := Lib.hid (HK2.out.below hb)
        replace HK3 := Lib.hid (HK3.out.below hb)
        replace Irx := Lib.hid (Irx.out.below hb)
        replace HB := Lib.hid (HB.out.trans (hb.mono HB.out.size))
        clear hb
        clear Irx
        have CC := Lib.hid (ROf_any B T.length c2 T w6 HK2.out (by omega) HOK2.out)
        go_wp2_with fail
        refine CC.out.mono ?_
        rintro e w7 ⟨v, rfl, Sry, hu, hok, hlry, ho, hb⟩
        clear CC
        obtain ⟨Ary, cry, ev, Iry, -, -⟩ := ho.ivs
        subst ev
        clear ho
        replace Iry := Lib.hid Iry
        have Ury := Lib.hid hu
        have Ory := Lib.hid hok
        clear hu hok
        replace HK2 := Lib.hid (HK2.out.below hb)
        replace HK3 := Lib.hid (HK3.out.below hb)
        replace Itx := Lib.hid (Itx.out.below hb)
        replace HB := Lib.hid (HB.out.trans (hb.mono HB.out.size))
        clear hb
        clear HK2
        have CC := Lib.hid (to_any Ary Sry.length cry Sry w7 Iry.out (by omega))
        go_wp2_with fail
        refine CC.out.mono ?_
        rintro e w8 ⟨v, rfl, ho, hb⟩
        clear CC
        obtain ⟨Aty, cty, ev, Ity, -, -⟩ := ho.ivs
        subst ev
        clear ho
        replace Ity := Lib.hid Ity
        replace HB := HB
        replace HK3 := Lib.hid (HK3.out.below hb)
        replace Itx := Lib.hid (Itx.out.below hb)
        replace Iry := Lib.hid (Iry.out.below hb)
        replace HB := Lib.hid (HB.out.trans (hb.mono HB.out.size))
        clear hb
        clear Iry
        have CC := Lib.hid (ROf_any C U.length c3 U w8 HK3.out (by omega) HOK3.out)
        go_wp2_with fail
        refine CC.out.mono ?_
        rintro e w9 ⟨v, rfl, Srz, hu, hok, hlrz, ho, hb⟩
        clear CC
        obtain ⟨Arz, crz, ev, Irz, -, -⟩ := ho.ivs
        subst ev
        clear ho
        replace Irz := Lib.hid Irz
        have Urz := Lib.hid hu
        have Orz := Lib.hid hok
        clear hu hok
        replace HK3 := Lib.hid (HK3.out.below hb)
        replace Itx := Lib.hid (Itx.out.below hb)
        replace Ity := Lib.hid (Ity.out.below hb)
        replace HB := Lib.hid (HB.out.trans (hb.mono HB.out.size))
        clear hb
        clear HK3
        have CC := Lib.hid (to_any Arz Srz.length crz Srz w9 Irz.out (by omega))
        go_wp2_with fail
        refine CC.out.mono ?_
        rintro e w10 ⟨v, rfl, ho, hb⟩
        clear CC
        obtain ⟨Atz, ctz, ev, Itz, -, -⟩ := ho.ivs
        subst ev
        clear ho
        replace Itz := Lib.hid Itz
        replace HB := HB
        replace Itx := Lib.hid (Itx.out.below hb)
        replace Ity := Lib.hid (Ity.out.below hb)
        replace Irz := Lib.hid (Irz.out.below hb)
        replace HB := Lib.hid (HB.out.trans (hb.mono HB.out.size))
        clear hb
        clear Irz
        have CC := Lib.hid (Union_any Atx Aty ctx cty Srx Sry w10 Itx.out Ity.out (by omega) Orx.out Ory.out)
        go_wp2_with fail
        refine CC.out.mono ?_
        rintro e w11 ⟨v, rfl, Sa, hu, hok, hla, ho, hb⟩
        clear CC
        obtain ⟨Aa, ca, ev, Ia, -, -⟩ := ho.ivs
        subst ev
        clear ho
        replace Ia := Lib.hid Ia
        have Ua := Lib.hid hu
        have Oa := Lib.hid hok
        clear hu hok
        replace Itx := Lib.hid (Itx.out.below hb)
        replace Ity := Lib.hid (Ity.out.below hb)
        replace Itz := Lib.hid (Itz.out.below hb)
        replace HB := Lib.hid (HB.out.trans (hb.mono HB.out.size))
        clear hb
        have CC := Lib.hid (of_any Aa Sa.length ca Sa w11 Ia.out (by omega))
        go_wp2_with fail
        refine CC.out.mono ?_
        rintro e w12 ⟨v, rfl, ho, hb⟩
        clear CC
        obtain ⟨Aa1, ca1, ev, Ia1, -, -⟩ := ho.ivs
        subst ev
        clear ho
        replace Ia1 := Lib.hid Ia1
        replace HB := HB
        replace Itx := Lib.hid (Itx.out.below hb)
        replace Ity := Lib.hid (Ity.out.below hb)
        replace Itz := Lib.hid (Itz.out.below hb)
        replace Ia := Lib.hid (Ia.out.below hb)
        replace HB := Lib.hid (HB.out.trans (hb.mono HB.out.size))
        clear hb
        have CC := Lib.hid (Union_any Aty Atx cty ctx Sry Srx w12 Ity.out Itx.out (by omega) Ory.out Orx.out)
        go_wp2_with fail
        refine CC.out.mono ?_
        rintro e w13 ⟨v, rfl, Sb, hu, hok, hlb, ho, hb⟩
        clear CC
        obtain ⟨Ab, cb, ev, Ib, -, -⟩ := ho.ivs
        subst ev
        clear ho
        replace Ib := Lib.hid Ib
        have Ub := Lib.hid hu
        have Ob := Lib.hid hok
        clear hu hok
        replace Itx := Lib.hid (Itx.out.below hb)
        replace Ity := Lib.hid (Ity.out.below hb)
        replace Itz := Lib.hid (Itz.out.below hb)
        replace Ia := Lib.hid (Ia.out.below hb)
        replace Ia1 := Lib.hid (Ia1.out.below hb)
        replace HB := Lib.hid (HB.out.trans (hb.mono HB.out.size))
        clear hb
        have CC := Lib.hid (of_any Ab Sb.length cb Sb w13 Ib.out (by omega))
        go_wp2_with fail
        refine CC.out.mono ?_
        rintro e w14 ⟨v, rfl, ho, hb⟩
        clear CC
        obtain ⟨Ab1, cb1, ev, Ib1, -, -⟩ := ho.ivs
        subst ev
        clear ho
        replace Ib1 := Lib.hid Ib1
        replace HB := HB
        replace Itx := Lib.hid (Itx.out.below hb)
        replace Ity := Lib.hid (Ity.out.below hb)
        replace Itz := Lib.hid (Itz.out.below hb)
        replace Ia := Lib.hid (Ia.out.below hb)
        replace Ia1 := Lib.hid (Ia1.out.below hb)
        replace Ib := Lib.hid (Ib.out.below hb)
        replace HB := Lib.hid (HB.out.trans (hb.mono HB.out.size))
        clear hb
        have HE := Lib.hid (show Sa = Sb from nrm_uniq Ua.out.1 Ub.out.1 (fun z => by
          rw [Ua.out.2, Ub.out.2]
          try simp only [List.any_append]
          try rw [Uq1.out.2]; try rw [Uq2.out.2]; try rw [Uq3.out.2]
          try simp only [List.any_append]
          generalize Srx.any (Iv.has z) = b1
          generalize Sry.any (Iv.has z) = b2
          generalize Srz.any (Iv.has z) = b3
          cases b1 <;> cases b2 <;> cases b3 <;> rfl))
        have CC := Lib.hid (RSame_eq Aa1 Ab1 Sa.length Sb.length ca1 cb1 Sa Sb w14 Ia1.out Ib1.out (by omega) HE.out)
        go_wp2_with fail
        refine CC.out.mono ?_
        rintro e w15 ⟨rfl, hb⟩
        clear CC
        replace Itx := Lib.hid (Itx.out.below hb)
        replace Ity := Lib.hid (Ity.out.below hb)
        replace Itz := Lib.hid (Itz.out.below hb)
        replace Ia := Lib.hid (Ia.out.below hb)
        replace Ia1 := Lib.hid (Ia1.out.below hb)
        replace Ib := Lib.hid (Ib.out.below hb)
        replace Ib1 := Lib.hid (Ib1.out.below hb)
        replace HB := Lib.hid (HB.out.trans (hb.mono HB.out.size))
        clear hb
        clear Ia1
        clear Ib1
        clear HE
        clear Ia
        clear Ib
        have CC := Lib.hid (Meet_any Atx Aty ctx cty Srx Sry w15 Itx.out Ity.out (by omega) Urx.out.1 Ury.out.1 Orx.out Ory.out)
        go_wp2_with fail
        refine CC.out.mono ?_
        rintro e w16 ⟨v, rfl, Sc, hu, hok, hlc, ho, hb⟩
        clear CC
        obtain ⟨Ac, cc, ev, Ic, -, -⟩ := ho.ivs
        subst ev
        clear ho
        replace Ic := Lib.hid Ic
        have Uc := Lib.hid hu
        have Oc := Lib.hid hok
        clear hu hok
        replace Itx := Lib.hid (Itx.out.below hb)
        replace Ity := Lib.hid (Ity.out.below hb)
        replace Itz := Lib.hid (Itz.out.below hb)
        replace HB := Lib.hid (HB.out.trans (hb.mono HB.out.size))
        clear hb
        have CC := Lib.hid (of_any Ac Sc.length cc Sc w16 Ic.out (by omega))
        go_wp2_with fail
        refine CC.out.mono ?_
        rintro e w17 ⟨v, rfl, ho, hb⟩
        clear CC
        obtain ⟨Ac1, cc1, ev, Ic1, -, -⟩ := ho.ivs
        subst ev
        clear ho
        replace Ic1 := Lib.hid Ic1
        replace HB := HB
        replace Itx := Lib.hid (Itx.out.below hb)
        replace Ity := Lib.hid (Ity.out.below hb)
        replace Itz := Lib.hid (Itz.out.below hb)
        replace Ic := Lib.hid (Ic.out.below hb)
        replace HB := Lib.hid (HB.out.trans (hb.mono HB.out.size))
        clear hb
        have CC := Lib.hid (Meet_any Aty Atx cty ctx Sry Srx w17 Ity.out Itx.out (by omega) Ury.out.1 Urx.out.1 Ory.out Orx.out)
        go_wp2_with fail
        refine CC.out.mono ?_
        rintro e w18 ⟨v, rfl, Sd, hu, hok, hld, ho, hb⟩
        clear CC
        obtain ⟨Ad, cd, ev, Id, -, -⟩ := ho.ivs
        subst ev
        clear ho
        replace Id := Lib.hid Id
        have Ud := Lib.hid hu
        have Od := Lib.hid hok
        clear hu hok
        replace Itx := Lib.hid (Itx.out.below hb)
        replace Ity := Lib.hid (Ity.out.below hb)
        replace Itz := Lib.hid (Itz.out.below hb)
        replace Ic := Lib.hid (Ic.out.below hb)
        replace Ic1 := Lib.hid (Ic1.out.below hb)
        replace HB := Lib.hid (HB.out.trans (hb.mono HB.out.size))
        clear hb
        have CC := Lib.hid (of_any Ad Sd.length cd Sd w18 Id.out (by omega))
        go_wp2_with fail
        refine CC.out.mono ?_
        rintro e w19 ⟨v, rfl, ho, hb⟩
        clear CC
        obtain ⟨Ad1, cd1, ev, Id1, -, -⟩ := ho.ivs
        subst ev
        clear ho
        replace Id1 := Lib.hid Id1
        replace HB := HB
        replace Itx := Lib.hid (Itx.out.below hb)
        replace Ity := Lib.hid (Ity.out.below hb)
        replace Itz := Lib.hid (Itz.out.below hb)
        replace Ic := Lib.hid (Ic.out.below hb)
        replace Ic1 := Lib.hid (Ic1.out.below hb)
        replace Id := Lib.hid (Id.out.below hb)
        replace HB := Lib.hid (HB.out.trans (hb.mono HB.out.size))
        clear hb
        have HE := Lib.hid (show Sc = Sd from nrm_uniq Uc.out.1 Ud.out.1 (fun z => by
          rw [Uc.out.2, Ud.out.2]
          try simp only [List.any_append]
          try rw [Uq1.out.2]; try rw [Uq2.out.2]; try rw [Uq3.out.2]
          try simp only [List.any_append]
          generalize Srx.any (Iv.has z) = b1
          generalize Sry.any (Iv.has z) = b2
          generalize Srz.any (Iv.has z) = b3
          cases b1 <;> cases b2 <;> cases b3 <;> rfl))
        have CC := Lib.hid (RSame_eq Ac1 Ad1 Sc.length Sd.length cc1 cd1 Sc Sd w19 Ic1.out Id1.out (by omega) HE.out)
        go_wp2_with fail
        refine CC.out.mono ?_
        rintro e w20 ⟨rfl, hb⟩
        clear CC
        replace Itx := Lib.hid (Itx.out.below hb)
        replace Ity := Lib.hid (Ity.out.below hb)
        replace Itz := Lib.hid (Itz.out.below hb)
        replace Ic := Lib.hid (Ic.out.below hb)
        replace Ic1 := Lib.hid (Ic1.out.below hb)
        replace Id := Lib.hid (Id.out.below hb)
        replace Id1 := Lib.hid (Id1.out.below hb)
        replace HB := Lib.hid (HB.out.trans (hb.mono HB.out.size))
        clear hb
        clear Ic1
        clear Id1
        clear HE
        clear Ic
        clear Id
        have CC := Lib.hid (Union_any Aty Atz cty ctz Sry Srz w20 Ity.out Itz.out (by omega) Ory.out Orz.out)
        go_wp2_with fail
        refine CC.out.mono ?_
        rintro e w21 ⟨v, rfl, Sq1, hu, hok, hlq1, ho, hb⟩
        clear CC
        obtain ⟨Aq1, cq1, ev, Iq1, -, -⟩ := ho.ivs
        subst ev
        clear ho
        replace Iq1 := Lib.hid Iq1
        have Uq1 := Lib.hid hu
        have Oq1 := Lib.hid hok
        clear hu hok
        replace Itx := Lib.hid (Itx.out.below hb)
        replace Ity := Lib.hid (Ity.out.below hb)
        replace Itz := Lib.hid (Itz.out.below hb)
        replace HB := Lib.hid (HB.out.trans (hb.mono HB.out.size))
        clear hb
        have CC := Lib.hid (Meet_any Atx Aq1 ctx cq1 Srx Sq1 w21 Itx.out Iq1.out (by omega) Urx.out.1 Uq1.out.1 Orx.out Oq1.out)
        go_wp2_with fail
        refine CC.out.mono ?_
        rintro e w22 ⟨v, rfl, Se, hu, hok, hle, ho, hb⟩
        clear CC
        obtain ⟨Ae, ce, ev, Ie, -, -⟩ := ho.ivs
        subst ev
        clear ho
        replace Ie := Lib.hid Ie
        have Ue := Lib.hid hu
        have Oe := Lib.hid hok
        clear hu hok
        replace Itx := Lib.hid (Itx.out.below hb)
        replace Ity := Lib.hid (Ity.out.below hb)
        replace Itz := Lib.hid (Itz.out.below hb)
        replace Iq1 := Lib.hid (Iq1.out.below hb)
        replace HB := Lib.hid (HB.out.trans (hb.mono HB.out.size))
        clear hb
        have CC := Lib.hid (Meet_any Atx Aty ctx cty Srx Sry w22 Itx.out Ity.out (by omega) Urx.out.1 Ury.out.1 Orx.out Ory.out)
        go_wp2_with fail
        refine CC.out.mono ?_
        rintro e w23 ⟨v, rfl, Sq2, hu, hok, hlq2, ho, hb⟩
        clear CC
        obtain ⟨Aq2, cq2, ev, Iq2, -, -⟩ := ho.ivs
        subst ev
        clear ho
        replace Iq2 := Lib.hid Iq2
        have Uq2 := Lib.hid hu
        have Oq2 := Lib.hid hok
        clear hu hok
        replace Itx := Lib.hid (Itx.out.below hb)
        replace Ity := Lib.hid (Ity.out.below hb)
        replace Itz := Lib.hid (Itz.out.below hb)
        replace Iq1 := Lib.hid (Iq1.out.below hb)
        replace Ie := Lib.hid (Ie.out.below hb)
        replace HB := Lib.hid (HB.out.trans (hb.mono HB.out.size))
        clear hb
        have CC := Lib.hid (Meet_any Atx Atz ctx ctz Srx Srz w23 Itx.out Itz.out (by omega) Urx.out.1 Urz.out.1 Orx.out Orz.out)
        go_wp2_with fail
        refine CC.out.mono ?_
        rintro e w24 ⟨v, rfl, Sq3, hu, hok, hlq3, ho, hb⟩
        clear CC
        obtain ⟨Aq3, cq3, ev, Iq3, -, -⟩ := ho.ivs
        subst ev
        clear ho
        replace Iq3 := Lib.hid Iq3
        have Uq3 := Lib.hid hu
        have Oq3 := Lib.hid hok
        clear hu hok
        replace Itx := Lib.hid (Itx.out.below hb)
        replace Ity := Lib.hid (Ity.out.below hb)
        replace Itz := Lib.hid (Itz.out.below hb)
        replace Iq1 := Lib.hid (Iq1.out.below hb)
        replace Ie := Lib.hid (Ie.out.below hb)
        replace Iq2 := Lib.hid (Iq2.out.below hb)
        replace HB := Lib.hid (HB.out.trans (hb.mono HB.out.size))
        clear hb
        have CC := Lib.hid (Union_any Aq2 Aq3 cq2 cq3 Sq2 Sq3 w24 Iq2.out Iq3.out (by omega) Oq2.out Oq3.out)
        go_wp2_with fail
        refine CC.out.mono ?_
        rintro e w25 ⟨v, rfl, Sf, hu, hok, hlf, ho, hb⟩
        clear CC
        obtain ⟨Af, cf, ev, If, -, -⟩ := ho.ivs
        subst ev
        clear ho
        replace If := Lib.hid If
        have Uf := Lib.hid hu
        have Of := Lib.hid hok
        clear hu hok
        replace Itx := Lib.hid (Itx.out.below hb)
        replace Ity := Lib.hid (Ity.out.below hb)
        replace Itz := Lib.hid (Itz.out.below hb)
        replace Iq1 := Lib.hid (Iq1.out.below hb)
        replace Ie := Lib.hid (Ie.out.below hb)
        replace Iq2 := Lib.hid (Iq2.out.below hb)
        replace Iq3 := Lib.hid (Iq3.out.below hb)
        replace HB := Lib.hid (HB.out.trans (hb.mono HB.out.size))
        clear hb
        have CC := Lib.hid (of_any Ae Se.length ce Se w25 Ie.out (by omega))
        go_wp2_with fail
        refine CC.out.mono ?_
        rintro e w26 ⟨v, rfl, ho, hb⟩
        clear CC
        obtain ⟨Ae1, ce1, ev, Ie1, -, -⟩ := ho.ivs
        subst ev
        clear ho
        replace Ie1 := Lib.hid Ie1
        replace HB := HB
        replace Itx := Lib.hid (Itx.out.below hb)
        replace Ity := Lib.hid (Ity.out.below hb)
        replace Itz := Lib.hid (Itz.out.below hb)
        replace Iq1 := Lib.hid (Iq1.out.below hb)
        replace Ie := Lib.hid (Ie.out.below hb)
        replace Iq2 := Lib.hid (Iq2.out.below hb)
        replace Iq3 := Lib.hid (Iq3.out.below hb)
        replace If := Lib.hid (If.out.below hb)
        replace HB := Lib.hid (HB.out.trans (hb.mono HB.out.size))
        clear hb
        have CC := Lib.hid (of_any Af Sf.length cf Sf w26 If.out (by omega))
        go_wp2_with fail
        refine CC.out.mono ?_
        rintro e w27 ⟨v, rfl, ho, hb⟩
        clear CC
        obtain ⟨Af1, cf1, ev, If1, -, -⟩ := ho.ivs
        subst ev
        clear ho
        replace If1 := Lib.hid If1
        replace HB := HB
        replace Itx := Lib.hid (Itx.out.below hb)
        replace Ity := Lib.hid (Ity.out.below hb)
        replace Itz := Lib.hid (Itz.out.below hb)
        replace Iq1 := Lib.hid (Iq1.out.below hb)
        replace Ie := Lib.hid (Ie.out.below hb)
        replace Iq2 := Lib.hid (Iq2.out.below hb)
        replace Iq3 := Lib.hid (Iq3.out.below hb)
        replace If := Lib.hid (If.out.below hb)
        replace Ie1 := Lib.hid (Ie1.out.below hb)
        replace HB := Lib.hid (HB.out.trans (hb.mono HB.out.size))
        clear hb
        have HE := Lib.hid (show Se = Sf from nrm_uniq Ue.out.1 Uf.out.1 (fun z => by
          rw [Ue.out.2, Uf.out.2]
          try simp only [List.any_append]
          try rw [Uq1.out.2]; try rw [Uq2.out.2]; try rw [Uq3.out.2]
          try simp only [List.any_append]
          generalize Srx.any (Iv.has z) = b1
          generalize Sry.any (Iv.has z) = b2
          generalize Srz.any (Iv.has z) = b3
          cases b1 <;> cases b2 <;> cases b3 <;> rfl))
        have CC := Lib.hid (RSame_eq Ae1 Af1 Se.length Sf.length ce1 cf1 Se Sf w27 Ie1.out If1.out (by omega) HE.out)
        go_wp2_with fail
        refine CC.out.mono ?_
        rintro e w28 ⟨rfl, hb⟩
        clear CC
        replace Itx := Lib.hid (Itx.out.below hb)
        replace Ity := Lib.hid (Ity.out.below hb)
        replace Itz := Lib.hid (Itz.out.below hb)
        replace Iq1 := Lib.hid (Iq1.out.below hb)
        replace Ie := Lib.hid (Ie.out.below hb)
        replace Iq2 := Lib.hid (Iq2.out.below hb)
        replace Iq3 := Lib.hid (Iq3.out.below hb)
        replace If := Lib.hid (If.out.below hb)
        replace Ie1 := Lib.hid (Ie1.out.below hb)
        replace If1 := Lib.hid (If1.out.below hb)
        replace HB := Lib.hid (HB.out.trans (hb.mono HB.out.size))
        clear hb
        clear Ie1
        clear If1
        clear HE
        clear Iq1
        clear Iq2
        clear Iq3
        clear Ie
        clear If
        clear Uq1 Oq1 hlq1
        clear Uq2 Oq2 hlq2
        clear Uq3 Oq3 hlq3
        have CC := Lib.hid (Meet_any Aty Atz cty ctz Sry Srz w28 Ity.out Itz.out (by omega) Ury.out.1 Urz.out.1 Ory.out Orz.out)
        go_wp2_with fail
        refine CC.out.mono ?_
        rintro e w29 ⟨v, rfl, Sq1, hu, hok, hlq1, ho, hb⟩
        clear CC
        obtain ⟨Aq1, cq1, ev, Iq1, -, -⟩ := ho.ivs
        subst ev
        clear ho
        replace Iq1 := Lib.hid Iq1
        have Uq1 := Lib.hid hu
        have Oq1 := Lib.hid hok
        clear hu hok
        replace Itx := Lib.hid (Itx.out.below hb)
        replace Ity := Lib.hid (Ity.out.below hb)
        replace Itz := Lib.hid (Itz.out.below hb)
        replace HB := Lib.hid (HB.out.trans (hb.mono HB.out.size))
        clear hb
        have CC := Lib.hid (Union_any Atx Aq1 ctx cq1 Srx Sq1 w29 Itx.out Iq1.out (by omega) Orx.out Oq1.out)
        go_wp2_with fail
        refine CC.out.mono ?_
        rintro e w30 ⟨v, rfl, Sg, hu, hok, hlg, ho, hb⟩
        clear CC
        obtain ⟨Ag, cg, ev, Ig, -, -⟩ := ho.ivs
        subst ev
        clear ho
        replace Ig := Lib.hid Ig
        have Ug := Lib.hid hu
        have Og := Lib.hid hok
        clear hu hok
        replace Itx := Lib.hid (Itx.out.below hb)
        replace Ity := Lib.hid (Ity.out.below hb)
        replace Itz := Lib.hid (Itz.out.below hb)
        replace Iq1 := Lib.hid (Iq1.out.below hb)
        replace HB := Lib.hid (HB.out.trans (hb.mono HB.out.size))
        clear hb
        have CC := Lib.hid (Union_any Atx Aty ctx cty Srx Sry w30 Itx.out Ity.out (by omega) Orx.out Ory.out)
        go_wp2_with fail
        refine CC.out.mono ?_
        rintro e w31 ⟨v, rfl, Sq2, hu, hok, hlq2, ho, hb⟩
        clear CC
        obtain ⟨Aq2, cq2, ev, Iq2, -, -⟩ := ho.ivs
        subst ev
        clear ho
        replace Iq2 := Lib.hid Iq2
        have Uq2 := Lib.hid hu
        have Oq2 := Lib.hid hok
        clear hu hok
        replace Itx := Lib.hid (Itx.out.below hb)
        replace Ity := Lib.hid (Ity.out.below hb)
        replace Itz := Lib.hid (Itz.out.below hb)
        replace Iq1 := Lib.hid (Iq1.out.below hb)
        replace Ig := Lib.hid (Ig.out.below hb)
        replace HB := Lib.hid (HB.out.trans (hb.mono HB.out.size))
        clear hb
        have CC := Lib.hid (Union_any Atx Atz ctx ctz Srx Srz w31 Itx.out Itz.out (by omega) Orx.out Orz.out)
        go_wp2_with fail
        refine CC.out.mono ?_
        rintro e w32 ⟨v, rfl, Sq3, hu, hok, hlq3, ho, hb⟩
        clear CC
        obtain ⟨Aq3, cq3, ev, Iq3, -, -⟩ := ho.ivs
        subst ev
        clear ho
        replace Iq3 := Lib.hid Iq3
        have Uq3 := Lib.hid hu
        have Oq3 := Lib.hid hok
        clear hu hok
        replace Itx := Lib.hid (Itx.out.below hb)
        replace Ity := Lib.hid (Ity.out.below hb)
        replace Itz := Lib.hid (Itz.out.below hb)
        replace Iq1 := Lib.hid (Iq1.out.below hb)
        replace Ig := Lib.hid (Ig.out.below hb)
        replace Iq2 := Lib.hid (Iq2.out.below hb)
        replace HB := Lib.hid (HB.out.trans (hb.mono HB.out.size))
        clear hb
        have CC := Lib.hid (Meet_any Aq2 Aq3 cq2 cq3 Sq2 Sq3 w32 Iq2.out Iq3.out (by omega) Uq2.out.1 Uq3.out.1 Oq2.out Oq3.out)
        go_wp2_with fail
        refine CC.out.mono ?_
        rintro e w33 ⟨v, rfl, Sh, hu, hok, hlh, ho, hb⟩
        clear CC
        obtain ⟨Ah, ch, ev, Ih, -, -⟩ := ho.ivs
        subst ev
        clear ho
        replace Ih := Lib.hid Ih
        have Uh := Lib.hid hu
        have Oh := Lib.hid hok
        clear hu hok
        replace Itx := Lib.hid (Itx.out.below hb)
        replace Ity := Lib.hid (Ity.out.below hb)
        replace Itz := Lib.hid (Itz.out.below hb)
        replace Iq1 := Lib.hid (Iq1.out.below hb)
        replace Ig := Lib.hid (Ig.out.below hb)
        replace Iq2 := Lib.hid (Iq2.out.below hb)
        replace Iq3 := Lib.hid (Iq3.out.below hb)
        replace HB := Lib.hid (HB.out.trans (hb.mono HB.out.size))
        clear hb
        have CC := Lib.hid (of_any Ag Sg.length cg Sg w33 Ig.out (by omega))
        go_wp2_with fail
        refine CC.out.mono ?_
        rintro e w34 ⟨v, rfl, ho, hb⟩
        clear CC
        obtain ⟨Ag1, cg1, ev, Ig1, -, -⟩ := ho.ivs
        subst ev
        clear ho
        replace Ig1 := Lib.hid Ig1
        replace HB := HB
        replace Itx := Lib.hid (Itx.out.below hb)
        replace Ity := Lib.hid (Ity.out.below hb)
        replace Itz := Lib.hid (Itz.out.below hb)
        replace Iq1 := Lib.hid (Iq1.out.below hb)
        replace Ig := Lib.hid (Ig.out.below hb)
        replace Iq2 := Lib.hid (Iq2.out.below hb)
        replace Iq3 := Lib.hid (Iq3.out.below hb)
        replace Ih := Lib.hid (Ih.out.below hb)
        replace HB := Lib.hid (HB.out.trans (hb.mono HB.out.size))
        clear hb
        have CC := Lib.hid (of_any Ah Sh.length ch Sh w34 Ih.out (by omega))
        go_wp2_with fail
        refine CC.out.mono ?_
        rintro e w35 ⟨v, rfl, ho, hb⟩
        clear CC
        obtain ⟨Ah1, ch1, ev, Ih1, -, -⟩ := ho.ivs
        subst ev
        clear ho
        replace Ih1 := Lib.hid Ih1
        replace HB := HB
        replace Itx := Lib.hid (Itx.out.below hb)
        replace Ity := Lib.hid (Ity.out.below hb)
        replace Itz := Lib.hid (Itz.out.below hb)
        replace Iq1 := Lib.hid (Iq1.out.below hb)
        replace Ig := Lib.hid (Ig.out.below hb)
        replace Iq2 := Lib.hid (Iq2.out.below hb)
        replace Iq3 := Lib.hid (Iq3.out.below hb)
        replace Ih := Lib.hid (Ih.out.below hb)
        replace Ig1 := Lib.hid (Ig1.out.below hb)
        replace HB := Lib.hid (HB.out.trans (hb.mono HB.out.size))
        clear hb
        have HE := Lib.hid (show Sg = Sh from nrm_uniq Ug.out.1 Uh.out.1 (fun z => by
          rw [Ug.out.2, Uh.out.2]
          try simp only [List.any_append]
          try rw [Uq1.out.2]; try rw [Uq2.out.2]; try rw [Uq3.out.2]
          try simp only [List.any_append]
          generalize Srx.any (Iv.has z) = b1
          generalize Sry.any (Iv.has z) = b2
          generalize Srz.any (Iv.has z) = b3
          cases b1 <;> cases b2 <;> cases b3 <;> rfl))
        have CC := Lib.hid (RSame_eq Ag1 Ah1 Sg.length Sh.length cg1 ch1 Sg Sh w35 Ig1.out Ih1.out (by omega) HE.out)
        go_wp2_with fail
        refine CC.out.mono ?_
        rintro e w36 ⟨rfl, hb⟩
        clear CC
        replace Itx := Lib.hid (Itx.out.below hb)
        replace Ity := Lib.hid (Ity.out.below hb)
        replace Itz := Lib.hid (Itz.out.below hb)
        replace Iq1 := Lib.hid (Iq1.out.below hb)
        replace Ig := Lib.hid (Ig.out.below hb)
        replace Iq2 := Lib.hid (Iq2.out.below hb)
        replace Iq3 := Lib.hid (Iq3.out.below hb)
        replace Ih := Lib.hid (Ih.out.below hb)
        replace Ig1 := Lib.hid (Ig1.out.below hb)
        replace Ih1 := Lib.hid (Ih1.out.below hb)
        replace HB := Lib.hid (HB.out.trans (hb.mono HB.out.size))
        clear hb
        clear Ig1
        clear Ih1
        clear HE
        go_wp2
        go_ret
        exact ⟨rfl, HB.out⟩
      · have hd : decide ((U.length : Int) ≤ 30) = false := by simpa using hn3
        rw [hd]
        go_wp2
        go_ret
        exact ⟨rfl, HB.out⟩
    · have hd : decide ((T.length : Int) ≤ 30) = false := by simpa using hn2
      rw [hd]
      go_wp2
      go_ret
      exact ⟨rfl, HB.out⟩
  · have hd : decide ((R.length : Int) ≤ 30) = false := by simpa using hn
    rw [hd]
    go_wp2
    go_ret
    exact ⟨rfl, HB.out⟩

set_option maxRecDepth 100000 in
theorem intervalAlgebra_lifted (os : Os) (started : os.Started) (H : Type) (enc : TypeId × Value → H) :
    ReturnsInHanded {} Try.checked os 6 .any (Rows.intervalAlgebraSpec.pre6 enc Try.prog Try.f6 Rows.intervalAlgebraRow.domain false) (Rows.intervalAlgebraSpec.post enc Try.prog Try.f6 false true false false) := by
  refine law_lifted (C := Try.checked) (B := 4) Try.own started (by kernel_rfl) Try.func6
    (ChangeSpec.witness6 (enc := enc) (C := Try.checked) false ⟨#[], #[.slice none 0 0, .slice none 0 0, .slice none 0 0], []⟩ 8 (by kernel_rfl) (by kernel_rfl) (by kernel_rfl) (by kernel_rfl))
    Try.laidOut (by kernel_rfl) rfl rfl rfl Try.underlying4 (fun ds h => match ds, h with | [_, _, _], _ => rfl) ?_
  intro W base args ds ps hval hA hlt hsz
  rw [Try.params6] at hA hval hsz
  obtain ⟨v0, vs0, d0, ds0, p0, q0, hargs, rfl, rfl, h0, r0⟩ := trodAll_cons hA
  obtain ⟨v1, vs1, d1, ds1, p1, q1, rfl, rfl, rfl, h1, r1⟩ := trodAll_cons r0
  obtain ⟨v2, vs2, d2, ds2, p2, q2, rfl, rfl, rfl, h2, r2⟩ := trodAll_cons r1
  obtain ⟨rfl, rfl, rfl⟩ := trodAll_nil r2
  obtain rfl : args = #[v0, v1, v2] := by cases args; simp_all
  obtain ⟨A0, n0, c0, R0, rfl, k0, l0, g0⟩ := open_row (hval 0 22 v0 rfl rfl) h0 (fun x hx => hlt x (by simp [hx])) hsz (j := 0) rfl rfl
  obtain ⟨A1, n1, c1, R1, rfl, k1, l1, g1⟩ := open_row (hval 1 22 v1 rfl rfl) h1 (fun x hx => hlt x (by simp [hx])) hsz (j := 1) rfl rfl
  obtain ⟨A2, n2, c2, R2, rfl, k2, l2, g2⟩ := open_row (hval 2 22 v2 rfl rfl) h2 (fun x hx => hlt x (by simp [hx])) hsz (j := 2) rfl rfl
  exact intervalAlgebra_walk A0 n0 c0 R0 A1 n1 c1 R1 A2 n2 c2 R2 W k0 l0 g0 k1 l1 g1 k2 l2 g2

theorem intervalAlgebra_over : Rows.intervalAlgebraRow.holds Try.pinned (OpenSpec.ofChange Rows.intervalAlgebraSpec) :=
  OpenClaim.holds_of_wide 6 Try.f6 rfl rfl rfl rfl rfl rfl rfl ⟨rfl, rfl, rfl, rfl, rfl⟩ rfl rfl rfl rfl rfl (by kernel_rfl) Try.func6 (by kernel_rfl)
    (of_decide_eq_true (by kernel_rfl)) (by unfold Func.isWrapper; first | (rw [if_pos (by decide +kernel)]; kernel_rfl) | (rw [if_neg (by decide +kernel)]; exact ⟨rfl, rfl⟩))
    (fun os started H enc _ => intervalAlgebra_lifted os started H enc)

theorem intervalAlgebra_proved : Rows.IntervalAlgebraSaid := intervalAlgebra_over
end Go.Proofs.Ytnoddkbpdfimmaa
