/- The walk of law BigintText. -/
import Derived.Test.YtndkcimdbidgaaaDoorBlw
import Derived.Test.YtndkcimdbidgaaaDoorBry
namespace Go.Proofs.YtndkcimdbidgaaaDoor
open Go.ChangeShapes Go.WideShapes Go.ChangeAt Go.RowKit Go.ChangeMaps

open Lib
theorem split_sign (S : List UInt8) : ∃ neg t, S = (if neg = true then 45 :: t else t) ∧ (neg = false → S.head? ≠ some 45) := by
  by_cases h : S.head? = some 45
  · cases S with
    | nil => simp at h
    | cons a l =>
      obtain rfl : a = 45 := by simpa using h
      exact ⟨true, l, rfl, fun e => Bool.noConfusion e⟩
  · exact ⟨false, S, rfl, fun _ => h⟩
theorem pre_sign {S t : List UInt8} {neg : Bool} (hS : S = if neg = true then 45 :: t else t) (hnp : neg = false → S.head? ≠ some 45) : Lib.trimPrefix S [45] = t ∧ Lib.hasPrefix S [45] = neg := by
  cases neg
  · obtain rfl : S = t := hS
    have h := hnp rfl
    have hp : Lib.hasPrefix S [45] = false := by
      cases S with
      | nil => rfl
      | cons a l =>
        have : ¬ a = 45 := fun e => h (by rw [e]; rfl)
        simp [Lib.hasPrefix, List.isPrefixOf, Ne.symm this]
    exact ⟨by rw [Lib.trimPrefix, hp]; rfl, hp⟩
  · obtain rfl : S = 45 :: t := hS
    exact ⟨rfl, rfl⟩
theorem big_bound {w : World} {v : Value} {z : Int} (h : BG w v z 8) : z.natAbs < 10 ^ 80 := by
  obtain ⟨neg, A, n, c, D, rfl, hd, hs, hn, rfl⟩ := h
  rw [sgn_abs]
  have h1 := dv_lt (B := 4294967296) (by decide) D hd.2.1
  have h2 : 4294967296 ^ D.length ≤ 4294967296 ^ 8 := Nat.pow_le_pow_right (by decide) (by rw [hd.1]; exact hn)
  exact Nat.lt_of_lt_of_le h1 (Nat.le_trans h2 (by decide))
theorem fmt_parts {w : World} {v : Value} {z : Int} (h : BG w v z 8) : (decDigits z.natAbs).length ≤ 80 := decD_len 79 _ (big_bound h)
theorem Parse_good (s : ByteArray) (t : List UInt8) (neg : Bool) (w : World) (hS : s.data.toList = if neg = true then 45 :: t else t) (hnp : neg = false → s.data.toList.head? ≠ some 45) (hs : s.size ≤ 100) (hp : PV neg t) : Calls Tryd.prog 40 #[.string s] w fun e w' => ∃ v, e = .returned (.tuple #[v, .int .i64 0]) ∧ NB w' w.heap.size v (sgn neg (nv t)) 202 ∧ Below w.heap.size w w' := by
  obtain ⟨h1, h2⟩ := pre_sign hS hnp
  have hl : t.length ≤ 100 := by
    have h3 := congrArg List.length hS
    have h4 : s.data.toList.length = s.size := by simp
    cases neg <;> simp at h3 <;> omega
  have h5 : (⟨t.toArray⟩ : ByteArray).size = t.length := by show t.toArray.size = _; simp
  refine (Parse_ok s ⟨t.toArray⟩ neg w h1 h2 hp.1 hp.2 (by omega) (by omega)).mono ?_
  rintro e w' ⟨v, rfl, hv, hb⟩
  exact ⟨v, rfl, hv.mono (Nat.le_refl _) (by omega), hb⟩
theorem Parse_ungood (s : ByteArray) (t : List UInt8) (neg : Bool) (w : World) (hS : s.data.toList = if neg = true then 45 :: t else t) (hnp : neg = false → s.data.toList.head? ≠ some 45) (hs : s.size ≤ 100) (hp : ¬ PV neg t) : Calls Tryd.prog 40 #[.string s] w fun e w' => e = .returned (.tuple #[.agg #[.bool false, .slice none 0 0], .int .i64 2]) ∧ Below w.heap.size w w' := by
  obtain ⟨h1, h2⟩ := pre_sign hS hnp
  have hl : t.length ≤ 100 := by
    have h3 := congrArg List.length hS
    have h4 : s.data.toList.length = s.size := by simp
    cases neg <;> simp at h3 <;> omega
  have h5 : (⟨t.toArray⟩ : ByteArray).size = t.length := by show t.toArray.size = _; simp
  exact Parse_bad s ⟨t.toArray⟩ neg w h1 h2 (by
    by_cases hd : decT t
    · exact .inr (Classical.byContradiction fun h => hp ⟨hd, h⟩)
    · exact .inl hd) (by omega)
theorem RParse_good (s : ByteArray) (t : List UInt8) (neg : Bool) (w : World) (hS : s.data.toList = if neg = true then 45 :: t else t) (hnp : neg = false → s.data.toList.head? ≠ some 45) (hs : s.size ≤ 100) (hp : PV neg t) : Calls Tryd.prog 41 #[.string s] w fun e w' => ∃ v, e = .returned (.tuple #[v, .int .i64 0]) ∧ NB w' w.heap.size v (sgn neg (nv t)) 202 ∧ Below w.heap.size w w' := by
  refine (RParse_any s t neg w hS hnp hs).mono ?_
  rintro e w' ⟨h1, _, hb⟩
  obtain ⟨v, rfl, hv⟩ := h1 hp
  exact ⟨v, rfl, hv.mono (Nat.le_refl _) (by omega), hb⟩
theorem RParse_ungood (s : ByteArray) (t : List UInt8) (neg : Bool) (w : World) (hS : s.data.toList = if neg = true then 45 :: t else t) (hnp : neg = false → s.data.toList.head? ≠ some 45) (hs : s.size ≤ 100) (hp : ¬ PV neg t) : Calls Tryd.prog 41 #[.string s] w fun e w' => e = .returned (.tuple #[.agg #[.bool false, .slice none 0 0], .int .i64 2]) ∧ Below w.heap.size w w' := by
  refine (RParse_any s t neg w hS hnp hs).mono ?_
  rintro e w' ⟨_, h2, hb⟩
  exact ⟨h2 hp, hb⟩
theorem Parse_fmt (z : Int) (F : ByteArray) (w : World) (hF : ⟨(fmtZ z).toArray⟩ = F) (hl : (decDigits z.natAbs).length ≤ 80) : Calls Tryd.prog 40 #[.string F] w fun e w' => ∃ v, e = .returned (.tuple #[v, .int .i64 0]) ∧ NB w' w.heap.size v z 202 ∧ Below w.heap.size w w' := by
  obtain ⟨g1, g2, g3⟩ := decT_dec z.natAbs
  have hS : F.data.toList = if decide (z < 0) = true then 45 :: decDigits z.natAbs else decDigits z.natAbs := by
    rw [← hF]
    show (fmtZ z).toArray.toList = _
    unfold fmtZ
    by_cases h : z < 0 <;> simp [h]
  have hnp : decide (z < 0) = false → F.data.toList.head? ≠ some 45 := by
    intro e
    rw [hS, e, if_neg (by decide)]
    intro h
    have : (45 : UInt8) ∈ decDigits z.natAbs := List.mem_of_mem_head? (by rw [h]; rfl)
    have := g1.2.1 _ this
    exact absurd this (by decide)
  have hs : F.size ≤ 100 := by
    have h3 := congrArg List.length hS
    have h4 : F.data.toList.length = F.size := by simp
    rw [h4] at h3
    split at h3
    · rw [List.length_cons] at h3
      omega
    · omega
  have hp : PV (decide (z < 0)) (decDigits z.natAbs) := ⟨g1, fun h => by
    have h1 : z < 0 := by simpa using h.1
    have h2 := g3 (by rw [h.2]; rfl)
    omega⟩
  have hz : sgn (decide (z < 0)) (nv (decDigits z.natAbs)) = z := by
    rw [g2]
    by_cases h : z < 0
    · have : sgn true z.natAbs = -((z.natAbs : Nat) : Int) := rfl
      simp only [h, decide_true]
      omega
    · have : sgn false z.natAbs = ((z.natAbs : Nat) : Int) := rfl
      simp only [h, decide_false]
      omega
  have := Parse_good F (decDigits z.natAbs) (decide (z < 0)) w hS hnp hs hp
  rw [hz] at this
  exact this
set_option maxRecDepth 100000 in
set_option maxHeartbeats 4000000 in
theorem bigintText_walk (x0 : Bool) (A0 : Option Addr) (n0 c0 : Nat) (D0 : List Nat) (s : ByteArray) (w : World) (k0 : DG w A0 n0 D0) (l0 : Sl A0 n0 c0) (hs : s.size ≤ 140737488351232) (hE : EnvB w) : Calls Tryd.prog 9 #[.agg #[.bool x0, .slice A0 n0 c0], .string s] w fun e w' => e = .returned (.bool true) ∧ Below w.heap.size w w' := by
  have HE := Lib.hid hE
  clear hE
  obtain ⟨w0, hw0⟩ : ∃ W, W = w.alloc (.cells #[.bool x0, .slice A0 n0 c0] 24) := ⟨_, rfl⟩
  have hb0 : Below w.heap.size w w0 := by rw [hw0]; exact ((Below.refl _ w).alloc (Nat.le_refl _) _)
  have HB := Lib.hid hb0
  replace HE := Lib.hid (HE.out.below hb0)
  have K2 := Lib.hid (show Blk w0 (w.heap.size) 24 #[.bool x0, .slice A0 n0 c0] by rw [hw0]; exact (Blk.new _ _ _))
  have G0 := Lib.hid (show DG w0 A0 n0 D0 from k0.below hb0)
  have L0 := Lib.hid l0
  obtain ⟨z0, hz0⟩ : ∃ z, z = sgn x0 (dv 4294967296 D0) := ⟨_, rfl⟩
  have Z0 := Lib.hid hz0
  clear hz0 k0 l0
  clear hb0
  go_enter Tryd.func9, Tryd.ntmps9
  go_wp2_with fail
  rw [← hw0]
  clear hw0
  refine (awake_any _ HE.out).mono ?_
  rintro e w1 ⟨rfl, hb⟩
  replace K2 := Lib.hid (K2.out.below hb)
  replace G0 := Lib.hid (G0.out.below hb)
  replace HE := Lib.hid (HE.out.below hb)
  replace HB := Lib.hid (HB.out.trans (hb.mono HB.out.size))
  clear hb
  have k2_0 : w1.cell? ⟨w.heap.size, 0, none⟩ = some (.bool x0) := K2.out.cell 0
  have k2_1 : w1.cell? ⟨w.heap.size, 1, none⟩ = some (.slice A0 n0 c0) := K2.out.cell 1
  obtain ⟨wb, hwb⟩ : ∃ W, W = w1.alloc (.cells #[.bool x0, .slice A0 n0 c0] 24) := ⟨_, rfl⟩
  have hbb : Below w1.heap.size w1 wb := by rw [hwb]; exact (Below.refl _ _).alloc (Nat.le_refl _) _
  have KB : Blk wb w1.heap.size 24 #[.bool x0, .slice A0 n0 c0] := by rw [hwb]; exact Blk.new _ _ _
  have CS := Lib.hid (small_any [(x0, A0, n0, c0)] w1.heap.size 1 wb KB.lt (fun j v h => (KB.cell j).trans (by simpa [bigc] using h)) (by simp))
  clear KB
  go_wp2_with fail
  rw [← hwb]
  clear hwb
  clear k2_0 k2_1
  replace K2 := Lib.hid (K2.out.below hbb)
  replace G0 := Lib.hid (G0.out.below hbb)
  replace HE := Lib.hid (HE.out.below hbb)
  replace HB := Lib.hid (HB.out.trans (hbb.mono HB.out.size))
  clear hbb
  refine CS.out.mono ?_
  rintro e w2 ⟨b, rfl, hsm, hb⟩
  clear CS
  replace K2 := Lib.hid (K2.out.below hb)
  replace G0 := Lib.hid (G0.out.below hb)
  replace HE := Lib.hid (HE.out.below hb)
  replace HB := Lib.hid (HB.out.trans (hb.mono HB.out.size))
  clear hb
  have HSM := Lib.hid hsm
  clear hsm
  cases b
  · go_wp2_with fail
    refine (awake_any _ HE.out).mono ?_
    rintro e wz ⟨rfl, hb⟩
    have HBz := Lib.hid (HB.out.trans (hb.mono HB.out.size))
    clear hb
    go_wp2
    go_ret
    exact ⟨rfl, HBz.out⟩

  by_cases h80s : s.size > 80
  · have h80I : (s.size : Int) > 80 := by omega
    have h80J : (80 : Int) < (s.size : Int) := by omega
    go_wp2_with fail
    refine (awake_any _ HE.out).mono ?_
    rintro e wz ⟨rfl, hb⟩
    have HBz := Lib.hid (HB.out.trans (hb.mono HB.out.size))
    clear hb
    go_wp2
    go_ret
    exact ⟨rfl, HBz.out⟩
  have h80I : ¬ (s.size : Int) > 80 := by omega
  have h80J : ¬ (80 : Int) < (s.size : Int) := by omega
  have h80 : n0 ≤ 8 := HSM.out rfl (x0, A0, n0, c0) (by simp)
  have B0 := Lib.hid (show BG w2 (.agg #[.bool x0, .slice A0 n0 c0]) z0 8 from ⟨x0, A0, n0, c0, D0, rfl, G0.out, L0.out, h80, Z0.out⟩)
  clear G0 L0
  clear HSM h80
  obtain ⟨neg, t, hS, hnp⟩ := split_sign s.data.toList
  have HSS := Lib.hid hS
  have HNP := Lib.hid hnp
  have HSZ := Lib.hid (show s.size ≤ 80 by omega)
  clear hS hnp hs h80s
  have k2_0 : w2.cell? ⟨w.heap.size, 0, none⟩ = some (.bool x0) := K2.out.cell 0
  have k2_1 : w2.cell? ⟨w.heap.size, 1, none⟩ = some (.slice A0 n0 c0) := K2.out.cell 1
  go_wp2_with fail
  clear k2_0 k2_1
  refine (cp_bg w2 _ z0 8 B0.out (by decide)).mono ?_
  rintro e w3 ⟨v1, rfl, hv, hb⟩
  have P1 := Lib.hid hv
  clear hv h80I h80J
  replace K2 := Lib.hid (K2.out.below hb)
  replace HE := Lib.hid (HE.out.below hb)
  replace B0 := Lib.hid (B0.out.below hb)
  replace HB := Lib.hid (HB.out.trans (hb.mono HB.out.size))
  clear hb
  have CF := Lib.hid (Format_any _ z0 8 w3 P1.out.bg (by decide) HE.out)
  go_wp2_with fail
  refine (CF.out).mono ?_
  rintro e w4 ⟨rfl, hb⟩
  replace K2 := Lib.hid (K2.out.below hb)
  replace HE := Lib.hid (HE.out.below hb)
  replace B0 := Lib.hid (B0.out.below hb)
  replace HB := Lib.hid (HB.out.trans (hb.mono HB.out.size))
  clear hb
  clear CF P1
  have HFL := Lib.hid (fmt_parts B0.out)
  obtain ⟨F, hF⟩ : ∃ F : ByteArray, ⟨(fmtZ z0).toArray⟩ = F := ⟨_, rfl⟩
  rw [hF]
  have HFF := Lib.hid hF
  clear hF
  have CP := Lib.hid (Parse_fmt z0 F w4 HFF.out HFL.out)
  go_wp2_with fail
  refine CP.out.mono ?_
  rintro e w5 ⟨v, rfl, hv, hb⟩
  clear CP
  have V6 := Lib.hid hv
  obtain ⟨s6, A6, n6, c6, e6⟩ := hv.expose
  subst e6
  clear hv
  replace K2 := Lib.hid (K2.out.below hb)
  replace HE := Lib.hid (HE.out.below hb)
  replace B0 := Lib.hid (B0.out.below hb)
  replace HB := Lib.hid (HB.out.trans (hb.mono HB.out.size))
  clear hb
  obtain ⟨WA6, hWA⟩ : ∃ W, W = w5.alloc (.cells #[.bool s6, .slice A6 n6 c6] 24) := ⟨_, rfl⟩
  have hbA : Below w5.heap.size w5 WA6 := by rw [hWA]; exact (Below.refl _ _).alloc (Nat.le_refl _) _
  have KA := Lib.hid (show Blk WA6 w5.heap.size 24 #[.bool s6, .slice A6 n6 c6] by rw [hWA]; exact Blk.new _ _ _)
  obtain ⟨g6, hg6⟩ : ∃ g, w5.heap.size = g := ⟨_, rfl⟩
  rw [hg6] at KA
  have K6 := KA
  clear KA
  go_upto_region 5 with fail
  rw [← hWA]
  clear hWA hg6
  replace K2 := Lib.hid (K2.out.below hbA)
  replace HE := Lib.hid (HE.out.below hbA)
  replace B0 := Lib.hid (B0.out.below hbA)
  replace V6 := Lib.hid (V6.out.below hbA)
  replace HB := Lib.hid (HB.out.trans (hbA.mono HB.out.size))
  clear hbA
  by_cases hpv : PV neg t
  · have HPV := Lib.hid hpv
    clear hpv
    have CP := Lib.hid (Parse_good s t neg WA6 HSS.out HNP.out (by have := HSZ.out; omega) HPV.out)
    go_wp2_with fail
    refine CP.out.mono ?_
    rintro e w6 ⟨v, rfl, hv, hb⟩
    clear CP
    have V8 := Lib.hid hv
    obtain ⟨s8, A8, n8, c8, e8⟩ := hv.expose
    subst e8
    clear hv
    replace K2 := Lib.hid (K2.out.below hb)
    replace HE := Lib.hid (HE.out.below hb)
    replace B0 := Lib.hid (B0.out.below hb)
    replace V6 := Lib.hid (V6.out.below hb)
    replace K6 := Lib.hid (K6.out.below hb)
    replace HB := Lib.hid (HB.out.trans (hb.mono HB.out.size))
    clear hb
    obtain ⟨WA8, hWA⟩ : ∃ W, W = w6.alloc (.cells #[.bool s8, .slice A8 n8 c8] 24) := ⟨_, rfl⟩
    have hbA : Below w6.heap.size w6 WA8 := by rw [hWA]; exact (Below.refl _ _).alloc (Nat.le_refl _) _
    have KA := Lib.hid (show Blk WA8 w6.heap.size 24 #[.bool s8, .slice A8 n8 c8] by rw [hWA]; exact Blk.new _ _ _)
    obtain ⟨g8, hg8⟩ : ∃ g, w6.heap.size = g := ⟨_, rfl⟩
    rw [hg8] at KA
    have K8 := KA
    clear KA
    go_upto_region 6 with fail
    rw [← hWA]
    clear hWA hg8
    replace K2 := Lib.hid (K2.out.below hbA)
    replace HE := Lib.hid (HE.out.below hbA)
    replace B0 := Lib.hid (B0.out.below hbA)
    replace V6 := Lib.hid (V6.out.below hbA)
    replace K6 := Lib.hid (K6.out.below hbA)
    replace V8 := Lib.hid (V8.out.below hbA)
    replace HB := Lib.hid (HB.out.trans (hbA.mono HB.out.size))
    clear hbA
    have CP := Lib.hid (RParse_good s t neg WA8 HSS.out HNP.out (by have := HSZ.out; omega) HPV.out)
    go_wp2_with fail
    refine CP.out.mono ?_
    rintro e w7 ⟨v, rfl, hv, hb⟩
    clear CP
    have V10 := Lib.hid hv
    obtain ⟨s10, A10, n10, c10, e10⟩ := hv.expose
    subst e10
    clear hv
    replace K2 := Lib.hid (K2.out.below hb)
    replace HE := Lib.hid (HE.out.below hb)
    replace B0 := Lib.hid (B0.out.below hb)
    replace V6 := Lib.hid (V6.out.below hb)
    replace K6 := Lib.hid (K6.out.below hb)
    replace V8 := Lib.hid (V8.out.below hb)
    replace K8 := Lib.hid (K8.out.below hb)
    replace HB := Lib.hid (HB.out.trans (hb.mono HB.out.size))
    clear hb
    obtain ⟨WA10, hWA⟩ : ∃ W, W = w7.alloc (.cells #[.bool s10, .slice A10 n10 c10] 24) := ⟨_, rfl⟩
    have hbA : Below w7.heap.size w7 WA10 := by rw [hWA]; exact (Below.refl _ _).alloc (Nat.le_refl _) _
    have KA := Lib.hid (show Blk WA10 w7.heap.size 24 #[.bool s10, .slice A10 n10 c10] by rw [hWA]; exact Blk.new _ _ _)
    obtain ⟨g10, hg10⟩ : ∃ g, w7.heap.size = g := ⟨_, rfl⟩
    rw [hg10] at KA
    have K10 := KA
    clear KA
    go_upto_region 7 with fail
    rw [← hWA]
    clear hWA hg10
    replace K2 := Lib.hid (K2.out.below hbA)
    replace HE := Lib.hid (HE.out.below hbA)
    replace B0 := Lib.hid (B0.out.below hbA)
    replace V6 := Lib.hid (V6.out.below hbA)
    replace K6 := Lib.hid (K6.out.below hbA)
    replace V8 := Lib.hid (V8.out.below hbA)
    replace K8 := Lib.hid (K8.out.below hbA)
    replace V10 := Lib.hid (V10.out.below hbA)
    replace HB := Lib.hid (HB.out.trans (hbA.mono HB.out.size))
    clear hbA
    have h802 := HSZ.out
    have k2_0 : WA10.cell? ⟨w.heap.size, 0, none⟩ = some (.bool x0) := K2.out.cell 0
    have k2_1 : WA10.cell? ⟨w.heap.size, 1, none⟩ = some (.slice A0 n0 c0) := K2.out.cell 1
    have k6_0 : WA10.cell? ⟨g6, 0, none⟩ = some (.bool s6) := K6.out.cell 0
    have k6_1 : WA10.cell? ⟨g6, 1, none⟩ = some (.slice A6 n6 c6) := K6.out.cell 1
    have k8_0 : WA10.cell? ⟨g8, 0, none⟩ = some (.bool s8) := K8.out.cell 0
    have k8_1 : WA10.cell? ⟨g8, 1, none⟩ = some (.slice A8 n8 c8) := K8.out.cell 1
    have k10_0 : WA10.cell? ⟨g10, 0, none⟩ = some (.bool s10) := K10.out.cell 0
    have k10_1 : WA10.cell? ⟨g10, 1, none⟩ = some (.slice A10 n10 c10) := K10.out.cell 1
    go_wp2_with fail
    have hS0 : Below WA10.heap.size WA10 WA10.drew := below_drew (Below.refl _ _)
    refine wp_region_mix 24 (fun w' => Below WA10.heap.size WA10 w') (by kernel_rfl) (by decide) ?_
    generalize WA10.drew = y0 at hS0 ⊢
    refine wpM_take (i := 0) (oi := ⟨some 44, _, _, _, _, _⟩) (v := ?_) rfl (by decide +kernel) (by decide +kernel) (by decide +kernel) (fun _ _ _ h => h) (Or.inl ⟨by rfl, ?_⟩) hS0 ?_
    case refine_2 =>
      intro w' hSw
      go_simp
      try (with_reducible rfl)
    try simp only [Act.put, List.setIfInBounds_toArray, List.set_cons_zero, List.set_cons_succ]
    refine wpM_take (i := 1) (oi := ⟨some 45, _, _, _, _, _⟩) (v := ?_) rfl (by decide +kernel) (by decide +kernel) (by decide +kernel) (fun _ _ _ h => h) (Or.inl ⟨by rfl, ?_⟩) hS0 ?_
    case refine_2 =>
      intro w' hSw
      have k2_0' := keepcell hSw k2_0
      have k2_1' := keepcell hSw k2_1
      go_simp
      try (with_reducible rfl)
    try simp only [Act.put, List.setIfInBounds_toArray, List.set_cons_zero, List.set_cons_succ]
    refine wpM_step (i := 2) (o := ⟨some 46, _, _, _, _, _⟩) rfl (by decide +kernel) (by decide) (fun K hK => ?_)
    go_simp
    refine (RText_any _ z0 8 y0 (B0.out.below hS0) (by decide)).mono ?_
    rintro e y8 ⟨rfl, hc⟩
    have hy8 : Below WA10.heap.size WA10 y8 := hS0.trans (hc.mono hS0.size)
    rw [HFF.out]
    refine hK.out _ _ hy8 ?_
    clear hK K
    try simp only [Act.put, List.setIfInBounds_toArray, List.set_cons_zero, List.set_cons_succ]
    refine wpM_take (i := 3) (oi := ⟨some 47, _, _, _, _, _⟩) (v := ?_) rfl (by decide +kernel) (by decide +kernel) (by decide +kernel) (fun _ _ _ h => h) (Or.inl ⟨by rfl, ?_⟩) hy8 ?_
    case refine_2 =>
      intro w' hSw
      go_simp
      try (with_reducible rfl)
    try simp only [Act.put, List.setIfInBounds_toArray, List.set_cons_zero, List.set_cons_succ]
    refine wpM_take (i := 4) (oi := ⟨some 48, _, _, _, _, _⟩) (v := ?_) rfl (by decide +kernel) (by decide +kernel) (by decide +kernel) (fun _ _ _ h => h) (Or.inl ⟨by rfl, ?_⟩) hy8 ?_
    case refine_2 =>
      intro w' hSw
      go_simp
      try (with_reducible rfl)
    try simp only [Act.put, List.setIfInBounds_toArray, List.set_cons_zero, List.set_cons_succ]
    refine wpM_take (i := 5) (oi := ⟨some 49, _, _, _, _, _⟩) (v := ?_) rfl (by decide +kernel) (by decide +kernel) (by decide +kernel) (fun _ _ _ h => h) (Or.inl ⟨by rfl, ?_⟩) hy8 ?_
    case refine_2 =>
      intro w' hSw
      go_simp
      try (with_reducible rfl)
    try simp only [Act.put, List.setIfInBounds_toArray, List.set_cons_zero, List.set_cons_succ]
    refine wpM_take (i := 6) (oi := ⟨some 50, _, _, _, _, _⟩) (v := ?_) rfl (by decide +kernel) (by decide +kernel) (by decide +kernel) (fun _ _ _ h => h) (Or.inl ⟨by rfl, ?_⟩) hy8 ?_
    case refine_2 =>
      intro w' hSw
      go_simp
      try (with_reducible rfl)
    try simp only [Act.put, List.setIfInBounds_toArray, List.set_cons_zero, List.set_cons_succ]
    refine wpM_take (i := 7) (oi := ⟨some 51, _, _, _, _, _⟩) (v := ?_) rfl (by decide +kernel) (by decide +kernel) (by decide +kernel) (fun _ _ _ h => h) (Or.inl ⟨by rfl, ?_⟩) hy8 ?_
    case refine_2 =>
      intro w' hSw
      go_simp
      try (with_reducible rfl)
    try simp only [Act.put, List.setIfInBounds_toArray, List.set_cons_zero, List.set_cons_succ]
    refine wpM_take (i := 8) (oi := ⟨some 52, _, _, _, _, _⟩) (v := ?_) rfl (by decide +kernel) (by decide +kernel) (by decide +kernel) (fun _ _ _ h => h) (Or.inl ⟨by rfl, ?_⟩) hy8 ?_
    case refine_2 =>
      intro w' hSw
      go_simp
      try (with_reducible rfl)
    try simp only [Act.put, List.setIfInBounds_toArray, List.set_cons_zero, List.set_cons_succ]
    refine wpM_take (i := 9) (oi := ⟨some 53, _, _, _, _, _⟩) (v := ?_) rfl (by decide +kernel) (by decide +kernel) (by decide +kernel) (fun _ _ _ h => h) (Or.inl ⟨by rfl, ?_⟩) hy8 ?_
    case refine_2 =>
      intro w' hSw
      have k6_0' := keepcell hSw k6_0
      have k6_1' := keepcell hSw k6_1
      go_simp
      try (with_reducible rfl)
    try simp only [Act.put, List.setIfInBounds_toArray, List.set_cons_zero, List.set_cons_succ]
    refine wpM_take (i := 10) (oi := ⟨some 54, _, _, _, _, _⟩) (v := ?_) rfl (by decide +kernel) (by decide +kernel) (by decide +kernel) (fun _ _ _ h => h) (Or.inl ⟨by rfl, ?_⟩) hy8 ?_
    case refine_2 =>
      intro w' hSw
      have k2_0' := keepcell hSw k2_0
      have k2_1' := keepcell hSw k2_1
      go_simp
      try (with_reducible rfl)
    try simp only [Act.put, List.setIfInBounds_toArray, List.set_cons_zero, List.set_cons_succ]
    refine wpM_step (i := 11) (o := ⟨some 55, _, _, _, _, _⟩) rfl (by decide +kernel) (by decide) (fun K hK => ?_)
    go_simp
    refine (RNormal_any _ z0 8 y8 (B0.out.below hy8) (by decide)).mono ?_
    rintro e y9 ⟨v55, rfl, hv, hc⟩
    have hy9 : Below WA10.heap.size WA10 y9 := hy8.trans (hc.mono hy8.size)
    have P55 := Lib.hid hv
    clear hv
    refine hK.out _ _ hy9 ?_
    clear hK K
    try simp only [Act.put, List.setIfInBounds_toArray, List.set_cons_zero, List.set_cons_succ]
    refine wpM_step (i := 12) (o := ⟨some 56, _, _, _, _, _⟩) rfl (by decide +kernel) (by decide) (fun K hK => ?_)
    go_simp
    refine (Same_nb (V6.out.below hy9) P55.out (by decide)).mono ?_
    rintro e y10 ⟨rfl, hc⟩
    have hy10 : Below WA10.heap.size WA10 y10 := hy9.trans (hc.mono hy9.size)
    replace P55 := Lib.hid (P55.out.below hc)
    refine hK.out _ _ hy10 ?_
    clear hK K
    try simp only [Act.put, List.setIfInBounds_toArray, List.set_cons_zero, List.set_cons_succ]
    refine wpM_take (i := 13) (oi := ⟨some 57, _, _, _, _, _⟩) (v := ?_) rfl (by decide +kernel) (by decide +kernel) (by decide +kernel) (fun _ _ _ h => h) (Or.inl ⟨by rfl, ?_⟩) hy10 ?_
    case refine_2 =>
      intro w' hSw
      go_simp
      try (with_reducible rfl)
    try simp only [Act.put, List.setIfInBounds_toArray, List.set_cons_zero, List.set_cons_succ]
    refine wpM_take (i := 14) (oi := ⟨some 58, _, _, _, _, _⟩) (v := ?_) rfl (by decide +kernel) (by decide +kernel) (by decide +kernel) (fun _ _ _ h => h) (Or.inl ⟨by rfl, ?_⟩) hy10 ?_
    case refine_2 =>
      intro w' hSw
      go_simp
      try (with_reducible rfl)
    try simp only [Act.put, List.setIfInBounds_toArray, List.set_cons_zero, List.set_cons_succ]
    refine wpM_take (i := 15) (oi := ⟨some 59, _, _, _, _, _⟩) (v := ?_) rfl (by decide +kernel) (by decide +kernel) (by decide +kernel) (fun _ _ _ h => h) (Or.inl ⟨by rfl, ?_⟩) hy10 ?_
    case refine_2 =>
      intro w' hSw
      go_simp
      try (with_reducible rfl)
    try simp only [Act.put, List.setIfInBounds_toArray, List.set_cons_zero, List.set_cons_succ]
    refine wpM_take (i := 16) (oi := ⟨some 60, _, _, _, _, _⟩) (v := ?_) rfl (by decide +kernel) (by decide +kernel) (by decide +kernel) (fun _ _ _ h => h) (Or.inl ⟨by rfl, ?_⟩) hy10 ?_
    case refine_2 =>
      intro w' hSw
      go_simp
      try (with_reducible rfl)
    try simp only [Act.put, List.setIfInBounds_toArray, List.set_cons_zero, List.set_cons_succ]
    refine wpM_take (i := 17) (oi := ⟨some 61, _, _, _, _, _⟩) (v := ?_) rfl (by decide +kernel) (by decide +kernel) (by decide +kernel) (fun _ _ _ h => h) (Or.inl ⟨by rfl, ?_⟩) hy10 ?_
    case refine_2 =>
      intro w' hSw
      go_simp
      try (with_reducible rfl)
    try simp only [Act.put, List.setIfInBounds_toArray, List.set_cons_zero, List.set_cons_succ]
    refine wpM_take (i := 18) (oi := ⟨some 62, _, _, _, _, _⟩) (v := ?_) rfl (by decide +kernel) (by decide +kernel) (by decide +kernel) (fun _ _ _ h => h) (Or.inl ⟨by rfl, ?_⟩) hy10 ?_
    case refine_2 =>
      intro w' hSw
      go_simp
      try (with_reducible rfl)
    try simp only [Act.put, List.setIfInBounds_toArray, List.set_cons_zero, List.set_cons_succ]
    refine wpM_take (i := 19) (oi := ⟨some 63, _, _, _, _, _⟩) (v := ?_) rfl (by decide +kernel) (by decide +kernel) (by decide +kernel) (fun _ _ _ h => h) (Or.inl ⟨by rfl, ?_⟩) hy10 ?_
    case refine_2 =>
      intro w' hSw
      go_simp
      try (with_reducible rfl)
    try simp only [Act.put, List.setIfInBounds_toArray, List.set_cons_zero, List.set_cons_succ]
    refine wpM_take (i := 20) (oi := ⟨some 64, _, _, _, _, _⟩) (v := ?_) rfl (by decide +kernel) (by decide +kernel) (by decide +kernel) (fun _ _ _ h => h) (Or.inl ⟨by rfl, ?_⟩) hy10 ?_
    case refine_2 =>
      intro w' hSw
      have k8_0' := keepcell hSw k8_0
      have k8_1' := keepcell hSw k8_1
      go_simp
      try (with_reducible rfl)
    try simp only [Act.put, List.setIfInBounds_toArray, List.set_cons_zero, List.set_cons_succ]
    refine wpM_take (i := 21) (oi := ⟨some 65, _, _, _, _, _⟩) (v := ?_) rfl (by decide +kernel) (by decide +kernel) (by decide +kernel) (fun _ _ _ h => h) (Or.inl ⟨by rfl, ?_⟩) hy10 ?_
    case refine_2 =>
      intro w' hSw
      have k10_0' := keepcell hSw k10_0
      have k10_1' := keepcell hSw k10_1
      go_simp
      try (with_reducible rfl)
    try simp only [Act.put, List.setIfInBounds_toArray, List.set_cons_zero, List.set_cons_succ]
    refine wpM_step (i := 22) (o := ⟨some 66, _, _, _, _, _⟩) rfl (by decide +kernel) (by decide) (fun K hK => ?_)
    go_simp
    refine (Same_nb (V8.out.below hy10) (V10.out.below hy10) (by omega)).mono ?_
    rintro e y11 ⟨rfl, hc⟩
    have hy11 : Below WA10.heap.size WA10 y11 := hy10.trans (hc.mono hy10.size)
    replace P55 := Lib.hid (P55.out.below hc)
    refine hK.out _ _ hy11 ?_
    clear hK K
    try simp only [Act.put, List.setIfInBounds_toArray, List.set_cons_zero, List.set_cons_succ]
    refine wpM_take (i := 23) (oi := ⟨some 67, _, _, _, _, _⟩) (v := ?_) rfl (by decide +kernel) (by decide +kernel) (by decide +kernel) (fun _ _ _ h => h) (Or.inl ⟨by rfl, ?_⟩) hy11 ?_
    case refine_2 =>
      intro w' hSw
      go_simp
      try (with_reducible rfl)
    try simp only [Act.put, List.setIfInBounds_toArray, List.set_cons_zero, List.set_cons_succ]
    refine wpM_done (by decide +kernel) ?_
    simp only [List.drop_succ_cons, List.drop_zero]
    have HF := Lib.hid (HB.out.trans (hy11.mono HB.out.size))
    go_wp2
    go_ret
    exact ⟨rfl, HF.out⟩
  · have HPV := Lib.hid hpv
    clear hpv
    have CP := Lib.hid (Parse_ungood s t neg WA6 HSS.out HNP.out (by have := HSZ.out; omega) HPV.out)
    go_wp2_with fail
    refine CP.out.mono ?_
    rintro e w6 ⟨rfl, hb⟩
    clear CP
    replace K2 := Lib.hid (K2.out.below hb)
    replace HE := Lib.hid (HE.out.below hb)
    replace B0 := Lib.hid (B0.out.below hb)
    replace V6 := Lib.hid (V6.out.below hb)
    replace K6 := Lib.hid (K6.out.below hb)
    replace HB := Lib.hid (HB.out.trans (hb.mono HB.out.size))
    clear hb
    obtain ⟨WA8, hWA⟩ : ∃ W, W = w6.alloc (.cells #[.bool false, .slice none 0 0] 24) := ⟨_, rfl⟩
    have hbA : Below w6.heap.size w6 WA8 := by rw [hWA]; exact (Below.refl _ _).alloc (Nat.le_refl _) _
    have KA := Lib.hid (show Blk WA8 w6.heap.size 24 #[.bool false, .slice none 0 0] by rw [hWA]; exact Blk.new _ _ _)
    obtain ⟨g8, hg8⟩ : ∃ g, w6.heap.size = g := ⟨_, rfl⟩
    rw [hg8] at KA
    have K8 := KA
    clear KA
    go_upto_region 6 with fail
    rw [← hWA]
    clear hWA hg8
    replace K2 := Lib.hid (K2.out.below hbA)
    replace HE := Lib.hid (HE.out.below hbA)
    replace B0 := Lib.hid (B0.out.below hbA)
    replace V6 := Lib.hid (V6.out.below hbA)
    replace K6 := Lib.hid (K6.out.below hbA)
    replace HB := Lib.hid (HB.out.trans (hbA.mono HB.out.size))
    clear hbA
    have CP := Lib.hid (RParse_ungood s t neg WA8 HSS.out HNP.out (by have := HSZ.out; omega) HPV.out)
    go_wp2_with fail
    refine CP.out.mono ?_
    rintro e w7 ⟨rfl, hb⟩
    clear CP
    replace K2 := Lib.hid (K2.out.below hb)
    replace HE := Lib.hid (HE.out.below hb)
    replace B0 := Lib.hid (B0.out.below hb)
    replace V6 := Lib.hid (V6.out.below hb)
    replace K6 := Lib.hid (K6.out.below hb)
    replace K8 := Lib.hid (K8.out.below hb)
    replace HB := Lib.hid (HB.out.trans (hb.mono HB.out.size))
    clear hb
    obtain ⟨WA10, hWA⟩ : ∃ W, W = w7.alloc (.cells #[.bool false, .slice none 0 0] 24) := ⟨_, rfl⟩
    have hbA : Below w7.heap.size w7 WA10 := by rw [hWA]; exact (Below.refl _ _).alloc (Nat.le_refl _) _
    have KA := Lib.hid (show Blk WA10 w7.heap.size 24 #[.bool false, .slice none 0 0] by rw [hWA]; exact Blk.new _ _ _)
    obtain ⟨g10, hg10⟩ : ∃ g, w7.heap.size = g := ⟨_, rfl⟩
    rw [hg10] at KA
    have K10 := KA
    clear KA
    go_upto_region 7 with fail
    rw [← hWA]
    clear hWA hg10
    replace K2 := Lib.hid (K2.out.below hbA)
    replace HE := Lib.hid (HE.out.below hbA)
    replace B0 := Lib.hid (B0.out.below hbA)
    replace V6 := Lib.hid (V6.out.below hbA)
    replace K6 := Lib.hid (K6.out.below hbA)
    replace K8 := Lib.hid (K8.out.below hbA)
    replace HB := Lib.hid (HB.out.trans (hbA.mono HB.out.size))
    clear hbA
    have k2_0 : WA10.cell? ⟨w.heap.size, 0, none⟩ = some (.bool x0) := K2.out.cell 0
    have k2_1 : WA10.cell? ⟨w.heap.size, 1, none⟩ = some (.slice A0 n0 c0) := K2.out.cell 1
    have k6_0 : WA10.cell? ⟨g6, 0, none⟩ = some (.bool s6) := K6.out.cell 0
    have k6_1 : WA10.cell? ⟨g6, 1, none⟩ = some (.slice A6 n6 c6) := K6.out.cell 1
    have k8_0 : WA10.cell? ⟨g8, 0, none⟩ = some (.bool false) := K8.out.cell 0
    have k8_1 : WA10.cell? ⟨g8, 1, none⟩ = some (.slice none 0 0) := K8.out.cell 1
    have k10_0 : WA10.cell? ⟨g10, 0, none⟩ = some (.bool false) := K10.out.cell 0
    have k10_1 : WA10.cell? ⟨g10, 1, none⟩ = some (.slice none 0 0) := K10.out.cell 1
    go_wp2_with fail
    have hS0 : Below WA10.heap.size WA10 WA10.drew := below_drew (Below.refl _ _)
    refine wp_region_mix 24 (fun w' => Below WA10.heap.size WA10 w') (by kernel_rfl) (by decide) ?_
    generalize WA10.drew = y0 at hS0 ⊢
    refine wpM_take (i := 0) (oi := ⟨some 44, _, _, _, _, _⟩) (v := ?_) rfl (by decide +kernel) (by decide +kernel) (by decide +kernel) (fun _ _ _ h => h) (Or.inl ⟨by rfl, ?_⟩) hS0 ?_
    case refine_2 =>
      intro w' hSw
      go_simp
      try (with_reducible rfl)
    try simp only [Act.put, List.setIfInBounds_toArray, List.set_cons_zero, List.set_cons_succ]
    refine wpM_take (i := 1) (oi := ⟨some 45, _, _, _, _, _⟩) (v := ?_) rfl (by decide +kernel) (by decide +kernel) (by decide +kernel) (fun _ _ _ h => h) (Or.inl ⟨by rfl, ?_⟩) hS0 ?_
    case refine_2 =>
      intro w' hSw
      have k2_0' := keepcell hSw k2_0
      have k2_1' := keepcell hSw k2_1
      go_simp
      try (with_reducible rfl)
    try simp only [Act.put, List.setIfInBounds_toArray, List.set_cons_zero, List.set_cons_succ]
    refine wpM_step (i := 2) (o := ⟨some 46, _, _, _, _, _⟩) rfl (by decide +kernel) (by decide) (fun K hK => ?_)
    go_simp
    refine (RText_any _ z0 8 y0 (B0.out.below hS0) (by decide)).mono ?_
    rintro e y8 ⟨rfl, hc⟩
    have hy8 : Below WA10.heap.size WA10 y8 := hS0.trans (hc.mono hS0.size)
    rw [HFF.out]
    refine hK.out _ _ hy8 ?_
    clear hK K
    try simp only [Act.put, List.setIfInBounds_toArray, List.set_cons_zero, List.set_cons_succ]
    refine wpM_take (i := 3) (oi := ⟨some 47, _, _, _, _, _⟩) (v := ?_) rfl (by decide +kernel) (by decide +kernel) (by decide +kernel) (fun _ _ _ h => h) (Or.inl ⟨by rfl, ?_⟩) hy8 ?_
    case refine_2 =>
      intro w' hSw
      go_simp
      try (with_reducible rfl)
    try simp only [Act.put, List.setIfInBounds_toArray, List.set_cons_zero, List.set_cons_succ]
    refine wpM_take (i := 4) (oi := ⟨some 48, _, _, _, _, _⟩) (v := ?_) rfl (by decide +kernel) (by decide +kernel) (by decide +kernel) (fun _ _ _ h => h) (Or.inl ⟨by rfl, ?_⟩) hy8 ?_
    case refine_2 =>
      intro w' hSw
      go_simp
      try (with_reducible rfl)
    try simp only [Act.put, List.setIfInBounds_toArray, List.set_cons_zero, List.set_cons_succ]
    refine wpM_take (i := 5) (oi := ⟨some 49, _, _, _, _, _⟩) (v := ?_) rfl (by decide +kernel) (by decide +kernel) (by decide +kernel) (fun _ _ _ h => h) (Or.inl ⟨by rfl, ?_⟩) hy8 ?_
    case refine_2 =>
      intro w' hSw
      go_simp
      try (with_reducible rfl)
    try simp only [Act.put, List.setIfInBounds_toArray, List.set_cons_zero, List.set_cons_succ]
    refine wpM_take (i := 6) (oi := ⟨some 50, _, _, _, _, _⟩) (v := ?_) rfl (by decide +kernel) (by decide +kernel) (by decide +kernel) (fun _ _ _ h => h) (Or.inl ⟨by rfl, ?_⟩) hy8 ?_
    case refine_2 =>
      intro w' hSw
      go_simp
      try (with_reducible rfl)
    try simp only [Act.put, List.setIfInBounds_toArray, List.set_cons_zero, List.set_cons_succ]
    refine wpM_take (i := 7) (oi := ⟨some 51, _, _, _, _, _⟩) (v := ?_) rfl (by decide +kernel) (by decide +kernel) (by decide +kernel) (fun _ _ _ h => h) (Or.inl ⟨by rfl, ?_⟩) hy8 ?_
    case refine_2 =>
      intro w' hSw
      go_simp
      try (with_reducible rfl)
    try simp only [Act.put, List.setIfInBounds_toArray, List.set_cons_zero, List.set_cons_succ]
    refine wpM_take (i := 8) (oi := ⟨some 52, _, _, _, _, _⟩) (v := ?_) rfl (by decide +kernel) (by decide +kernel) (by decide +kernel) (fun _ _ _ h => h) (Or.inl ⟨by rfl, ?_⟩) hy8 ?_
    case refine_2 =>
      intro w' hSw
      go_simp
      try (with_reducible rfl)
    try simp only [Act.put, List.setIfInBounds_toArray, List.set_cons_zero, List.set_cons_succ]
    refine wpM_take (i := 9) (oi := ⟨some 53, _, _, _, _, _⟩) (v := ?_) rfl (by decide +kernel) (by decide +kernel) (by decide +kernel) (fun _ _ _ h => h) (Or.inl ⟨by rfl, ?_⟩) hy8 ?_
    case refine_2 =>
      intro w' hSw
      have k6_0' := keepcell hSw k6_0
      have k6_1' := keepcell hSw k6_1
      go_simp
      try (with_reducible rfl)
    try simp only [Act.put, List.setIfInBounds_toArray, List.set_cons_zero, List.set_cons_succ]
    refine wpM_take (i := 10) (oi := ⟨some 54, _, _, _, _, _⟩) (v := ?_) rfl (by decide +kernel) (by decide +kernel) (by decide +kernel) (fun _ _ _ h => h) (Or.inl ⟨by rfl, ?_⟩) hy8 ?_
    case refine_2 =>
      intro w' hSw
      have k2_0' := keepcell hSw k2_0
      have k2_1' := keepcell hSw k2_1
      go_simp
      try (with_reducible rfl)
    try simp only [Act.put, List.setIfInBounds_toArray, List.set_cons_zero, List.set_cons_succ]
    refine wpM_step (i := 11) (o := ⟨some 55, _, _, _, _, _⟩) rfl (by decide +kernel) (by decide) (fun K hK => ?_)
    go_simp
    refine (RNormal_any _ z0 8 y8 (B0.out.below hy8) (by decide)).mono ?_
    rintro e y9 ⟨v55, rfl, hv, hc⟩
    have hy9 : Below WA10.heap.size WA10 y9 := hy8.trans (hc.mono hy8.size)
    have P55 := Lib.hid hv
    clear hv
    refine hK.out _ _ hy9 ?_
    clear hK K
    try simp only [Act.put, List.setIfInBounds_toArray, List.set_cons_zero, List.set_cons_succ]
    refine wpM_step (i := 12) (o := ⟨some 56, _, _, _, _, _⟩) rfl (by decide +kernel) (by decide) (fun K hK => ?_)
    go_simp
    refine (Same_nb (V6.out.below hy9) P55.out (by decide)).mono ?_
    rintro e y10 ⟨rfl, hc⟩
    have hy10 : Below WA10.heap.size WA10 y10 := hy9.trans (hc.mono hy9.size)
    replace P55 := Lib.hid (P55.out.below hc)
    refine hK.out _ _ hy10 ?_
    clear hK K
    try simp only [Act.put, List.setIfInBounds_toArray, List.set_cons_zero, List.set_cons_succ]
    refine wpM_take (i := 13) (oi := ⟨some 57, _, _, _, _, _⟩) (v := ?_) rfl (by decide +kernel) (by decide +kernel) (by decide +kernel) (fun _ _ _ h => h) (Or.inl ⟨by rfl, ?_⟩) hy10 ?_
    case refine_2 =>
      intro w' hSw
      go_simp
      try (with_reducible rfl)
    try simp only [Act.put, List.setIfInBounds_toArray, List.set_cons_zero, List.set_cons_succ]
    refine wpM_take (i := 14) (oi := ⟨some 58, _, _, _, _, _⟩) (v := ?_) rfl (by decide +kernel) (by decide +kernel) (by decide +kernel) (fun _ _ _ h => h) (Or.inl ⟨by rfl, ?_⟩) hy10 ?_
    case refine_2 =>
      intro w' hSw
      go_simp
      try (with_reducible rfl)
    try simp only [Act.put, List.setIfInBounds_toArray, List.set_cons_zero, List.set_cons_succ]
    refine wpM_take (i := 15) (oi := ⟨some 59, _, _, _, _, _⟩) (v := ?_) rfl (by decide +kernel) (by decide +kernel) (by decide +kernel) (fun _ _ _ h => h) (Or.inl ⟨by rfl, ?_⟩) hy10 ?_
    case refine_2 =>
      intro w' hSw
      go_simp
      try (with_reducible rfl)
    try simp only [Act.put, List.setIfInBounds_toArray, List.set_cons_zero, List.set_cons_succ]
    refine wpM_take (i := 16) (oi := ⟨some 60, _, _, _, _, _⟩) (v := ?_) rfl (by decide +kernel) (by decide +kernel) (by decide +kernel) (fun _ _ _ h => h) (Or.inl ⟨by rfl, ?_⟩) hy10 ?_
    case refine_2 =>
      intro w' hSw
      go_simp
      try (with_reducible rfl)
    try simp only [Act.put, List.setIfInBounds_toArray, List.set_cons_zero, List.set_cons_succ]
    refine wpM_take (i := 17) (oi := ⟨some 61, _, _, _, _, _⟩) (v := ?_) rfl (by decide +kernel) (by decide +kernel) (by decide +kernel) (fun _ _ _ h => h) (Or.inl ⟨by rfl, ?_⟩) hy10 ?_
    case refine_2 =>
      intro w' hSw
      go_simp
      try (with_reducible rfl)
    try simp only [Act.put, List.setIfInBounds_toArray, List.set_cons_zero, List.set_cons_succ]
    refine wpM_take (i := 18) (oi := ⟨some 62, _, _, _, _, _⟩) (v := ?_) rfl (by decide +kernel) (by decide +kernel) (by decide +kernel) (fun _ _ _ h => h) (Or.inl ⟨by rfl, ?_⟩) hy10 ?_
    case refine_2 =>
      intro w' hSw
      go_simp
      try (with_reducible rfl)
    try simp only [Act.put, List.setIfInBounds_toArray, List.set_cons_zero, List.set_cons_succ]
    refine wpM_take (i := 19) (oi := ⟨some 63, _, _, _, _, _⟩) (v := ?_) rfl (by decide +kernel) (by decide +kernel) (by decide +kernel) (fun _ _ _ h => h) (Or.inl ⟨by rfl, ?_⟩) hy10 ?_
    case refine_2 =>
      intro w' hSw
      go_simp
      try (with_reducible rfl)
    try simp only [Act.put, List.setIfInBounds_toArray, List.set_cons_zero, List.set_cons_succ]
    refine wpM_take (i := 20) (oi := ⟨some 64, _, _, _, _, _⟩) (v := ?_) rfl (by decide +kernel) (by decide +kernel) (by decide +kernel) (fun _ _ _ h => h) (Or.inl ⟨by rfl, ?_⟩) hy10 ?_
    case refine_2 =>
      intro w' hSw
      have k8_0' := keepcell hSw k8_0
      have k8_1' := keepcell hSw k8_1
      go_simp
      try (with_reducible rfl)
    try simp only [Act.put, List.setIfInBounds_toArray, List.set_cons_zero, List.set_cons_succ]
    refine wpM_take (i := 21) (oi := ⟨some 65, _, _, _, _, _⟩) (v := ?_) rfl (by decide +kernel) (by decide +kernel) (by decide +kernel) (fun _ _ _ h => h) (Or.inl ⟨by rfl, ?_⟩) hy10 ?_
    case refine_2 =>
      intro w' hSw
      have k10_0' := keepcell hSw k10_0
      have k10_1' := keepcell hSw k10_1
      go_simp
      try (with_reducible rfl)
    try simp only [Act.put, List.setIfInBounds_toArray, List.set_cons_zero, List.set_cons_succ]
    refine wpM_step (i := 22) (o := ⟨some 66, _, _, _, _, _⟩) rfl (by decide +kernel) (by decide) (fun K hK => ?_)
    go_simp
    refine (Same_any false none 0 0 [] none 0 y10 (DG.empty _ _) (DG.empty _ _) (by decide)).mono ?_
    rintro e y11 ⟨rfl, hc⟩
    have hy11 : Below WA10.heap.size WA10 y11 := hy10.trans (hc.mono hy10.size)
    replace P55 := Lib.hid (P55.out.below hc)
    refine hK.out _ _ hy11 ?_
    clear hK K
    try simp only [Act.put, List.setIfInBounds_toArray, List.set_cons_zero, List.set_cons_succ]
    refine wpM_take (i := 23) (oi := ⟨some 67, _, _, _, _, _⟩) (v := ?_) rfl (by decide +kernel) (by decide +kernel) (by decide +kernel) (fun _ _ _ h => h) (Or.inl ⟨by rfl, ?_⟩) hy11 ?_
    case refine_2 =>
      intro w' hSw
      go_simp
      try (with_reducible rfl)
    try simp only [Act.put, List.setIfInBounds_toArray, List.set_cons_zero, List.set_cons_succ]
    refine wpM_done (by decide +kernel) ?_
    simp only [List.drop_succ_cons, List.drop_zero]
    have HF := Lib.hid (HB.out.trans (hy11.mono HB.out.size))
    go_wp2
    go_ret
    exact ⟨rfl, HF.out⟩
end Go.Proofs.YtndkcimdbidgaaaDoor
