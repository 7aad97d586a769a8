/- Law CutproofSound, where the arguments are of bulk at most 1048576: for every such input the call returns true, and its arguments read afterwards as before. -/
import Derived.Test.YthfolccofjaknaaLSt
import Derived.Test.YthfolccofjaknaaCso
import Derived.Test.YthfolccofjaknaaCup
namespace Go.Proofs.Ythfolccofjaknaa
open Go.ChangeShapes Go.WideShapes Go.ChangeAt Go.RowKit Go.ChangeMaps

set_option maxRecDepth 100000 in
set_option maxHeartbeats 4000000 in
theorem cutproofSound_walk (A : Option Addr) (n c : Nat) (Q : List Iq) (p : Pf) (xA : Option Addr) (xn xc : Nat) (X : List Bg) (w : World) (k0 : Ineqs w A n Q NM) (l0 : n ≤ c) (g0 : c * 56 ≤ 140737488351232) (kP : PfR w NM p) (kX : Bigs w xA xn X NM) (hbk : pfN p ≤ 1048576) :
    Calls Try.prog 9 #[.slice A n c, p.val, .slice xA xn xc] w fun e w' => e = .returned (.bool true) ∧ Below w.heap.size w w' := by
  obtain ⟨x0, x1, x2, x3, x4, hx⟩ : ∃ x0 x1 x2 x3 x4, p.cells = [x0, x1, x2, x3, x4] := by cases p; exact ⟨_, _, _, _, _, rfl⟩
  have hv : p.val = .agg #[x0, x1, x2, x3, x4] := by unfold Pf.val; rw [hx]
  have HV := Lib.hid hv
  have HP := Lib.hid kP
  have HBK := Lib.hid hbk
  rw [hv]
  clear kP hbk hx hv
  obtain ⟨i0, hi, hz0, hz1, hz2⟩ := info_parts i44
  have HK := Lib.hid k0
  have HX := Lib.hid kX
  have hnb : n * 56 ≤ 140737488351232 := Nat.le_trans (Nat.mul_le_mul_right 56 l0) g0
  clear k0 kX l0 g0
  obtain ⟨kx, hkx⟩ : ∃ kx, kx = w.heap.size := ⟨_, rfl⟩
  obtain ⟨W1, hW1⟩ : ∃ W1, W1 = w.alloc (.cells #[x0, x1, x2, x3, x4] 52) := ⟨_, rfl⟩
  have HB1 := Lib.hid (show Below w.heap.size w W1 by rw [hW1]; exact (Below.refl _ _).alloc (Nat.le_refl _) _)
  have KX := Lib.hid (show Blk W1 kx 52 #[x0, x1, x2, x3, x4] by rw [hW1]; exact Blk.new_ hkx rfl)
  have hkxw : w.heap.size ≤ kx := by omega
  go_enter Try.func9, Try.ntmps9
  go_wp2_with fail
  rw [← hkx, ← hW1]
  clear hkx hW1
  refine (awake_any W1).mono ?_
  rintro e2 w2 ⟨rfl, hb2⟩
  have HB2 := Lib.hid (HB1.out.trans (hb2.mono HB1.out.size))
  have KX2 := Lib.hid (KX.out.below hb2)
  clear hb2 HB1 KX
  obtain ⟨ks, hks⟩ : ∃ ks, ks = w2.heap.size := ⟨_, rfl⟩
  obtain ⟨W3, hW3⟩ : ∃ W3, W3 = w2.alloc (.cells #[.slice xA xn xc, .bool false, .slice none 0 0] 44) := ⟨_, rfl⟩
  have hb3 : Below w2.heap.size w2 W3 := by rw [hW3]; exact (Below.refl _ _).alloc (Nat.le_refl _) _
  have HB3 := Lib.hid (HB2.out.trans (hb3.mono HB2.out.size))
  have KX3 := Lib.hid (KX2.out.below hb3)
  have KS := Lib.hid (show Blk W3 ks 44 #[.slice xA xn xc, .bool false, .slice none 0 0] by rw [hW3]; exact Blk.new_ hks rfl)
  have hxs : kx < ks := by rw [hks]; exact KX2.out.lt
  have hxs2 : w.heap.size ≤ ks := by omega
  clear hb3
  have HO := Lib.hid (show W3.ownsRow w.heap.size 44 3 (.slice (some ⟨ks, 0, none⟩) 1 1) 1 [.slice xA xn xc, .bool false, .slice none 0 0] from ⟨rfl, .inr ⟨ks, 1, _, rfl, hxs2, KS.out, Nat.le_refl _, by unfold maxLen; decide, rfl, rfl⟩⟩)
  have HSR := Lib.hid (At.src (P := Try.prog) (c := c) Try.underlying30 (At.below HK.out.1 HB3.out) (iqs_one Q) (by decide))
  have HSZ := Lib.hid HB3.out.size
  go_wp2_with (at_builtin; rw [← hks, ← hW3]; clear hks hW3; refine wpList_append_srcG _ (by rfl) _ _ 30 30 rfl w.heap.size 44 i0 _ 3 56 Try.underlying30 hi hz0 hz1 hz2 rfl (.slice (some ⟨ks, 0, none⟩) 1 1) 1 [.slice xA xn xc, .bool false, .slice none 0 0] rfl HO.out _ n (Q.flatMap Iq.cells) rfl HSR.out (by unfold maxLen; omega) (by omega) HSZ.out ?_; intro v4 w4 own4 hg4 hm4)
  have HB4 := Lib.hid (HB3.out.grown hg4 HB3.out.size (fun j hj => (HO.out.lt j hj).1))
  have KX4 := Lib.hid (show Blk w4 kx 52 _ from (hg4.block kx KX3.out.lt (fun e => by injection e with e; dsimp only at e; omega)).trans KX3.out)
  obtain ⟨A4, c4, rfl, hat4, -, -⟩ := At.of_own own4
  have HI := Lib.hid (show Ineqs w4 A4 (1 + n) (⟨xA, xn, xc, X, Bg.zero⟩ :: Q) NM from ⟨hat4, by show 1 + n ≤ 9223372036854775807; omega, fun q hq => by
    rcases List.mem_cons.1 hq with rfl | hq
    · exact ⟨HX.out.below HB4.out, (NB.zero w4 0).bg.mono (Nat.zero_le _)⟩
    · exact (HK.out.2.2 q hq).below HB4.out⟩)
  have CS := Lib.hid (Small_any w4 A4 (1 + n) c4 _ NM HI.out)
  obtain ⟨sm, hsm⟩ : ∃ x, smQ (⟨xA, xn, xc, X, Bg.zero⟩ :: Q) = x := ⟨_, rfl⟩
  rw [hsm] at CS
  have HSM := Lib.hid hsm
  clear hsm own4 hg4 hm4 hat4 HO HSR HSZ HB3 KX3 KS hxs hxs2 hi hz0 hz1 hz2
  go_wp2_with fail
  refine CS.out.mono ?_
  rintro e5 w5 ⟨rfl, hb5⟩
  have HB5 := Lib.hid (HB4.out.trans (hb5.mono HB4.out.size))
  have KX5 := Lib.hid (KX4.out.below hb5)
  clear hb5 CS HI HB4 KX4 HB2 KX2
  cases sm with
  | false =>
    go_wp2_with fail
    refine (awake_any _).mono ?_
    rintro e9 w9 ⟨rfl, hb9⟩
    have HB9 := Lib.hid (HB5.out.trans (hb9.mono HB5.out.size))
    clear hb9
    go_wp2
    go_ret
    exact ⟨rfl, HB9.out⟩
  | true =>
    obtain ⟨hs1, hs2⟩ := smQ_cons HSM.out
    have HXS := Lib.hid (HX.out.small hs1)
    have HLS := Lib.hid (HK.out.small hs2)
    have hn12 : n ≤ 12 := HLS.out.2.1
    clear hs1 hs2 HSM HX HK
    have c0 : w5.cell? ⟨kx, 0, none⟩ = some x0 := KX5.out.cell 0
    have c1 : w5.cell? ⟨kx, 1, none⟩ = some x1 := KX5.out.cell 1
    have c2 : w5.cell? ⟨kx, 2, none⟩ = some x2 := KX5.out.cell 2
    have c3 : w5.cell? ⟨kx, 3, none⟩ = some x3 := KX5.out.cell 3
    have c4 : w5.cell? ⟨kx, 4, none⟩ = some x4 := KX5.out.cell 4
    have CS := Lib.hid (SmallProof_any w5 p NM (HP.out.keep HB5.out) HBK.out)
    rw [HV.out] at CS
    go_wp2_with fail
    clear c0 c1 c2 c3 c4
    refine CS.out.mono ?_
    rintro e6 w6 ⟨st, rfl, hst, hb6⟩
    have HB6 := Lib.hid (HB5.out.trans (hb6.mono HB5.out.size))
    have KX6 := Lib.hid (KX5.out.below hb6)
    have HST := Lib.hid hst
    clear hb6 CS HB5 KX5 hst
    cases st with
    | false =>
      go_wp2_with fail
      refine (awake_any _).mono ?_
      rintro e9 w9 ⟨rfl, hb9⟩
      have HB9 := Lib.hid (HB6.out.trans (hb9.mono HB6.out.size))
      clear hb9
      go_wp2
      go_ret
      exact ⟨rfl, HB9.out⟩
    | true =>
      have HSM := Lib.hid (HST.out rfl)
      have c0 : w6.cell? ⟨kx, 0, none⟩ = some x0 := KX6.out.cell 0
      have c1 : w6.cell? ⟨kx, 1, none⟩ = some x1 := KX6.out.cell 1
      have c2 : w6.cell? ⟨kx, 2, none⟩ = some x2 := KX6.out.cell 2
      have c3 : w6.cell? ⟨kx, 3, none⟩ = some x3 := KX6.out.cell 3
      have c4 : w6.cell? ⟨kx, 4, none⟩ = some x4 := KX6.out.cell 4
      have CA := Lib.hid (Check_any w6 A n c Q 4 4 p (HLS.out.1.below HB6.out) ((HP.out.small HSM.out.1).keep HB6.out) (fun q hq => by have := HLS.out.2.2 q hq; omega) (Nat.le_refl _) (by have := HSM.out.2; omega) (by have := HSM.out.2; omega))
      rw [HV.out] at CA
      obtain ⟨r, hr⟩ : ∃ r, (sysM (Q.map Iq.m) && chk p.m (Q.map Iq.m)) = r := ⟨_, rfl⟩
      rw [hr] at CA
      have HR := Lib.hid hr
      clear hr
      go_wp2_with fail
      clear c0 c1 c2 c3 c4
      refine CA.out.mono ?_
      rintro e7 w7 ⟨rfl, hb7⟩
      have HB7 := Lib.hid (HB6.out.trans (hb7.mono HB6.out.size))
      clear hb7 CA
      cases r with
      | false =>
        go_wp2
        go_ret
        exact ⟨rfl, HB7.out⟩
      | true =>
        by_cases hn0 : n = 0
        · subst hn0
          go_wp2
          go_ret
          exact ⟨rfl, HB7.out⟩
        have hne : ((n : Int) == 0) = false := by simpa using hn0
        have HNE := Lib.hid (show Q.map Iq.m ≠ [] from fun h => by
          have h1 := HLS.out.1.len
          rw [List.map_eq_nil_iff.1 h] at h1
          exact hn0 h1.symm)
        clear hn0
        have CC := Lib.hid (RAll_any w7 A n c Q xA xn xc X 4 (HLS.out.1.below HB7.out) (HXS.out.1.below HB7.out) (by decide) (fun q hq => by have := HLS.out.2.2 q hq; omega))
        have HAL := Lib.hid (show (Q.all fun q => hldM q.m (X.map Bg.z)) = false by
          cases h : (Q.all fun q => hldM q.m (X.map Bg.z)) with
          | false => rfl
          | true =>
            have h1 := chk_sound (x := X.map Bg.z) _ p.m (Nat.le_refl _) (Q.map Iq.m) HNE.out (fun q hq => by
              obtain ⟨q', hq', rfl⟩ := List.mem_map.1 hq
              exact List.all_eq_true.1 h q' hq')
            have h2 := HR.out
            rw [h1, Bool.and_false] at h2
            cases h2)
        rw [HAL.out] at CC
        go_wp2_with fail
        refine CC.out.mono ?_
        rintro e9 w9 ⟨rfl, hb9⟩
        have HB9 := Lib.hid (HB7.out.trans (hb9.mono HB7.out.size))
        clear hb9 CC
        go_wp2
        go_ret
        exact ⟨rfl, HB9.out⟩

set_option maxRecDepth 100000 in
theorem cutproofSound_lifted (os : Os) (started : os.Started) (H : Type) (enc : TypeId × Value → H) (F : Stop.Interp) :
    ReturnsInHanded {} Try.checked os 9 .any ((Rows.OpenSpec.upto Rows.cutproofSoundSpec).pre6 enc Try.prog Try.f9 Rows.cutproofSoundUptoRow.domain false) (((Rows.OpenSpec.upto Rows.cutproofSoundSpec).at F).post enc Try.prog Try.f9 false true false false) := by
  refine law_upto (C := Try.checked) (B := 4) F Try.own started (by kernel_rfl) Try.func9
    (OpenSpec.witness (enc := enc) (C := Try.checked) (s := Rows.OpenSpec.upto Rows.cutproofSoundSpec) (k := Rows.uptoSmall) rfl false ⟨#[], #[.slice none 0 0, .agg #[.slice none 0 0, .slice none 0 0, .bool false, .slice none 0 0, .slice none 0 0], .slice none 0 0], []⟩ 8 (by kernel_rfl) (by kernel_rfl) (by kernel_rfl)
      (x := ([.nil, .agg [.nil, .nil, .agg [.lit (.bool false), .nil], .nil], .nil], [], [])) (by kernel_rfl) rfl (by kernel_rfl))
    Try.laidOut (by kernel_rfl) rfl rfl rfl Try.underlying4 (fun ds h => match ds, h with | [_, _, _], _ => rfl) ?_
  intro W base args ds ps hval hA hlt hsz hk
  rw [Try.params9] at hA hval hsz
  obtain ⟨v0, vs0, d0, ds0, p0, q0, hargs, rfl, rfl, h0, r0⟩ := trodAll_cons hA
  obtain ⟨v1, vs1, d1, ds1, p1, q1, rfl, rfl, rfl, h1, r1⟩ := trodAll_cons r0
  obtain ⟨v2, vs2, d2, ds2, p2, q2, rfl, rfl, rfl, h2, r2⟩ := trodAll_cons r1
  obtain ⟨rfl, rfl, rfl⟩ := trodAll_nil r2
  obtain rfl : args = #[v0, v1, v2] := by cases args; simp_all
  obtain ⟨A0, n0, c0, Q0, rfl, k0, l0, g0⟩ := open_iqs (hval 0 30 v0 rfl rfl) h0 (fun x hx => hlt x (by simp [hx])) hsz (j := 0) rfl rfl
  obtain ⟨x1, rfl, k1⟩ := open_pf (hval 1 52 v1 rfl rfl) h1 (fun x hx => hlt x (by simp [hx])) hsz (j := 1) rfl rfl
  obtain ⟨A2, n2, c2, L2, rfl, k2⟩ := open_bigs (hval 2 42 v2 rfl rfl) h2 (fun x hx => hlt x (by simp [hx])) hsz (j := 2) rfl rfl
  have u1 := Nat.le_trans (open_pf_bulk k1 h1) (bulk_bound hk (by simp))
  exact cutproofSound_walk A0 n0 c0 Q0 x1 A2 n2 c2 L2 W k0 l0 g0 k1 k2 u1

theorem cutproofSound_over : Rows.cutproofSoundUptoRow.holds Try.pinned (Rows.OpenSpec.upto Rows.cutproofSoundSpec) :=
  OpenClaim.holds_of_cond 9 Try.f9 rfl rfl rfl rfl rfl rfl rfl ⟨rfl, rfl, rfl, rfl, rfl⟩ rfl rfl rfl rfl rfl (by kernel_rfl) Try.func9 (by kernel_rfl)
    (of_decide_eq_true (by kernel_rfl)) (by unfold Func.isWrapper; first | (rw [if_pos (by decide +kernel)]; kernel_rfl) | (rw [if_neg (by decide +kernel)]; exact ⟨rfl, rfl⟩))
    (fun os started H enc _ F => cutproofSound_lifted os started H enc F)

theorem cutproofSound_proved : Rows.CutproofSoundUptoSaid := cutproofSound_over
end Go.Proofs.Ythfolccofjaknaa
