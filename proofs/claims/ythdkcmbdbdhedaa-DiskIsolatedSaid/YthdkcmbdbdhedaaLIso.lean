/- Law DiskIsolated: for every input the call returns true, and its arguments read afterwards as before. -/
import Derived.Test.YthdkcmbdbdhedaaSme
namespace Go.Proofs.Ythdkcmbdbdhedaa
open Go.ChangeShapes Go.WideShapes Go.ChangeAt Go.RowKit Go.ChangeMaps

set_option maxRecDepth 100000 in
set_option maxHeartbeats 2000000 in
theorem diskIsolated_walk (A : Option Addr) (n c : Nat) (L : List OpM) (D : Option Addr) (m d : Nat) (l : List UInt8) (w : World) (hr : OpsAt w A n L) (hn : n ≤ 9223372036854775807) (hd : BytesAt w D m l) (hm : m ≤ d) (hdd : d ≤ 9223372036854775807) :
    Calls Try.prog 8 #[.slice A n c, .slice D m d] w fun e w' => e = .returned (.bool true) ∧ Below w.heap.size w w' := by
  have HO := Lib.hid hr
  have HI := Lib.hid hd
  clear hr hd
  go_enter Try.func8, Try.ntmps8
  go_wp2_with fail
  refine (awake_any _).mono ?_
  rintro e w1 ⟨rfl, hb⟩
  have HW := Lib.hid hb
  clear hb
  rcases hfew : fewM L with _ | _
  · go_wp2_with fail
    refine (few_any w1 A n c L (HO.out.below HW.out) hn false hfew).mono ?_
    rintro e w2 ⟨rfl, hb⟩
    replace HW := Lib.hid (HW.out.trans (hb.mono HW.out.size))
    clear hb
    go_wp2_with fail
    refine (awake_any _).mono ?_
    rintro e w5 ⟨rfl, hb⟩
    replace HW := Lib.hid (HW.out.trans (hb.mono HW.out.size))
    clear hb
    go_wp2
    go_ret
    exact ⟨rfl, HW.out⟩
  · go_wp2_with fail
    refine (few_any w1 A n c L (HO.out.below HW.out) hn true hfew).mono ?_
    rintro e w2 ⟨rfl, hb⟩
    replace HW := Lib.hid (HW.out.trans (hb.mono HW.out.size))
    clear hb
    by_cases h64 : 64 < m
    · have h64' : (64 : Int) < (m : Int) := by omega
      go_wp2_with fail
      refine (awake_any _).mono ?_
      rintro e w5 ⟨rfl, hb⟩
      replace HW := Lib.hid (HW.out.trans (hb.mono HW.out.size))
      clear hb
      go_wp2
      go_ret
      exact ⟨rfl, HW.out⟩
    · have h64' : ¬ (64 : Int) < (m : Int) := by omega
      go_wp2_with fail
      refine (run_any w2 A n c L (HO.out.below HW.out) hn hfew).mono ?_
      rintro e w3 ⟨p, q, r, t, s, rfl, hM, hR4, hx, hF, hb⟩
      have HD := Lib.hid hM.d
      have HF := Lib.hid (show ∀ k, PQ p q k → w.heap.size ≤ k from fun k hk => Nat.le_trans HW.out.size (hF k (F4_pq hk)))
      have HX := Lib.hid hx
      replace HW := Lib.hid (HW.out.trans (hb.mono HW.out.size))
      clear hM hF hb hx
      go_wp2_with fail
      refine (Restart_any w3 p q s HD.out).mono ?_
      rintro e w4 ⟨rfl, hd, hc⟩
      replace HD := Lib.hid hd
      replace HW := Lib.hid (hc.below HW.out HF.out HW.out.size)
      clear hd hc
      go_wp2_with fail
      refine (Arm_any w4 p q _ HD.out 0 0 (by decide)).mono ?_
      rintro e w5 ⟨rfl, hd, hc⟩
      obtain ⟨s2, hs2, hf2, ha2, hR2, hx2⟩ : ∃ s2, s.Re.Ar 0 0 = s2 ∧ s2.f = false ∧ s2.a = 0 ∧ s2.R.length = 4 ∧ s2.x ≤ 60 := ⟨_, rfl, rfl, rfl, hR4, HX.out⟩
      rw [hs2] at hd
      replace HD := Lib.hid hd
      replace HW := Lib.hid (hc.below HW.out HF.out HW.out.size)
      clear hd hc hs2 hR4
      go_wp2_with fail
      refine (sector_any w5 D m d l (HI.out.below HW.out) (by omega)).mono ?_
      rintro e w6 ⟨rfl, hk, hb⟩
      have hg0 : ¬ PQ p q w5.heap.size := HD.out.fresh (Nat.le_refl _)
      have hgw : w.heap.size ≤ w5.heap.size := HW.out.size
      replace HD := Lib.hid (HD.out.below hb)
      replace HW := Lib.hid (HW.out.trans (hb.mono HW.out.size))
      have HK := Lib.hid hk
      clear hk hb
      generalize w5.heap.size = g at *
      have CW := Lib.hid (Write_zero w6 p q s2 HD.out hf2 ha2 (by omega) 3 (by omega) _ 64 (sec64 l) (ba_of_blk (n := 64) HK.out (sec64_len _) hg0) (Nat.le_refl _))
      go_wp2_with fail
      refine CW.out.mono ?_
      rintro e w7 ⟨rfl, hd, hc⟩
      replace HD := Lib.hid hd
      replace HW := Lib.hid (hc.below HW.out HF.out HW.out.size)
      replace HK := Lib.hid (HK.out.chg hc hg0)
      have HG3 : Hid ((s2.R.set 3 (sec64 l)).getD 3 [] = sec64 l) := Lib.hid (by rw [List.getD_eq_getElem?_getD, List.getElem?_set_self (by omega)]; rfl)
      have HR3 : Hid (3 < (s2.R.set 3 (sec64 l)).length) := Lib.hid (by simp; omega)
      clear hd hc CW
      obtain ⟨x0, hx0⟩ : ∃ x0 : UInt8, w7.cell? ⟨g, 0, none⟩ = some (.int .u8 (x0.toNat : Int)) := ⟨_, by rw [HK.out.cell, List.getElem?_toArray, bc_at _ 0 (by rw [sec64_len]; decide)]⟩
      have hf0 : w7.frozen? ⟨g, 0, none⟩ = false := Joins.unfrozen_of_block HK.out 0
      have hx1 : x0.toNat < 256 := x0.toNat_lt
      have HS : Hid (∀ u, Dk (w7.setCell ⟨g, 0, none⟩ u) p q { s2 with R := s2.R.set 3 (sec64 l), a := s2.a - 1, x := s2.x + 1 } ∧ Below w.heap.size w (w7.setCell ⟨g, 0, none⟩ u)) := Lib.hid (fun u => by
        have hcc : Chg (fun b => b = g) w7 (w7.setCell ⟨g, 0, none⟩ u) := (Chg.refl _ _).set_ rfl
        exact ⟨HD.out.chg hcc (fun e => hg0 (.inl e.symm)) (fun e => hg0 (.inr e.symm)), hcc.below HW.out (fun b e => by rw [e]; exact hgw) HW.out.size⟩)
      clear HK
      go_wp2_with fail
      obtain ⟨hd8, hw8⟩ := HS.out (.int .u8 (((x0.toNat : Int) + 1) % 256))
      replace HD := Lib.hid hd8
      replace HW := Lib.hid hw8
      clear hd8 hw8 HS hx0 hf0
      generalize w7.setCell ⟨g, 0, none⟩ (.int .u8 (((x0.toNat : Int) + 1) % 256)) = w8 at *
      have CR := Lib.hid (Read_ok w8 p q _ HD.out hf2 3 HR3.out)
      refine CR.out.mono ?_
      rintro e w9 ⟨g2, rfl, hg2, hk2, hb2⟩
      have hgp : ¬ PQ p q g2 := HD.out.fresh hg2
      have hgw2 : w.heap.size ≤ g2 := Nat.le_trans HW.out.size hg2
      replace HD := Lib.hid (HD.out.below hb2)
      replace HW := Lib.hid (HW.out.trans (hb2.mono HW.out.size))
      rw [show ({ s2 with R := s2.R.set 3 (sec64 l), a := s2.a - 1, x := s2.x + 1 } : St).R.getD 3 [] = sec64 l from HG3.out] at hk2
      have HK2 := Lib.hid hk2
      clear hk2 hb2 hg2 CR
      go_wp2_with fail
      refine (sector_any w9 D m d l (HI.out.below HW.out) (by omega)).mono ?_
      rintro e w10 ⟨rfl, hk, hb⟩
      have hgn : g2 < w9.heap.size := HK2.out.lt
      replace HD := Lib.hid (HD.out.below hb)
      replace HW := Lib.hid (HW.out.trans (hb.mono HW.out.size))
      replace HK2 := Lib.hid (HK2.out.below hb)
      have CS := Lib.hid (Same_any w10 (some ⟨g2, 0, none⟩) (some ⟨w9.heap.size, 0, none⟩) 64 64 64 64 _ _ (bytes_of_blk HK2.out (sec64_len _)) (bytes_of_blk hk (sec64_len _)) true (by simp))
      clear hk hb
      go_wp2_with fail
      refine CS.out.mono ?_
      rintro e w11 ⟨rfl, rfl⟩
      clear CS
      obtain ⟨x1, hx1'⟩ : ∃ x1 : UInt8, w10.cell? ⟨g2, 63, none⟩ = some (.int .u8 (x1.toNat : Int)) := ⟨_, by rw [HK2.out.cell, List.getElem?_toArray, bc_at _ 63 (by rw [sec64_len]; decide)]⟩
      have hf1 : w10.frozen? ⟨g2, 63, none⟩ = false := Joins.unfrozen_of_block HK2.out 63
      have hx2' : x1.toNat < 256 := x1.toNat_lt
      have HS : Hid (∀ u, Dk (w10.setCell ⟨g2, 63, none⟩ u) p q { s2 with R := s2.R.set 3 (sec64 l), a := s2.a - 1, x := s2.x + 1 } ∧ Below w.heap.size w (w10.setCell ⟨g2, 63, none⟩ u)) := Lib.hid (fun u => by
        have hcc : Chg (fun b => b = g2) w10 (w10.setCell ⟨g2, 63, none⟩ u) := (Chg.refl _ _).set_ rfl
        exact ⟨HD.out.chg hcc (fun e => hgp (.inl e.symm)) (fun e => hgp (.inr e.symm)), hcc.below HW.out (fun b e => by rw [e]; exact hgw2) HW.out.size⟩)
      clear HK2
      go_wp2_with fail
      obtain ⟨hd8, hw8⟩ := HS.out (.int .u8 (((x1.toNat : Int) + 1) % 256))
      replace HD := Lib.hid hd8
      replace HW := Lib.hid hw8
      clear hd8 hw8 HS hx1' hf1
      generalize w10.setCell ⟨g2, 63, none⟩ (.int .u8 (((x1.toNat : Int) + 1) % 256)) = w12 at *
      have CR := Lib.hid (Read_ok w12 p q _ HD.out hf2 3 HR3.out)
      refine CR.out.mono ?_
      rintro e w13 ⟨g3, rfl, hg3, hk3, hb3⟩
      replace HW := Lib.hid (HW.out.trans (hb3.mono HW.out.size))
      rw [show ({ s2 with R := s2.R.set 3 (sec64 l), a := s2.a - 1, x := s2.x + 1 } : St).R.getD 3 [] = sec64 l from HG3.out] at hk3
      have HK3 := Lib.hid hk3
      clear hk3 hb3 hg3 CR
      go_wp2_with fail
      refine (sector_any w13 D m d l (HI.out.below HW.out) (by omega)).mono ?_
      rintro e w14 ⟨rfl, hk, hb⟩
      replace HW := Lib.hid (HW.out.trans (hb.mono HW.out.size))
      have CS := Lib.hid (Same_any w14 (some ⟨g3, 0, none⟩) (some ⟨w13.heap.size, 0, none⟩) 64 64 64 64 _ _ (bytes_of_blk (HK3.out.below hb) (sec64_len _)) (bytes_of_blk hk (sec64_len _)) true (by simp))
      clear hk hb
      go_wp2_with fail
      refine CS.out.mono ?_
      rintro e w15 ⟨rfl, rfl⟩
      go_wp2
      go_ret
      exact ⟨rfl, HW.out⟩

set_option maxRecDepth 100000 in
theorem diskIsolated_lifted (os : Os) (started : os.Started) (H : Type) (enc : TypeId × Value → H) :
    ReturnsInHanded {} Try.checked os 8 .any (Rows.diskIsolatedSpec.pre6 enc Try.prog Try.f8 Rows.diskIsolatedRow.domain false) (Rows.diskIsolatedSpec.post enc Try.prog Try.f8 false true false false) := by
  refine law_lifted (C := Try.checked) (B := 4) Try.own started (by kernel_rfl) Try.func8
    (ChangeSpec.witness6 (enc := enc) (C := Try.checked) false ⟨#[], #[.slice none 0 0, .slice none 0 0], []⟩ 8 (by kernel_rfl) (by kernel_rfl) (by kernel_rfl) (by kernel_rfl))
    Try.laidOut (by kernel_rfl) rfl rfl rfl Try.underlying4 (fun ds h => match ds, h with | [_, _], _ => rfl) ?_
  intro W base args ds ps hval hA hlt hsz
  rw [Try.params8] at hA hval hsz
  obtain ⟨v0, vs0, d0, ds0, p0, q0, hargs, rfl, rfl, h0, r0⟩ := trodAll_cons hA
  obtain ⟨v1, vs1, d1, ds1, p1, q1, rfl, rfl, rfl, h1, r1⟩ := trodAll_cons r0
  obtain ⟨rfl, rfl, rfl⟩ := trodAll_nil r1
  obtain rfl : args = #[v0, v1] := by cases args; simp_all
  obtain ⟨A0, n0, c0, R0, rfl, k0, l0⟩ := open_Ops (hval 0 22 v0 rfl rfl) h0 (fun x hx => hlt x (by simp [hx]))
  obtain ⟨A1, n1, c1, R1, rfl, k1, l1, g1⟩ := open_bytesA (hval 1 34 v1 rfl rfl) h1 (fun x hx => hlt x (by simp [hx]))
  exact diskIsolated_walk A0 n0 c0 R0 A1 n1 c1 R1 W k0 l0 k1 l1 g1

theorem diskIsolated_over : Rows.diskIsolatedRow.holds Try.pinned (OpenSpec.ofChange Rows.diskIsolatedSpec) :=
  OpenClaim.holds_of_wide 8 Try.f8 rfl rfl rfl rfl rfl rfl rfl ⟨rfl, rfl, rfl, rfl, rfl⟩ rfl rfl rfl rfl rfl (by kernel_rfl) Try.func8 (by kernel_rfl)
    (of_decide_eq_true (by kernel_rfl)) (by unfold Func.isWrapper; first | (rw [if_pos (by decide +kernel)]; kernel_rfl) | (rw [if_neg (by decide +kernel)]; exact ⟨rfl, rfl⟩))
    (fun os started H enc _ => diskIsolated_lifted os started H enc)

theorem diskIsolated_proved : Rows.DiskIsolatedSaid := diskIsolated_over
end Go.Proofs.Ythdkcmbdbdhedaa
