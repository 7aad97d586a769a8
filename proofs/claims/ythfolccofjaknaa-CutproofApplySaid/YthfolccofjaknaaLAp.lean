/- Law CutproofApply: for every input the call returns true, and its arguments read afterwards as before. -/
import Derived.Test.YthfolccofjaknaaCop
import Derived.Test.YthfolccofjaknaaCrc
import Derived.Test.YthfolccofjaknaaMA
namespace Go.Proofs.Ythfolccofjaknaa
open Go.ChangeShapes Go.WideShapes Go.ChangeAt Go.RowKit Go.ChangeMaps

theorem IqN.wide {w : World} {q : Iq} {K K' : Nat} (h : IqN w q K) (hK : K ≤ K') : IqN w q K' := ⟨⟨h.1.1, h.1.2.1, fun b hb => BG.mono (h.1.2.2 b hb) hK⟩, fun b hb => (h.2.1 b hb).mono (Nat.le_refl _) hK, h.2.2.mono (Nat.le_refl _) hK⟩
set_option maxRecDepth 100000 in
set_option maxHeartbeats 4000000 in
theorem cutproofApply_walk (A : Option Addr) (n c : Nat) (Q : List Iq) (s : Sp) (w : World) (k0 : Ineqs w A n Q NM) (_ : n ≤ c) (_ : c * 56 ≤ 140737488351232) (kS : s.ok w NM) :
    Calls Try.prog 4 #[.slice A n c, s.val] w fun e w' => e = .returned (.bool true) ∧ Below w.heap.size w w' := by
  obtain ⟨sA, sn, sc, U, sd⟩ := s
  have HS := Lib.hid kS
  clear kS
  unfold Sp.val
  dsimp only
  have HK := Lib.hid k0
  clear k0
  obtain ⟨kx, hkx⟩ : ∃ kx, kx = w.heap.size := ⟨_, rfl⟩
  obtain ⟨W1, hW1⟩ : ∃ W1, W1 = w.alloc (.cells #[.slice sA sn sc, .bool sd.neg, .slice sd.A sd.n sd.c] 39) := ⟨_, rfl⟩
  have HB1 := Lib.hid (show Below w.heap.size w W1 by rw [hW1]; exact (Below.refl _ _).alloc (Nat.le_refl _) _)
  have KX := Lib.hid (show Blk W1 kx 39 #[.slice sA sn sc, .bool sd.neg, .slice sd.A sd.n sd.c] by rw [hW1]; exact Blk.new_ hkx rfl)
  go_enter Try.func4, Try.ntmps4
  go_wp2_with fail
  rw [← hkx, ← hW1]
  clear hkx hW1
  refine (awake_any W1).mono ?_
  rintro e2 w2 ⟨rfl, hb2⟩
  have HB2 := Lib.hid (HB1.out.trans (hb2.mono HB1.out.size))
  have KX2 := Lib.hid (KX.out.below hb2)
  clear hb2 HB1 KX
  have CS := Lib.hid (Small_any w2 A n c Q NM (HK.out.below HB2.out))
  obtain ⟨sm, hsm⟩ : ∃ x, smQ Q = x := ⟨_, rfl⟩
  rw [hsm] at CS
  have HSM := Lib.hid hsm
  clear hsm
  go_wp2_with fail
  refine CS.out.mono ?_
  rintro e5 w5 ⟨rfl, hb5⟩
  have HB5 := Lib.hid (HB2.out.trans (hb5.mono HB2.out.size))
  have KX5 := Lib.hid (KX2.out.below hb5)
  clear hb5 CS HB2 KX2
  cases sm with
  | false =>
    go_wp2_with fail
    refine (awake_any _).mono ?_
    rintro e9 w9 ⟨rfl, hb9⟩
    have HB9 := Lib.hid (HB5.out.trans (hb9.mono HB5.out.size))
    clear hb9
    go_wp2
    go_ret
    exact ⟨rfl, HB9.out⟩
  | true =>
    have HLS := Lib.hid (HK.out.small HSM.out)
    have hn12 : n ≤ 12 := HLS.out.2.1
    clear HSM HK
    have s0 : w5.cell? ⟨kx, 0, none⟩ = some (.slice sA sn sc) := KX5.out.cell 0
    have s1 : w5.cell? ⟨kx, 1, none⟩ = some (.bool sd.neg) := KX5.out.cell 1
    have s2 : w5.cell? ⟨kx, 2, none⟩ = some (.slice sd.A sd.n sd.c) := KX5.out.cell 2
    have CS := Lib.hid (SmallStep_any w5 ⟨sA, sn, sc, U, sd⟩ NM (HS.out.below HB5.out))
    obtain ⟨st, hst⟩ : ∃ x, smU U sd = x := ⟨_, rfl⟩
    dsimp only at CS
    rw [hst] at CS
    have HST := Lib.hid hst
    unfold Sp.val at CS
    dsimp only at CS
    clear hst
    go_wp2_with fail
    clear s0 s1 s2
    refine CS.out.mono ?_
    rintro e6 w6 ⟨rfl, hb6⟩
    have HB6 := Lib.hid (HB5.out.trans (hb6.mono HB5.out.size))
    have KX6 := Lib.hid (KX5.out.below hb6)
    clear hb6 CS HB5 KX5
    cases st with
    | false =>
      go_wp2_with fail
      refine (awake_any _).mono ?_
      rintro e9 w9 ⟨rfl, hb9⟩
      have HB9 := Lib.hid (HB6.out.trans (hb9.mono HB6.out.size))
      clear hb9
      go_wp2
      go_ret
      exact ⟨rfl, HB9.out⟩
    | true =>
      have HSS := Lib.hid (HS.out.small HST.out)
      have hsn : sn ≤ 12 := HSS.out.2
      obtain ⟨r, hr⟩ : ∃ r, (if sysM (Q.map Iq.m) = true then applyM (Q.map Iq.m) (U.map Us.m) sd.z else none) = r := ⟨_, rfl⟩
      have HR := Lib.hid hr
      clear hr
      have s0 : w6.cell? ⟨kx, 0, none⟩ = some (.slice sA sn sc) := KX6.out.cell 0
      have s1 : w6.cell? ⟨kx, 1, none⟩ = some (.bool sd.neg) := KX6.out.cell 1
      have s2 : w6.cell? ⟨kx, 2, none⟩ = some (.slice sd.A sd.n sd.c) := KX6.out.cell 2
      have CA := Lib.hid (Apply_any w6 A n c Q 4 (HLS.out.1.below HB6.out) (fun q hq => by have := HLS.out.2.2 q hq; omega) ⟨sA, sn, sc, U, sd⟩ 4 (HSS.out.1.below HB6.out) (by decide) (by decide) (by dsimp only; omega))
      dsimp only at CA
      rw [HR.out] at CA
      unfold Sp.val at CA
      dsimp only at CA
      go_wp2_with fail
      clear s0 s1 s2
      refine CA.out.mono ?_
      rintro e7 w7 ⟨hb7, hno, hyes⟩
      have HB7 := Lib.hid (HB6.out.trans (hb7.mono HB6.out.size))
      have KX7 := Lib.hid (KX6.out.below hb7)
      obtain ⟨q, ok, rfl, HQ⟩ : ∃ (q : Iq) (ok : Bool), e7 = .returned (.tuple #[q.val, .bool ok]) ∧ (IqN w7 q 9 ∧ (r = none → ok = false ∧ q.m = ([], 0)) ∧ (∀ m, r = some m → ok = true ∧ q.m = m)) := by
        cases r with
        | none => exact ⟨⟨none, 0, 0, [], Bg.zero⟩, false, hno rfl, (IqN.zero w7).wide (Nat.zero_le _), fun _ => ⟨rfl, rfl⟩, fun m h => by cases h⟩
        | some m =>
          obtain ⟨q, e, hm, hio⟩ := hyes m rfl
          exact ⟨q, true, e, hio.nrm, (fun h => by cases h), fun m' h => by injection h with h; exact ⟨rfl, hm.trans h⟩⟩
      have HQN := Lib.hid HQ
      clear hb7 CA hno hyes HQ
      obtain ⟨QA, qn, qc, L, qb⟩ := q
      unfold Iq.val
      dsimp only
      obtain ⟨W8, hW8⟩ : ∃ W8, W8 = w7.alloc (.cells #[.slice QA qn qc, .bool qb.neg, .slice qb.A qb.n qb.c] 44) := ⟨_, rfl⟩
      obtain ⟨k8, hk8⟩ : ∃ k8, k8 = w7.heap.size := ⟨_, rfl⟩
      have hb8 : Below w7.heap.size w7 W8 := by rw [hW8]; exact (Below.refl _ _).alloc (Nat.le_refl _) _
      have HB8 := Lib.hid (HB7.out.trans (hb8.mono HB7.out.size))
      have KX8 := Lib.hid (KX7.out.below hb8)
      have HQ8 := Lib.hid (HQN.out.1.below hb8)
      have K8 := Lib.hid (show Blk W8 k8 44 #[.slice QA qn qc, .bool qb.neg, .slice qb.A qb.n qb.c] by rw [hW8]; exact Blk.new_ hk8 rfl)
      clear hb8
      go_upto_region 4 with fail
      rw [← hk8, ← hW8]
      clear hk8 hW8
      have s0 : W8.cell? ⟨kx, 0, none⟩ = some (.slice sA sn sc) := KX8.out.cell 0
      have s1 : W8.cell? ⟨kx, 1, none⟩ = some (.bool sd.neg) := KX8.out.cell 1
      have s2 : W8.cell? ⟨kx, 2, none⟩ = some (.slice sd.A sd.n sd.c) := KX8.out.cell 2
      have CA := Lib.hid (RApply_any W8 A n c Q 4 (HLS.out.1.below HB8.out) (fun q hq => by have := HLS.out.2.2 q hq; omega) ⟨sA, sn, sc, U, sd⟩ 4 (HSS.out.1.below HB8.out) (by decide) (by dsimp only; omega))
      dsimp only at CA
      rw [HR.out] at CA
      unfold Sp.val at CA
      dsimp only at CA
      go_wp2_with fail
      clear s0 s1 s2
      refine CA.out.mono ?_
      rintro e9 w9 ⟨hb9, hno, hyes⟩
      have HB9 := Lib.hid (HB8.out.trans (hb9.mono HB8.out.size))
      have K89 := Lib.hid (K8.out.below hb9)
      have HQ9 := Lib.hid (HQ8.out.below hb9)
      obtain ⟨p, ok2, rfl, HP⟩ : ∃ (q : Iq) (ok : Bool), e9 = .returned (.tuple #[q.val, .bool ok]) ∧ (IqN w9 q 9 ∧ (r = none → ok = false ∧ q.m = ([], 0)) ∧ (∀ m, r = some m → ok = true ∧ q.m = m)) := by
        cases r with
        | none => exact ⟨⟨none, 0, 0, [], Bg.zero⟩, false, hno rfl, (IqN.zero w9).wide (Nat.zero_le _), fun _ => ⟨rfl, rfl⟩, fun m h => by cases h⟩
        | some m =>
          obtain ⟨q, e, hm, hio⟩ := hyes m rfl
          exact ⟨q, true, e, hio.nrm, (fun h => by cases h), fun m' h => by injection h with h; exact ⟨rfl, hm.trans h⟩⟩
      have HPN := Lib.hid HP
      clear hb9 CA hno hyes HP
      have HOK := Lib.hid (show ok2 = ok ∧ Iq.m ⟨QA, qn, qc, L, qb⟩ = p.m from by
        cases r with
        | none => exact ⟨(HPN.out.2.1 rfl).1.trans (HQN.out.2.1 rfl).1.symm, (HQN.out.2.1 rfl).2.trans (HPN.out.2.1 rfl).2.symm⟩
        | some m => exact ⟨(HPN.out.2.2 m rfl).1.trans (HQN.out.2.2 m rfl).1.symm, (HQN.out.2.2 m rfl).2.trans (HPN.out.2.2 m rfl).2.symm⟩)
      obtain rfl := HOK.out.1
      have HPM := Lib.hid HOK.out.2
      clear HOK
      obtain ⟨PA, pn, pc, L2, pb⟩ := p
      unfold Iq.val
      dsimp only
      obtain ⟨W10, hW10⟩ : ∃ W, W = w9.alloc (.cells #[.slice PA pn pc, .bool pb.neg, .slice pb.A pb.n pb.c] 44) := ⟨_, rfl⟩
      obtain ⟨k10, hk10⟩ : ∃ k, k = w9.heap.size := ⟨_, rfl⟩
      have hb10 : Below w9.heap.size w9 W10 := by rw [hW10]; exact (Below.refl _ _).alloc (Nat.le_refl _) _
      have HB10 := Lib.hid (HB9.out.trans (hb10.mono HB9.out.size))
      have K810 := Lib.hid (K89.out.below hb10)
      have K10 := Lib.hid (show Blk W10 k10 44 #[.slice PA pn pc, .bool pb.neg, .slice pb.A pb.n pb.c] by rw [hW10]; exact Blk.new_ hk10 rfl)
      have CE := Lib.hid (RSame_any W10 ⟨QA, qn, qc, L, qb⟩ ⟨PA, pn, pc, L2, pb⟩ 9 (HQ9.out.below hb10) (HPN.out.1.below hb10) HPM.out (by decide))
      unfold Iq.val at CE
      dsimp only at CE
      clear hb10
      have hbb : (ok2 == ok2) = true := by cases ok2 <;> rfl
      go_upto_region 5 with fail
      rw [← hk10, ← hW10]
      clear hk10 hW10
      have q0 : W10.cell? ⟨k8, 0, none⟩ = some (.slice QA qn qc) := K810.out.cell 0
      have q1 : W10.cell? ⟨k8, 1, none⟩ = some (.bool qb.neg) := K810.out.cell 1
      have q2 : W10.cell? ⟨k8, 2, none⟩ = some (.slice qb.A qb.n qb.c) := K810.out.cell 2
      have p0 : W10.cell? ⟨k10, 0, none⟩ = some (.slice PA pn pc) := K10.out.cell 0
      have p1 : W10.cell? ⟨k10, 1, none⟩ = some (.bool pb.neg) := K10.out.cell 1
      have p2 : W10.cell? ⟨k10, 2, none⟩ = some (.slice pb.A pb.n pb.c) := K10.out.cell 2
      go_wp2_with fail
      clear q0 q1 q2 p0 p1 p2
      refine CE.out.mono ?_
      rintro e11 w11 ⟨rfl, hb11⟩
      have HB11 := Lib.hid (HB10.out.trans (hb11.mono HB10.out.size))
      clear hb11 CE
      go_wp2
      go_ret
      exact ⟨rfl, HB11.out⟩

set_option maxRecDepth 100000 in
theorem cutproofApply_lifted (os : Os) (started : os.Started) (H : Type) (enc : TypeId × Value → H) :
    ReturnsInHanded {} Try.checked os 4 .any (Rows.cutproofApplySpec.pre6 enc Try.prog Try.f4 Rows.cutproofApplyRow.domain false) (Rows.cutproofApplySpec.post enc Try.prog Try.f4 false true false false) := by
  refine law_lifted (C := Try.checked) (B := 4) Try.own started (by kernel_rfl) Try.func4
    (ChangeSpec.witness6 (enc := enc) (C := Try.checked) false ⟨#[], #[.slice none 0 0, .agg #[.slice none 0 0, .bool false, .slice none 0 0]], []⟩ 8 (by kernel_rfl) (by kernel_rfl) (by kernel_rfl) (by kernel_rfl))
    Try.laidOut (by kernel_rfl) rfl rfl rfl Try.underlying4 (fun ds h => match ds, h with | [_, _], _ => rfl) ?_
  intro W base args ds ps hval hA hlt hsz
  rw [Try.params4] at hA hval hsz
  obtain ⟨v0, vs0, d0, ds0, p0, q0, hargs, rfl, rfl, h0, r0⟩ := trodAll_cons hA
  obtain ⟨v1, vs1, d1, ds1, p1, q1, rfl, rfl, rfl, h1, r1⟩ := trodAll_cons r0
  obtain ⟨rfl, rfl, rfl⟩ := trodAll_nil r1
  obtain rfl : args = #[v0, v1] := by cases args; simp_all
  obtain ⟨A0, n0, c0, Q0, rfl, k0, l0, g0⟩ := open_iqs (hval 0 30 v0 rfl rfl) h0 (fun x hx => hlt x (by simp [hx])) hsz (j := 0) rfl rfl
  obtain ⟨s1, rfl, k1⟩ := open_step (hval 1 39 v1 rfl rfl) h1 (fun x hx => hlt x (by simp [hx])) hsz (j := 1) rfl rfl
  exact cutproofApply_walk A0 n0 c0 Q0 s1 W k0 l0 g0 k1

theorem cutproofApply_over : Rows.cutproofApplyRow.holds Try.pinned (OpenSpec.ofChange Rows.cutproofApplySpec) :=
  OpenClaim.holds_of_wide 4 Try.f4 rfl rfl rfl rfl rfl rfl rfl ⟨rfl, rfl, rfl, rfl, rfl⟩ rfl rfl rfl rfl rfl (by kernel_rfl) Try.func4 (by kernel_rfl)
    (of_decide_eq_true (by kernel_rfl)) (by unfold Func.isWrapper; first | (rw [if_pos (by decide +kernel)]; kernel_rfl) | (rw [if_neg (by decide +kernel)]; exact ⟨rfl, rfl⟩))
    (fun os started H enc _ => cutproofApply_lifted os started H enc)

theorem cutproofApply_proved : Rows.CutproofApplySaid := cutproofApply_over
end Go.Proofs.Ythfolccofjaknaa
