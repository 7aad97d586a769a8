/- Apply over any list. -/
import Derived.Test.YthfolccofjaknaaCch
namespace Go.Proofs.Ythfolccofjaknaa
open Go.ChangeShapes Go.WideShapes Go.ChangeAt Go.RowKit Go.ChangeMaps

theorem IqO.base {w : World} {B B' K : Nat} {q : Iq} (h : IqO w B q K) (hB : B' ≤ B) : IqO w B' q K := by
  refine ⟨h.1, h.2.1, ?_, h.2.2.2.mono hB (Nat.le_refl _)⟩
  rcases h.2.2.1 with hr | ⟨g, e, hr⟩
  · exact .inl hr
  · exact .inr ⟨g, e, hr.mono hB (Nat.le_refl _)⟩
set_option maxRecDepth 100000 in
set_option maxHeartbeats 4000000 in
theorem Apply_any (w : World) (A : Option Addr) (n c : Nat) (Q : List Iq) (Nl : Nat) (hQ : Ineqs w A n Q Nl) (hqn : ∀ q ∈ Q, q.n ≤ 1000000) (s : Sp) (Ns : Nat) (hs : s.ok w Ns) (hNl : Nl ≤ 10000) (hNs : Ns ≤ 10000) (hm : s.n < 4294967296) :
    Calls Try.prog 19 #[.slice A n c, s.val] w (ApP w (if sysM (Q.map Iq.m) = true then applyM (Q.map Iq.m) (s.U.map Us.m) s.d.z else none) (Ns + Nl + 1)) := by
  have HW := Lib.hid (fun (h : sysM (Q.map Iq.m) = true) => sysM_width hQ h)
  obtain ⟨sy, hsy⟩ : ∃ x, sysM (Q.map Iq.m) = x := ⟨_, rfl⟩
  rw [hsy] at HW ⊢
  obtain ⟨r0, hr0⟩ : ∃ x, (if sy = true then applyM (Q.map Iq.m) (s.U.map Us.m) s.d.z else none) = x := ⟨_, rfl⟩
  rw [hr0]
  have HR0 := Lib.hid hr0
  clear hr0
  have HSY := Lib.hid hsy
  have HL := Lib.hid hQ.len
  have HQ := Lib.hid hQ
  have HS := Lib.hid hs
  have HQN := Lib.hid hqn
  clear hsy hQ hs hqn
  obtain ⟨k3, hk3⟩ : ∃ k3, k3 = w.heap.size := ⟨_, rfl⟩
  obtain ⟨k4, hk4⟩ : ∃ k4, k4 = k3 + 1 := ⟨_, rfl⟩
  obtain ⟨W1, hW1⟩ : ∃ W1, W1 = (w.alloc (.cells #[.slice s.A s.n s.c, .bool s.d.neg, .slice s.d.A s.d.n s.d.c] 39)).alloc (.cells #[.slice none 0 0, .bool false, .slice none 0 0] 44) := ⟨_, rfl⟩
  have HB := Lib.hid (show Below w.heap.size w W1 by rw [hW1]; exact ((Below.refl _ _).alloc (Nat.le_refl _) _).alloc (by simp) _)
  have KA := Lib.hid (show Blk W1 k3 39 #[.slice s.A s.n s.c, .bool s.d.neg, .slice s.d.A s.d.n s.d.c] by rw [hW1, hk3]; exact (Blk.new _ _ _).alloc _)
  have KB := Lib.hid (show Blk W1 k4 44 #[.slice none 0 0, .bool false, .slice none 0 0] by rw [hW1]; exact Blk.new_ (by rw [hk4, hk3]; simp) rfl)
  have hk4w : w.heap.size ≤ k4 := by omega
  have hk43 : k4 = k3 + 1 := hk4
  have CS := Lib.hid (isSystem_any W1 A n c Q Nl (HQ.out.below HB.out))
  rw [HSY.out] at CS
  unfold Sp.val
  go_enter Try.func19, Try.ntmps19
  go_upto_region 1 with fail
  rw [← hk3]
  try rw [← hk43]
  rw [← hW1]
  clear hk3 hk4 hk43 hW1
  go_wp2_with fail
  refine CS.out.mono ?_
  rintro e3 w3 ⟨rfl, hb3⟩
  have HB3 := Lib.hid (HB.out.trans (hb3.mono HB.out.size))
  have KA3 := Lib.hid (KA.out.below hb3)
  have KB3 := Lib.hid (KB.out.below hb3)
  clear hb3 CS KA KB HB
  cases sy with
  | false =>
    have b0 : w3.cell? ⟨k4, 0, none⟩ = some (.slice none 0 0) := KB3.out.cell 0
    have b1 : w3.cell? ⟨k4, 1, none⟩ = some (.bool false) := KB3.out.cell 1
    have b2 : w3.cell? ⟨k4, 2, none⟩ = some (.slice none 0 0) := KB3.out.cell 2
    have f0 := Joins.unfrozen_of_block KB3.out 0
    have f1 := Joins.unfrozen_of_block KB3.out 1
    have f2 := Joins.unfrozen_of_block KB3.out 2
    have HS3 := Lib.hid (store3 KB3.out (.slice none 0 0) (.bool false) (.slice none 0 0))
    go_wp2
    try simp only [Exit.inBlock, Exit.then]
    refine bodyPost_ret (results_c2 rfl _ _ _ k4 _ rfl (load44 HS3.out.1 rfl)) rfl ?_
    exact ⟨HS3.out.2 _ _ HB3.out hk4w, fun _ => rfl, fun m hm => by have h0 := HR0.out; rw [if_neg (by decide)] at h0; rw [← h0] at hm; cases hm⟩
  | true =>
    have hw := HW.out rfl
    obtain ⟨wd, hwd⟩ : ∃ wd, wd = widthM (Q.map Iq.m) := ⟨_, rfl⟩
    rw [← hwd] at hw
    have CA := Lib.hid (apply_any w3 A n c Q Nl (HQ.out.below HB3.out) wd hw.1 (fun h => hw.2.1 (HL.out.trans h)) (hw.2.2 HQN.out) s Ns (HS.out.below HB3.out) hNl hNs hm)
    unfold Sp.val at CA
    clear hw hwd
    have a0 : w3.cell? ⟨k3, 0, none⟩ = some (.slice s.A s.n s.c) := KA3.out.cell 0
    have a1 : w3.cell? ⟨k3, 1, none⟩ = some (.bool s.d.neg) := KA3.out.cell 1
    have a2 : w3.cell? ⟨k3, 2, none⟩ = some (.slice s.d.A s.d.n s.d.c) := KA3.out.cell 2
    obtain ⟨r, hr⟩ : ∃ r, applyM (Q.map Iq.m) (s.U.map Us.m) s.d.z = r := ⟨_, rfl⟩
    rw [hr] at CA
    have HR := Lib.hid (show r0 = r by have h0 := HR0.out; rw [if_pos rfl, hr] at h0; exact h0.symm)
    clear hr
    go_wp2_with fail
    clear a0 a1 a2
    refine CA.out.mono ?_
    rintro e4 w4 ⟨hb4, hno, hyes⟩
    have HB4 := Lib.hid (HB3.out.trans (hb4.mono HB3.out.size))
    have KB4 := Lib.hid (KB3.out.below hb4)
    have b0 : w4.cell? ⟨k4, 0, none⟩ = some (.slice none 0 0) := KB4.out.cell 0
    have b1 : w4.cell? ⟨k4, 1, none⟩ = some (.bool false) := KB4.out.cell 1
    have b2 : w4.cell? ⟨k4, 2, none⟩ = some (.slice none 0 0) := KB4.out.cell 2
    have f0 := Joins.unfrozen_of_block KB4.out 0
    have f1 := Joins.unfrozen_of_block KB4.out 1
    have f2 := Joins.unfrozen_of_block KB4.out 2
    clear CA hb4
    cases r with
    | none =>
      obtain rfl := hno rfl
      have HS3 := Lib.hid (store3 KB4.out (.slice none 0 0) (.bool false) (.slice none 0 0))
      clear hno hyes
      unfold zeroQ
      go_wp2
      try simp only [Exit.inBlock, Exit.then]
      refine bodyPost_ret (results_c2 rfl _ _ _ k4 _ rfl (load44 HS3.out.1 rfl)) rfl ?_
      exact ⟨HS3.out.2 _ _ HB4.out hk4w, fun _ => rfl, fun m hm => by rw [HR.out] at hm; cases hm⟩
    | some m =>
      obtain ⟨q, rfl, hqm, hqo⟩ := hyes m rfl
      have HQO := Lib.hid ((hqo.base HB3.out.size).store KB4.out (.slice q.A q.n q.c) (.bool q.b.neg) (.slice q.b.A q.b.n q.b.c))
      have HS3 := Lib.hid (store3 KB4.out (.slice q.A q.n q.c) (.bool q.b.neg) (.slice q.b.A q.b.n q.b.c))
      have HQM := Lib.hid hqm
      clear hno hyes hqo hqm
      unfold Iq.val
      go_wp2
      try simp only [Exit.inBlock, Exit.then]
      refine bodyPost_ret (results_c2 rfl _ _ _ k4 _ rfl (load44 HS3.out.1 rfl)) rfl ?_
      refine ⟨HS3.out.2 _ _ HB4.out hk4w, fun e => ?_, fun m' hm => ?_⟩
      · rw [HR.out] at e
        cases e
      · rw [HR.out] at hm
        injection hm with hm
        exact ⟨q, rfl, HQM.out.trans hm, HQO.out⟩
end Go.Proofs.Ythfolccofjaknaa
