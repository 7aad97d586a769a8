/- The check of a proof over any list. -/
import Derived.Test.YthfolccofjaknaaCck
namespace Go.Proofs.Ythfolccofjaknaa
open Go.ChangeShapes Go.WideShapes Go.ChangeAt Go.RowKit Go.ChangeMaps

theorem sysM_width {w : World} {A : Option Addr} {n N : Nat} {Q : List Iq} (h : Ineqs w A n Q N) (hs : sysM (Q.map Iq.m) = true) : (∀ q ∈ Q, q.n = widthM (Q.map Iq.m)) ∧ (Q.length = 0 → widthM (Q.map Iq.m) = 0) ∧ ((∀ q ∈ Q, q.n ≤ 1000000) → widthM (Q.map Iq.m) ≤ 1000000) := by
  refine ⟨fun q hq => ?_, fun h0 => ?_, fun hb => ?_⟩
  · have := List.all_eq_true.1 hs _ (List.mem_map_of_mem hq)
    simp only [decide_eq_true_eq] at this
    rw [← this]
    show q.n = (q.L.map Bg.z).length
    rw [List.length_map, (h.2.2 q hq).1.len]
  · rw [List.eq_nil_of_length_eq_zero h0]
    rfl
  · cases Q with
    | nil => exact Nat.zero_le _
    | cons q Q' =>
      show (q.L.map Bg.z).length ≤ _
      rw [List.length_map, (h.2.2 q List.mem_cons_self).1.len]
      exact hb q List.mem_cons_self
set_option maxRecDepth 100000 in
set_option maxHeartbeats 4000000 in
theorem Check_any (w : World) (A : Option Addr) (n c : Nat) (Q : List Iq) (Nl Ns : Nat) (p : Pf) (hQ : Ineqs w A n Q Nl) (hp : p.ok w Ns) (hqn : ∀ q ∈ Q, q.n ≤ 1000000) (hNs : Ns ≤ Nl) (hlen : n + sizeP p.m ≤ 10000) (hK : Nl + sizeP p.m * (Ns + 3) ≤ 10000) :
    Calls Try.prog 23 #[.slice A n c, p.val] w (Ck w (sysM (Q.map Iq.m) && chk p.m (Q.map Iq.m))) := by
  obtain ⟨sy, hsy⟩ : ∃ x, sysM (Q.map Iq.m) = x := ⟨_, rfl⟩
  have HW := Lib.hid (fun (h : sysM (Q.map Iq.m) = true) => sysM_width hQ h)
  have HSY := Lib.hid hsy
  rw [hsy]
  have HL := Lib.hid hQ.len
  have HQ := Lib.hid hQ
  have HP := Lib.hid hp
  have HQN := Lib.hid hqn
  obtain ⟨x0, x1, x2, x3, x4, hx⟩ : ∃ x0 x1 x2 x3 x4, p.cells = [x0, x1, x2, x3, x4] := by cases p; exact ⟨_, _, _, _, _, rfl⟩
  have hv0 : p.val = .agg #[x0, x1, x2, x3, x4] := by unfold Pf.val; rw [hx]
  have h1c : ∀ x ∈ p.cells, x.oneCell' = true := by
    cases p
    unfold Pf.cells
    intro x hx
    simp only [List.mem_cons, List.not_mem_nil, or_false] at hx
    rcases hx with rfl | rfl | rfl | rfl | rfl <;> rfl
  have HV := Lib.hid hv0
  have HONE := Lib.hid h1c
  rw [hv0]
  obtain ⟨kp, hkp⟩ : ∃ kp, kp = w.heap.size := ⟨_, rfl⟩
  obtain ⟨W1, hW1⟩ : ∃ W1, W1 = w.alloc (.cells #[x0, x1, x2, x3, x4] 52) := ⟨_, rfl⟩
  have HB1 := Lib.hid (show Below w.heap.size w W1 by rw [hW1]; exact (Below.refl _ _).alloc (Nat.le_refl _) _)
  have KP := Lib.hid (show Blk W1 kp 52 #[x0, x1, x2, x3, x4] by rw [hW1]; exact Blk.new_ hkp rfl)
  clear hsy hQ hp hx hv0 h1c hqn
  go_enter Try.func23, Try.ntmps23
  go_upto_region 1 with fail
  rw [← hkp, ← hW1]
  clear hkp hW1
  have c0 : W1.cell? ⟨kp, 0, none⟩ = some x0 := KP.out.cell 0
  have c1 : W1.cell? ⟨kp, 1, none⟩ = some x1 := KP.out.cell 1
  have c2 : W1.cell? ⟨kp, 2, none⟩ = some x2 := KP.out.cell 2
  have c3 : W1.cell? ⟨kp, 3, none⟩ = some x3 := KP.out.cell 3
  have c4 : W1.cell? ⟨kp, 4, none⟩ = some x4 := KP.out.cell 4
  have hb0 : Below W1.heap.size W1 W1.drew := below_drew (Below.refl _ _)
  refine wp_region_mixE (fun w' => Below W1.heap.size W1 w') (by kernel_rfl) ?_
  generalize W1.drew = z0 at hb0 ⊢
  have CS := Lib.hid (isSystem_any z0 A n c Q Nl (HQ.out.below (HB1.out.trans (hb0.mono HB1.out.size))))
  rw [HSY.out] at CS
  refine wpE_take (i := 0) (oi := ⟨some 5, _, _, _, _, _⟩) (v := ?_) rfl (by decide +kernel) (by decide +kernel) (by decide +kernel) (fun _ _ _ h => h) (Or.inl ⟨by rfl, ?_⟩) hb0 ?_
  case refine_2 =>
    intro w' hSw
    skip
    go_simp
    try (with_reducible rfl)
  try simp only [Act.put, List.setIfInBounds_toArray, List.set_cons_zero, List.set_cons_succ]
  refine wpE_step (i := 1) (o := ⟨some 6, _, _, _, _, _⟩) rfl (by decide +kernel) (fun KK hKK => ?_)
  go_simp
  refine CS.out.mono ?_
  rintro e z1 ⟨rfl, hbn⟩
  have hb1 : Below W1.heap.size W1 z1 := hb0.trans (hbn.mono hb0.size)
  clear hbn
  refine hKK.out _ _ hb1 ?_
  clear hKK KK
  try simp only [Act.put, List.setIfInBounds_toArray, List.set_cons_zero, List.set_cons_succ]
  refine wpE_take (i := 2) (oi := ⟨some 7, _, _, _, _, _⟩) (v := ?_) rfl (by decide +kernel) (by decide +kernel) (by decide +kernel) (fun _ _ _ h => h) (Or.inl ⟨by rfl, ?_⟩) hb1 ?_
  case refine_2 =>
    intro w' hSw
    skip
    go_simp
    try (with_reducible rfl)
  try simp only [Act.put, List.setIfInBounds_toArray, List.set_cons_zero, List.set_cons_succ]
  cases sy with
  | false =>
    refine wpE_take (i := 3) (oi := ⟨some 8, _, _, _, _, _⟩) (v := undef) rfl (by decide +kernel) (by decide +kernel) (by decide +kernel) (fun _ _ _ h => h) (Or.inr ⟨by rfl, rfl⟩) hb1 ?_
    try simp only [Act.put, List.setIfInBounds_toArray, List.set_cons_zero, List.set_cons_succ]
    refine wpE_take (i := 4) (oi := ⟨some 9, _, _, _, _, _⟩) (v := undef) rfl (by decide +kernel) (by decide +kernel) (by decide +kernel) (fun _ _ _ h => h) (Or.inr ⟨by rfl, rfl⟩) hb1 ?_
    try simp only [Act.put, List.setIfInBounds_toArray, List.set_cons_zero, List.set_cons_succ]
    refine wpE_take (i := 5) (oi := ⟨some 10, _, _, _, _, _⟩) (v := undef) rfl (by decide +kernel) (by decide +kernel) (by decide +kernel) (fun _ _ _ h => h) (Or.inr ⟨by rfl, rfl⟩) hb1 ?_
    try simp only [Act.put, List.setIfInBounds_toArray, List.set_cons_zero, List.set_cons_succ]
    refine wpE_take (i := 6) (oi := ⟨some 11, _, _, _, _, _⟩) (v := undef) rfl (by decide +kernel) (by decide +kernel) (by decide +kernel) (fun _ _ _ h => h) (Or.inr ⟨by rfl, rfl⟩) hb1 ?_
    try simp only [Act.put, List.setIfInBounds_toArray, List.set_cons_zero, List.set_cons_succ]
    refine wpE_take (i := 7) (oi := ⟨some 12, _, _, _, _, _⟩) (v := .bool false) rfl (by decide +kernel) (by decide +kernel) (by decide +kernel) (fun _ _ _ h => h) (Or.inl ⟨by rfl, ?_⟩) hb1 ?_
    case refine_1 =>
      intro w' hSw
      skip
      go_simp
      try (with_reducible rfl)
    try simp only [Act.put, List.setIfInBounds_toArray, List.set_cons_zero, List.set_cons_succ]
    refine wpE_take (i := 8) (oi := ⟨some 4, _, _, _, _, _⟩) (v := ?_) rfl (by decide +kernel) (by decide +kernel) (by decide +kernel) (fun _ _ _ h => h) (Or.inl ⟨by rfl, ?_⟩) hb1 ?_
    case refine_2 =>
      intro w' hSw
      skip
      go_simp
      try (with_reducible rfl)
    try simp only [Act.put, List.setIfInBounds_toArray, List.set_cons_zero, List.set_cons_succ]
    refine wpE_done (by decide +kernel) ?_
    have HBW := Lib.hid (HB1.out.trans (hb1.mono HB1.out.size))
    clear c0 c1 c2 c3 c4
    go_wp2
    go_ret
    exact ⟨rfl, HBW.out⟩
  | true =>
    have hw := HW.out HSY.out
    obtain ⟨wd, hwd⟩ : ∃ wd, wd = widthM (Q.map Iq.m) := ⟨_, rfl⟩
    rw [← hwd] at hw
    have HWD := Lib.hid hw
    clear hw hwd
    have hb0w := HB1.out.trans (hb1.mono HB1.out.size)
    have HB0W := Lib.hid hb0w
    have HQ1 := Lib.hid (HQ.out.below hb0w)
    have CE := Lib.hid (extended_any A none c 0 Q [] z1 (by rw [HL.out]; exact HQ1.out.1) ⟨rfl, fun h => absurd h (Nat.lt_irrefl _)⟩ (by rw [HL.out, List.length_nil]; omega))
    rw [List.length_nil, Nat.add_zero, List.append_nil, HL.out] at CE
    clear hb0w
    refine wpE_take (i := 3) (oi := ⟨some 8, _, _, _, _, _⟩) (v := ?_) rfl (by decide +kernel) (by decide +kernel) (by decide +kernel) (fun _ _ _ h => h) (Or.inl ⟨by rfl, ?_⟩) hb1 ?_
    case refine_2 =>
      intro w' hSw
      skip
      go_simp
      try (with_reducible rfl)
    try simp only [Act.put, List.setIfInBounds_toArray, List.set_cons_zero, List.set_cons_succ]
    refine wpE_take (i := 5) (oi := ⟨some 10, _, _, _, _, _⟩) (v := ?_) rfl (by decide +kernel) (by decide +kernel) (by decide +kernel) (fun _ _ _ h => h) (Or.inl ⟨by rfl, ?_⟩) hb1 ?_
    case refine_2 =>
      intro w' hSw
      have c0' := keepcell hSw c0
      have c1' := keepcell hSw c1
      have c2' := keepcell hSw c2
      have c3' := keepcell hSw c3
      have c4' := keepcell hSw c4
      go_simp
      try (with_reducible rfl)
    try simp only [Act.put, List.setIfInBounds_toArray, List.set_cons_zero, List.set_cons_succ]
    refine wpE_step (i := 4) (o := ⟨some 9, _, _, _, _, _⟩) rfl (by decide +kernel) (fun KK hKK => ?_)
    go_simp
    refine CE.out.mono ?_
    rintro e z2 ⟨v1, rfl, hown, hbn⟩
    have hb2 : Below W1.heap.size W1 z2 := hb1.trans (hbn.mono hb1.size)
    have CK := Lib.hid (chk_any _ p (Nat.le_refl _) z1 z2 v1 Q wd Nl Ns (HP.out.keep HB0W.out) ⟨hbn, by rw [HL.out]; exact hown, fun q hq => Sf.of_below (HQ1.out.2.2 q hq) hbn (fun k hk => (hown.lt k hk).1), HWD.out.1, HWD.out.2.1⟩ (HWD.out.2.2 HQN.out) hNs (by rw [HL.out]; exact hlen) hK)
    rw [HV.out] at CK
    clear hown hbn
    refine hKK.out _ _ hb2 ?_
    clear hKK KK
    try simp only [Act.put, List.setIfInBounds_toArray, List.set_cons_zero, List.set_cons_succ]
    obtain ⟨rc, hrc⟩ : ∃ x, chk p.m (Q.map Iq.m) = x := ⟨_, rfl⟩
    rw [hrc] at CK
    have HRC := Lib.hid hrc
    clear hrc
    refine wpE_step (i := 6) (o := ⟨some 11, _, _, _, _, _⟩) rfl (by decide +kernel) (fun KK hKK => ?_)
    go_simp
    refine CK.out.mono ?_
    rintro e z3 ⟨rfl, hbn⟩
    have hb3 : Below W1.heap.size W1 z3 := hb1.trans (hbn.mono hb1.size)
    clear hbn
    refine hKK.out _ _ hb3 ?_
    clear hKK KK
    try simp only [Act.put, List.setIfInBounds_toArray, List.set_cons_zero, List.set_cons_succ]
    refine wpE_take (i := 7) (oi := ⟨some 12, _, _, _, _, _⟩) (v := ?_) rfl (by decide +kernel) (by decide +kernel) (by decide +kernel) (fun _ _ _ h => h) (Or.inl ⟨by rfl, ?_⟩) hb3 ?_
    case refine_2 =>
      intro w' hSw
      skip
      go_simp
      try (with_reducible rfl)
    try simp only [Act.put, List.setIfInBounds_toArray, List.set_cons_zero, List.set_cons_succ]
    refine wpE_take (i := 8) (oi := ⟨some 4, _, _, _, _, _⟩) (v := ?_) rfl (by decide +kernel) (by decide +kernel) (by decide +kernel) (fun _ _ _ h => h) (Or.inl ⟨by rfl, ?_⟩) hb3 ?_
    case refine_2 =>
      intro w' hSw
      skip
      go_simp
      try (with_reducible rfl)
    try simp only [Act.put, List.setIfInBounds_toArray, List.set_cons_zero, List.set_cons_succ]
    refine wpE_done (by decide +kernel) ?_
    have HBW := Lib.hid (HB1.out.trans (hb3.mono HB1.out.size))
    clear c0 c1 c2 c3 c4
    go_wp2
    go_ret
    exact ⟨by rw [HRC.out]; rfl, HBW.out⟩
end Go.Proofs.Ythfolccofjaknaa
