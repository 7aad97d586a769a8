/- Law CutproofStep: for every input the call returns true, and its arguments read afterwards as before. -/
import Derived.Test.YthfolccofjaknaaCop
import Derived.Test.YthfolccofjaknaaCay
import Derived.Test.YthfolccofjaknaaMA
namespace Go.Proofs.Ythfolccofjaknaa
open Go.ChangeShapes Go.WideShapes Go.ChangeAt Go.RowKit Go.ChangeMaps

theorem wpList_append_srcG {P : Program} (w : World) {ops : Array Oper} {rest : List Oper} {o : Oper} {a : Act} {Q : Exit → Act → World → Prop} (hgd : Region.wanted o (yielded ops a.tmps) = true) (s x : Operand) (t tx : TypeId)
    (ho : o.op = .call { callee := .builtin .append, args := #[s, x], argTypes := #[t, tx] })
    (base : Nat) (e : TypeId) (i : TypeInfo) (z : Value) (size bytes : Nat) (ht : P.underlying t = some (.slice e)) (hi : P.info? e = some i) (hz : i.zero = some z)
    (hsize : i.size = size) (hby : i.bytes = bytes) (hzs : z.cells.size = size)
    (v : Value) (n : Nat) (xs : List Value) (hv : a.eval s = v) (hown : w.ownsRow base e size v n xs)
    (y : Value) (m : Nat) (news : List Value) (hy : a.eval x = y) (hs : Src P size tx y m news w)
    (h63 : n + m ≤ maxLen) (hbytes : (n + m) * bytes ≤ 140737488355328) (hbase : base ≤ w.heap.size)
    (h : ∀ v' w', w'.ownsRow base e size v' (n + m) (xs ++ news) → w.grownBy w' v.ownBlock → Moved w v v' → wpList P ops Q rest (a.put o.dst v') w') : wpList P ops Q (o :: rest) a w :=
  wpList_step fun _ hK => by
    rw [if_pos hgd]
    exact wp_append_src w s x t tx ho base e i z size bytes ht hi hz hsize hby hzs v n xs hv hown y m news hy hs h63 hbytes hbase fun v' w' h2 h3 h4 => hK _ _ (h v' w' h2 h3 h4)
theorem smQ_cons {q : Iq} {Q : List Iq} (h : smQ (q :: Q) = true) : smB q.L = true ∧ smQ Q = true := by
  unfold smQ at h ⊢
  simp only [List.all_cons, Bool.and_eq_true, decide_eq_true_eq, List.length_cons] at h ⊢
  exact ⟨h.1.1.1, h.1.2, by omega⟩
theorem Bigs.mono {w : World} {A : Option Addr} {n N M : Nat} {L : List Bg} (h : Bigs w A n L N) (hM : N ≤ M) : Bigs w A n L M := ⟨h.1, h.2.1, fun b hb => BG.mono (h.2.2 b hb) hM⟩
set_option maxRecDepth 100000 in
set_option maxHeartbeats 4000000 in
theorem cutproofStep_walk (A : Option Addr) (n c : Nat) (Q : List Iq) (s : Sp) (xA : Option Addr) (xn xc : Nat) (X : List Bg) (w : World) (k0 : Ineqs w A n Q NM) (l0 : n ≤ c) (g0 : c * 56 ≤ 140737488351232) (kS : s.ok w NM) (kX : Bigs w xA xn X NM) :
    Calls Try.prog 8 #[.slice A n c, s.val, .slice xA xn xc] w fun e w' => e = .returned (.bool true) ∧ Below w.heap.size w w' := by
  obtain ⟨sA, sn, sc, U, sd⟩ := s
  have HS := Lib.hid kS
  clear kS
  unfold Sp.val
  dsimp only
  obtain ⟨i0, hi, hz0, hz1, hz2⟩ := info_parts i44
  have HK := Lib.hid k0
  have HX := Lib.hid kX
  have hnb : n * 56 ≤ 140737488351232 := Nat.le_trans (Nat.mul_le_mul_right 56 l0) g0
  clear k0 kX l0 g0
  obtain ⟨kx, hkx⟩ : ∃ kx, kx = w.heap.size := ⟨_, rfl⟩
  obtain ⟨W1, hW1⟩ : ∃ W1, W1 = w.alloc (.cells #[.slice sA sn sc, .bool sd.neg, .slice sd.A sd.n sd.c] 39) := ⟨_, rfl⟩
  have HB1 := Lib.hid (show Below w.heap.size w W1 by rw [hW1]; exact (Below.refl _ _).alloc (Nat.le_refl _) _)
  have KX := Lib.hid (show Blk W1 kx 39 #[.slice sA sn sc, .bool sd.neg, .slice sd.A sd.n sd.c] by rw [hW1]; exact Blk.new_ hkx rfl)
  have hkxw : w.heap.size ≤ kx := by omega
  go_enter Try.func8, Try.ntmps8
  go_wp2_with fail
  rw [← hkx, ← hW1]
  clear hkx hW1
  refine (awake_any W1).mono ?_
  rintro e2 w2 ⟨rfl, hb2⟩
  have HB2 := Lib.hid (HB1.out.trans (hb2.mono HB1.out.size))
  have KX2 := Lib.hid (KX.out.below hb2)
  clear hb2 HB1 KX
  obtain ⟨ks, hks⟩ : ∃ ks, ks = w2.heap.size := ⟨_, rfl⟩
  obtain ⟨W3, hW3⟩ : ∃ W3, W3 = w2.alloc (.cells #[.slice xA xn xc, .bool false, .slice none 0 0] 44) := ⟨_, rfl⟩
  have hb3 : Below w2.heap.size w2 W3 := by rw [hW3]; exact (Below.refl _ _).alloc (Nat.le_refl _) _
  have HB3 := Lib.hid (HB2.out.trans (hb3.mono HB2.out.size))
  have KX3 := Lib.hid (KX2.out.below hb3)
  have KS := Lib.hid (show Blk W3 ks 44 #[.slice xA xn xc, .bool false, .slice none 0 0] by rw [hW3]; exact Blk.new_ hks rfl)
  have hxs : kx < ks := by rw [hks]; exact KX2.out.lt
  have hxs2 : w.heap.size ≤ ks := by omega
  clear hb3
  have HO := Lib.hid (show W3.ownsRow w.heap.size 44 3 (.slice (some ⟨ks, 0, none⟩) 1 1) 1 [.slice xA xn xc, .bool false, .slice none 0 0] from ⟨rfl, .inr ⟨ks, 1, _, rfl, hxs2, KS.out, Nat.le_refl _, by unfold maxLen; decide, rfl, rfl⟩⟩)
  have HSR := Lib.hid (At.src (P := Try.prog) (c := c) Try.underlying30 (At.below HK.out.1 HB3.out) (iqs_one Q) (by decide))
  have HSZ := Lib.hid HB3.out.size
  go_wp2_with (at_builtin; rw [← hks, ← hW3]; clear hks hW3; refine wpList_append_srcG _ (by rfl) _ _ 30 30 rfl w.heap.size 44 i0 _ 3 56 Try.underlying30 hi hz0 hz1 hz2 rfl (.slice (some ⟨ks, 0, none⟩) 1 1) 1 [.slice xA xn xc, .bool false, .slice none 0 0] rfl HO.out _ n (Q.flatMap Iq.cells) rfl HSR.out (by unfold maxLen; omega) (by omega) HSZ.out ?_; intro v4 w4 own4 hg4 hm4)
  have HB4 := Lib.hid (HB3.out.grown hg4 HB3.out.size (fun j hj => (HO.out.lt j hj).1))
  have KX4 := Lib.hid (show Blk w4 kx 39 _ from (hg4.block kx KX3.out.lt (fun e => by injection e with e; dsimp only at e; omega)).trans KX3.out)
  obtain ⟨A4, c4, rfl, hat4, -, -⟩ := At.of_own own4
  have HI := Lib.hid (show Ineqs w4 A4 (1 + n) (⟨xA, xn, xc, X, Bg.zero⟩ :: Q) NM from ⟨hat4, by show 1 + n ≤ 9223372036854775807; omega, fun q hq => by
    rcases List.mem_cons.1 hq with rfl | hq
    · exact ⟨HX.out.below HB4.out, (NB.zero w4 0).bg.mono (Nat.zero_le _)⟩
    · exact (HK.out.2.2 q hq).below HB4.out⟩)
  have CS := Lib.hid (Small_any w4 A4 (1 + n) c4 _ NM HI.out)
  obtain ⟨sm, hsm⟩ : ∃ x, smQ (⟨xA, xn, xc, X, Bg.zero⟩ :: Q) = x := ⟨_, rfl⟩
  rw [hsm] at CS
  have HSM := Lib.hid hsm
  clear hsm own4 hg4 hm4 hat4 HO HSR HSZ HB3 KX3 KS hxs hxs2 hi hz0 hz1 hz2
  go_wp2_with fail
  refine CS.out.mono ?_
  rintro e5 w5 ⟨rfl, hb5⟩
  have HB5 := Lib.hid (HB4.out.trans (hb5.mono HB4.out.size))
  have KX5 := Lib.hid (KX4.out.below hb5)
  clear hb5 CS HI HB4 KX4 HB2 KX2
  cases sm with
  | false =>
    go_wp2_with fail
    refine (awake_any _).mono ?_
    rintro e9 w9 ⟨rfl, hb9⟩
    have HB9 := Lib.hid (HB5.out.trans (hb9.mono HB5.out.size))
    clear hb9
    go_wp2
    go_ret
    exact ⟨rfl, HB9.out⟩
  | true =>
    obtain ⟨hs1, hs2⟩ := smQ_cons HSM.out
    have HXS := Lib.hid (HX.out.small hs1)
    have HLS := Lib.hid (HK.out.small hs2)
    have hn12 : n ≤ 12 := HLS.out.2.1
    clear hs1 hs2 HSM HX HK
    have s0 : w5.cell? ⟨kx, 0, none⟩ = some (.slice sA sn sc) := KX5.out.cell 0
    have s1 : w5.cell? ⟨kx, 1, none⟩ = some (.bool sd.neg) := KX5.out.cell 1
    have s2 : w5.cell? ⟨kx, 2, none⟩ = some (.slice sd.A sd.n sd.c) := KX5.out.cell 2
    have CS := Lib.hid (SmallStep_any w5 ⟨sA, sn, sc, U, sd⟩ NM (HS.out.below HB5.out))
    obtain ⟨st, hst⟩ : ∃ x, smU U sd = x := ⟨_, rfl⟩
    dsimp only at CS
    rw [hst] at CS
    have HST := Lib.hid hst
    unfold Sp.val at CS
    dsimp only at CS
    clear hst
    go_wp2_with fail
    clear s0 s1 s2
    refine CS.out.mono ?_
    rintro e6 w6 ⟨rfl, hb6⟩
    have HB6 := Lib.hid (HB5.out.trans (hb6.mono HB5.out.size))
    have KX6 := Lib.hid (KX5.out.below hb6)
    clear hb6 CS HB5 KX5
    cases st with
    | false =>
      go_wp2_with fail
      refine (awake_any _).mono ?_
      rintro e9 w9 ⟨rfl, hb9⟩
      have HB9 := Lib.hid (HB6.out.trans (hb9.mono HB6.out.size))
      clear hb9
      go_wp2
      go_ret
      exact ⟨rfl, HB9.out⟩
    | true =>
      have HSS := Lib.hid (HS.out.small HST.out)
      have hsn : sn ≤ 12 := HSS.out.2
      have s0 : w6.cell? ⟨kx, 0, none⟩ = some (.slice sA sn sc) := KX6.out.cell 0
      have s1 : w6.cell? ⟨kx, 1, none⟩ = some (.bool sd.neg) := KX6.out.cell 1
      have s2 : w6.cell? ⟨kx, 2, none⟩ = some (.slice sd.A sd.n sd.c) := KX6.out.cell 2
      have CA := Lib.hid (Apply_any w6 A n c Q 4 (HLS.out.1.below HB6.out) (fun q hq => by have := HLS.out.2.2 q hq; omega) ⟨sA, sn, sc, U, sd⟩ 4 (HSS.out.1.below HB6.out) (by decide) (by decide) (by dsimp only; omega))
      obtain ⟨r, hr⟩ : ∃ r, (if sysM (Q.map Iq.m) = true then applyM (Q.map Iq.m) (U.map Us.m) sd.z else none) = r := ⟨_, rfl⟩
      dsimp only at CA
      rw [hr] at CA
      unfold Sp.val at CA
      dsimp only at CA
      have HR := Lib.hid hr
      clear hr
      go_wp2_with fail
      clear s0 s1 s2
      refine CA.out.mono ?_
      rintro e7 w7 ⟨hb7, hno, hyes⟩
      have HB7 := Lib.hid (HB6.out.trans (hb7.mono HB6.out.size))
      clear hb7 CA
      cases r with
      | none =>
        obtain rfl := hno rfl
        unfold zeroQ
        clear hno hyes
        go_wp2
        go_ret
        exact ⟨rfl, HB7.out.alloc HB7.out.size _⟩
      | some m =>
        obtain ⟨⟨QA, qn, qc, L, qb⟩, rfl, hm, hio⟩ := hyes m rfl
        have HM := Lib.hid hm
        have HIO := Lib.hid hio.ok
        have hqn : qn ≤ 1000000 := by have h1 := hio.1; have h2 := hio.2.1; dsimp only at h1 h2; omega
        clear hno hyes hm hio
        unfold Iq.val
        dsimp only
        obtain ⟨W8, hW8⟩ : ∃ W8, W8 = w7.alloc (.cells #[.slice QA qn qc, .bool qb.neg, .slice qb.A qb.n qb.c] 44) := ⟨_, rfl⟩
        obtain ⟨k8, hk8⟩ : ∃ k8, k8 = w7.heap.size := ⟨_, rfl⟩
        have hb8 : Below w7.heap.size w7 W8 := by rw [hW8]; exact (Below.refl _ _).alloc (Nat.le_refl _) _
        have HB8 := Lib.hid (HB7.out.trans (hb8.mono HB7.out.size))
        have HI8 := Lib.hid (HIO.out.below hb8)
        have K8 := Lib.hid (show Blk W8 k8 44 #[.slice QA qn qc, .bool qb.neg, .slice qb.A qb.n qb.c] by rw [hW8]; exact Blk.new_ hk8 rfl)
        clear hb8
        by_cases hn0 : n = 0
        · subst hn0
          go_wp2
          go_ret
          exact ⟨rfl, HB7.out.alloc HB7.out.size _⟩
        have hne : ((n : Int) == 0) = false := by simpa using hn0
        have HNE := Lib.hid (show Q.map Iq.m ≠ [] from fun h => by
          have h1 := HLS.out.1.len
          rw [List.map_eq_nil_iff.1 h] at h1
          exact hn0 h1.symm)
        clear hn0
        have CC := Lib.hid (RAll_any W8 A n c Q xA xn xc X 4 (HLS.out.1.below HB8.out) (HXS.out.1.below HB8.out) (by decide) (fun q hq => by have := HLS.out.2.2 q hq; omega))
        obtain ⟨al, hal⟩ : ∃ x, (Q.all fun q => hldM q.m (X.map Bg.z)) = x := ⟨_, rfl⟩
        rw [hal] at CC
        have HAL := Lib.hid hal
        clear hal
        go_wp2_with fail
        rw [← hk8, ← hW8]
        clear hk8 hW8
        refine CC.out.mono ?_
        rintro e9 w9 ⟨rfl, hb9⟩
        have HB9 := Lib.hid (HB8.out.trans (hb9.mono HB8.out.size))
        have HI9 := Lib.hid (HI8.out.below hb9)
        have K9 := Lib.hid (K8.out.below hb9)
        clear hb9 CC
        cases al with
        | false =>
          go_wp2
          go_ret
          exact ⟨rfl, HB9.out⟩
        | true =>
          have HH := Lib.hid (show hldM (Iq.m ⟨QA, qn, qc, L, qb⟩) (X.map Bg.z) = true by
            rw [HM.out]
            have h := HR.out
            split at h
            · exact applyM_hld HNE.out (fun q hq => by
                obtain ⟨q', hq', rfl⟩ := List.mem_map.1 hq
                exact List.all_eq_true.1 HAL.out q' hq') h
            · cases h)
          have CH := Lib.hid (RHolds_any w9 ⟨QA, qn, qc, L, qb⟩ xA xn xc X 9 HI9.out ((HXS.out.1.below HB9.out).mono (by decide)) (by decide) (by dsimp only; omega))
          rw [HH.out] at CH
          unfold Iq.val at CH
          dsimp only at CH
          have q0 : w9.cell? ⟨k8, 0, none⟩ = some (.slice QA qn qc) := K9.out.cell 0
          have q1 : w9.cell? ⟨k8, 1, none⟩ = some (.bool qb.neg) := K9.out.cell 1
          have q2 : w9.cell? ⟨k8, 2, none⟩ = some (.slice qb.A qb.n qb.c) := K9.out.cell 2
          go_wp2_with fail
          clear q0 q1 q2
          refine CH.out.mono ?_
          rintro e10 w10 ⟨rfl, hb10⟩
          have HB10 := Lib.hid (HB9.out.trans (hb10.mono HB9.out.size))
          clear hb10 CH
          go_wp2
          go_ret
          exact ⟨rfl, HB10.out⟩

set_option maxRecDepth 100000 in
theorem cutproofStep_lifted (os : Os) (started : os.Started) (H : Type) (enc : TypeId × Value → H) :
    ReturnsInHanded {} Try.checked os 8 .any (Rows.cutproofStepSpec.pre6 enc Try.prog Try.f8 Rows.cutproofStepRow.domain false) (Rows.cutproofStepSpec.post enc Try.prog Try.f8 false true false false) := by
  refine law_lifted (C := Try.checked) (B := 4) Try.own started (by kernel_rfl) Try.func8
    (ChangeSpec.witness6 (enc := enc) (C := Try.checked) false ⟨#[], #[.slice none 0 0, .agg #[.slice none 0 0, .bool false, .slice none 0 0], .slice none 0 0], []⟩ 8 (by kernel_rfl) (by kernel_rfl) (by kernel_rfl) (by kernel_rfl))
    Try.laidOut (by kernel_rfl) rfl rfl rfl Try.underlying4 (fun ds h => match ds, h with | [_, _, _], _ => rfl) ?_
  intro W base args ds ps hval hA hlt hsz
  rw [Try.params8] at hA hval hsz
  obtain ⟨v0, vs0, d0, ds0, p0, q0, hargs, rfl, rfl, h0, r0⟩ := trodAll_cons hA
  obtain ⟨v1, vs1, d1, ds1, p1, q1, rfl, rfl, rfl, h1, r1⟩ := trodAll_cons r0
  obtain ⟨v2, vs2, d2, ds2, p2, q2, rfl, rfl, rfl, h2, r2⟩ := trodAll_cons r1
  obtain ⟨rfl, rfl, rfl⟩ := trodAll_nil r2
  obtain rfl : args = #[v0, v1, v2] := by cases args; simp_all
  obtain ⟨A0, n0, c0, Q0, rfl, k0, l0, g0⟩ := open_iqs (hval 0 30 v0 rfl rfl) h0 (fun x hx => hlt x (by simp [hx])) hsz (j := 0) rfl rfl
  obtain ⟨s1, rfl, k1⟩ := open_step (hval 1 39 v1 rfl rfl) h1 (fun x hx => hlt x (by simp [hx])) hsz (j := 1) rfl rfl
  obtain ⟨A2, n2, c2, L2, rfl, k2⟩ := open_bigs (hval 2 42 v2 rfl rfl) h2 (fun x hx => hlt x (by simp [hx])) hsz (j := 2) rfl rfl
  exact cutproofStep_walk A0 n0 c0 Q0 s1 A2 n2 c2 L2 W k0 l0 g0 k1 k2

theorem cutproofStep_over : Rows.cutproofStepRow.holds Try.pinned (OpenSpec.ofChange Rows.cutproofStepSpec) :=
  OpenClaim.holds_of_wide 8 Try.f8 rfl rfl rfl rfl rfl rfl rfl ⟨rfl, rfl, rfl, rfl, rfl⟩ rfl rfl rfl rfl rfl (by kernel_rfl) Try.func8 (by kernel_rfl)
    (of_decide_eq_true (by kernel_rfl)) (by unfold Func.isWrapper; first | (rw [if_pos (by decide +kernel)]; kernel_rfl) | (rw [if_neg (by decide +kernel)]; exact ⟨rfl, rfl⟩))
    (fun os started H enc _ => cutproofStep_lifted os started H enc)

theorem cutproofStep_proved : Rows.CutproofStepSaid := cutproofStep_over
end Go.Proofs.Ythfolccofjaknaa
