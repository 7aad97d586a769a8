/- The reference's Check. -/
import Derived.Test.YthfolccofjaknaaCrc
import Derived.Test.YthfolccofjaknaaCfl
import Derived.Test.YthfolccofjaknaaCck
import Derived.Test.YthfolccofjaknaaCrb
import Derived.Test.YthfolccofjaknaaMA
namespace Go.Proofs.Ythfolccofjaknaa
open Go.ChangeShapes Go.WideShapes Go.ChangeAt Go.RowKit Go.ChangeMaps

theorem Iq.ok.wide {w : World} {N N' : Nat} {q : Iq} (h : q.ok w N) (hN : N ≤ N') : q.ok w N' := ⟨⟨h.1.1, h.1.2.1, fun b hb => BG.mono (h.1.2.2 b hb) hN⟩, BG.mono h.2 hN⟩
theorem sub_fit {z : Int} {N : Nat} (h : z.natAbs < 4294967296 ^ N) : (-z - 1).natAbs < 4294967296 ^ (N + 1) := by
  have h1 : (4294967296 : Nat) ^ (N + 1) = 4294967296 ^ N * 4294967296 := Nat.pow_succ ..
  omega
def RkIH (M : Nat) : Prop := ∀ (p : Pf), SizeOf.sizeOf p ≤ M → ∀ (w : World) (A : Option Addr) (n c : Nat) (Q : List Iq) (Nl Ns : Nat), Ineqs w A n Q Nl → p.ok w Ns → (∀ q ∈ Q, q.n ≤ 1000000) → Ns ≤ Nl → n + sizeP p.m ≤ 10000 → Nl + sizeP p.m * (Ns + 3) ≤ 3900 → Calls Try.prog 24 #[.slice A n c, p.val] w (Ck w (sysM (Q.map Iq.m) && chk p.m (Q.map Iq.m)))
theorem CL.sysM {w0 wr : World} {s0 : Value} {Q : List Iq} {N wd : Nat} (h : CL w0 wr s0 Q N wd) : sysM (Q.map Iq.m) = true := by
  unfold Go.Proofs.Ythfolccofjaknaa.sysM
  rw [List.all_eq_true]
  intro m hm
  rw [h.width.2]
  simpa using h.width.1 m hm
theorem own_empty {w : World} {B g : Nat} (hB : B ≤ g) (hb : Blk w g 44 #[]) : w.ownsRow B 44 3 (.slice (some ⟨g, 0, none⟩) 0 0) 0 [] := ⟨rfl, .inr ⟨g, 0, #[], rfl, hB, hb, Nat.le_refl _, by unfold maxLen; decide, rfl, rfl⟩⟩
theorem RCheck_bad (w : World) (A : Option Addr) (n c : Nat) (Q : List Iq) (Nl : Nat) (hQ : Ineqs w A n Q Nl) (p : Pf) (hsy : sysM (Q.map Iq.m) = false) :
    Calls Try.prog 24 #[.slice A n c, p.val] w (Ck w false) := by
  obtain ⟨x0, x1, x2, x3, x4, hx⟩ : ∃ x0 x1 x2 x3 x4, p.cells = [x0, x1, x2, x3, x4] := by cases p; exact ⟨_, _, _, _, _, rfl⟩
  have HQ := Lib.hid hQ
  unfold Pf.val
  rw [hx]
  clear hQ hx
  obtain ⟨kp, hkp⟩ : ∃ kp, kp = w.heap.size := ⟨_, rfl⟩
  obtain ⟨W1, hW1⟩ : ∃ W1, W1 = w.alloc (.cells #[x0, x1, x2, x3, x4] 52) := ⟨_, rfl⟩
  have HB1 := Lib.hid (show Below w.heap.size w W1 by rw [hW1]; exact (Below.refl _ _).alloc (Nat.le_refl _) _)
  have CE := Lib.hid (REven_any W1 A n c Q Nl (HQ.out.below HB1.out))
  rw [hsy] at CE
  go_enter Try.func24, Try.ntmps24
  go_upto_region 1 with fail
  rw [← hW1]
  clear hkp hW1
  go_wp2_with fail
  refine CE.out.mono ?_
  rintro e2 w2 ⟨rfl, hb2⟩
  have HB2 := Lib.hid (HB1.out.trans (hb2.mono HB1.out.size))
  clear hb2
  go_wp2
  go_ret
  exact ⟨rfl, HB2.out⟩
set_option maxRecDepth 100000 in
set_option maxHeartbeats 8000000 in
theorem rk_step (M : Nat) (ih : RkIH M) : RkIH (M + 1) := by
  intro p hp w A n c Q Nl Ns hQ hok hqn hNs hlen hK
  cases hsy : sysM (Q.map Iq.m) with
  | false =>
    rw [Bool.false_and]
    exact RCheck_bad w A n c Q Nl hQ p hsy
  | true =>
  have HQ := Lib.hid hQ
  obtain ⟨wd, hwdd⟩ : ∃ x, x = widthM (Q.map Iq.m) := ⟨_, rfl⟩
  obtain ⟨hw1, hw2, hw3⟩ := sysM_width hQ hsy
  rw [← hwdd] at hw1 hw2 hw3
  have hwd := hw3 hqn
  have HW := Lib.hid (And.intro hw1 hw2)
  have HQL := Lib.hid hQ.len
  have HQN := Lib.hid hqn
  clear hw1 hw2 hw3 hQ hqn hwdd
  cases hok with
  | @mk sA sn sc S fA fn fc F b kA kn kc K h1 h2 h3 h4 h5 h7 h6 =>
    rw [Pf.m_eq] at hlen hK ⊢
    rw [sizeP_eq] at hlen hK
    have hSl : S.length = sn := by
      have := h1.1
      rw [flat_len Sp.cells 3 (fun _ => rfl)] at this
      omega
    have hKl := kids_len h5
    obtain ⟨sz, hsz⟩ : ∃ x, (if (K.map Pf.m).length > 0 then 1 else 0) + ((K.map Pf.m).map sizeP).sum = x := ⟨_, rfl⟩
    rw [List.length_map, hSl, Nat.add_assoc, hsz] at hlen hK
    have HSZ := Lib.hid hsz
    have hmul : ∀ k, k ≤ sn → Nl + k * (Ns + 3) ≤ 3900 := fun k hk => by
      have : k * (Ns + 3) ≤ (sn + sz) * (Ns + 3) := Nat.mul_le_mul_right _ (by omega)
      omega
    have HMUL := Lib.hid hmul
    have HLEN := Lib.hid hlen
    have HTOT := Lib.hid hK
    have hsn4 : sn ≤ 10000 := by omega
    obtain ⟨r, hr⟩ : ∃ r, chk (.mk (S.map Sp.m) (F.map Bg.z) b.z (K.map Pf.m)) (Q.map Iq.m) = r := ⟨_, rfl⟩
    rw [Bool.true_and, hr]
    rw [chk_eq] at hr
    obtain ⟨R, hR⟩ : ∃ R, stepsM (S.map Sp.m) (Q.map Iq.m) = R := ⟨_, rfl⟩
    rw [hR] at hr
    have HNONE := Lib.hid (show R = none → r = false from fun h => by rw [h] at hr; exact hr.symm)
    have HK0 := Lib.hid (show kn = 0 → ∀ l', R = some l' → r = l'.any badM from fun h l' e => by
      rw [e, List.eq_nil_of_length_eq_zero (hKl.trans h)] at hr
      exact hr.symm)
    have HKX := Lib.hid (show kn ≠ 0 → kn ≠ 2 → r = false from fun ha hb => by
      cases R with
      | none => exact hr.symm
      | some l' =>
        rcases K with _ | ⟨k0, _ | ⟨k1, _ | ⟨k2, K⟩⟩⟩
        · exact absurd hKl.symm ha
        · exact hr.symm
        · exact absurd hKl.symm hb
        · exact hr.symm)
    have HK2 := Lib.hid (show ∀ k0 k1, K = [k0, k1] → ∀ l', R = some l' → r = (if l' ≠ [] ∧ (F.map Bg.z).length ≠ widthM l' then false else chk k0.m (l' ++ [(F.map Bg.z, b.z)]) && chk k1.m (l' ++ [((F.map Bg.z).map (fun z => -z), -1 - b.z)])) from fun k0 k1 e l' el => by
      rw [e, el] at hr
      exact hr.symm)
    have HR := Lib.hid hR
    have HIH := Lib.hid ih
    have HSA := Lib.hid h1
    have HSO := Lib.hid h2
    have HF := Lib.hid h3
    have HBO := Lib.hid h4
    have HKA := Lib.hid h5
    have HKO := Lib.hid h6
    have HSN := Lib.hid h7.2.2.2
    have hfn : fn ≤ 1000000 := h7.2.2.1
    have hkn63 := h7.2.1
    have HPS := Lib.hid (show ∀ k ∈ K, SizeOf.sizeOf k ≤ M from fun k hk => by
      have := pf_lt (sA := sA) (sn := sn) (sc := sc) (S := S) (fA := fA) (fn := fn) (fc := fc) (F := F) (b := b) (kA := kA) (kn := kn) (kc := kc) hk
      omega)
    have HSL := Lib.hid hSl
    have HKL := Lib.hid hKl
    clear h1 h2 h3 h4 h5 h6 h7 hp ih hr hR hSl hKl hsz hmul hlen hK
    unfold Pf.val Pf.cells
    dsimp only
    obtain ⟨kp, hkp⟩ : ∃ kp, kp = w.heap.size := ⟨_, rfl⟩
    obtain ⟨W1, hW1⟩ : ∃ W1, W1 = w.alloc (.cells #[.slice sA sn sc, .slice fA fn fc, .bool b.neg, .slice b.A b.n b.c, .slice kA kn kc] 52) := ⟨_, rfl⟩
    have HB1 := Lib.hid (show Below w.heap.size w W1 by rw [hW1]; exact (Below.refl _ _).alloc (Nat.le_refl _) _)
    have KP := Lib.hid (show Blk W1 kp 52 #[.slice sA sn sc, .slice fA fn fc, .bool b.neg, .slice b.A b.n b.c, .slice kA kn kc] by rw [hW1]; exact Blk.new_ hkp rfl)
    obtain ⟨i0, hi, hz0, hz1, hz2⟩ := info_parts i44
    have HI0 := Lib.hid hi
    have HI1 := Lib.hid hz0
    have HI2 := Lib.hid hz1
    have HI3 := Lib.hid hz2
    clear hi hz0 hz1 hz2
    have CE := Lib.hid (REven_any W1 A n c Q Nl (HQ.out.below HB1.out))
    rw [hsy] at CE
    go_enter Try.func24, Try.ntmps24
    go_upto_region 1 with fail
    rw [← hkp, ← hW1]
    have HKPW := Lib.hid (show w.heap.size ≤ kp by omega)
    clear hkp hW1 hsy
    go_wp2_with fail
    refine CE.out.mono ?_
    rintro e2 w2 ⟨rfl, hb2⟩
    have HB2 := Lib.hid (HB1.out.trans (hb2.mono HB1.out.size))
    have KP2 := Lib.hid (KP.out.below hb2)
    clear hb2 CE HB1 KP
    obtain ⟨g3, hg3⟩ : ∃ g, g = w2.heap.size := ⟨_, rfl⟩
    obtain ⟨W3, hW3⟩ : ∃ W, W = w2.alloc (.cells #[] 44) := ⟨_, rfl⟩
    have hb3 : Below w2.heap.size w2 W3 := by rw [hW3]; exact (Below.refl _ _).alloc (Nat.le_refl _) _
    have HB3 := Lib.hid (HB2.out.trans (hb3.mono HB2.out.size))
    have KP3 := Lib.hid (KP2.out.below hb3)
    have HO3 := Lib.hid (own_empty (w := W3) (B := w.heap.size) (g := g3) (by rw [hg3]; exact HB2.out.size) (by rw [hW3]; exact Blk.new_ hg3 rfl))
    have HS3 := Lib.hid (At.src (P := Try.prog) (c := c) Try.underlying30 (At.below HQ.out.1 HB3.out) (iqs_one Q) (by decide))
    have HZ3 := Lib.hid HB3.out.size
    have HKG := Lib.hid (show kp ≠ g3 by have := KP2.out.lt; omega)
    clear hb3
    have hn4 : n ≤ 10000 := by have := HLEN.out; omega
    go_wp2_with (at_builtin; rw [← hg3, ← hW3]; clear hg3 hW3; refine wpList_append_src _ rfl _ _ 30 30 rfl w.heap.size 44 i0 _ 3 56 Try.underlying30 HI0.out HI1.out HI2.out HI3.out rfl (.slice (some ⟨g3, 0, none⟩) 0 0) 0 [] rfl HO3.out _ n (Q.flatMap Iq.cells) rfl HS3.out (by unfold maxLen; omega) (by omega) HZ3.out ?_; intro v4 w4 own4 hgr4 hm4)
    have HB4 := Lib.hid (HB3.out.grown hgr4 HB3.out.size (fun j hj => (HO3.out.lt j hj).1))
    have KP4 := Lib.hid (show Blk w4 kp 52 _ from (hgr4.block kp KP3.out.lt (fun e => HKG.out (by injection e with e))).trans KP3.out)
    have HCL := Lib.hid (show CL w w4 v4 Q Nl wd from ⟨HB4.out, by rw [Nat.zero_add, List.nil_append, ← HQL.out] at own4; exact own4, fun q hq => Sf.of_below (HQ.out.2.2 q hq) HB4.out (fun j hj => (own4.lt j hj).1), HW.out.1, HW.out.2⟩)
    clear own4 hgr4 hm4 HO3 HS3 HZ3 HB3 KP3 HB2 KP2 HKG HB4
    go_wp2
    go_loopw [5, 6] (fun s5 s6 wr => ∃ (k : Nat) (Q' : List Iq), s6 = .int .i64 (k : Int) ∧ k ≤ sn ∧ Q'.length = n + k ∧ stepsM ((S.map Sp.m).drop k) (Q'.map Iq.m) = R ∧ CL w wr s5 Q' (Nl + k * (Ns + 3)) wd ∧ Blk wr kp 52 #[.slice sA sn sc, .slice fA fn fc, .bool b.neg, .slice b.A b.n b.c, .slice kA kn kc]) (fun _ s6 _ => sn - (intOf s6).toNat)
    case atStart => exact ⟨0, Q, rfl, Nat.zero_le _, by rw [HQL.out]; rfl, HR.out, HCL.out.wide (by omega), KP4.out⟩
    case round =>
      obtain ⟨k, Q', rfl, hkn, hQl, hst, hcl, hkpb⟩ := hrel
      rename_i s5 _
      generalize wr = X0 at *
      have HQl := Lib.hid hQl
      have HST := Lib.hid hst
      have HC := Lib.hid hcl
      have HP := Lib.hid hkpb
      have hq63 : Q'.length ≤ 10000 := by have := HLEN.out; omega
      have p0 : X0.cell? ⟨kp, 0, none⟩ = some (.slice sA sn sc) := hkpb.cell 0
      clear hQl hst hcl hkpb
      by_cases hlt : k < sn
      · have hki : (k : Int) < (sn : Int) := by omega
        have hk0 : (0 : Int) ≤ (k : Int) := by omega
        have hkS : k < S.length := by rw [HSL.out]; exact hlt
        obtain ⟨bS, offS, rfl, -, hcs⟩ := at3 (fun _ => rfl) HSA.out (show 0 < sn by omega)
        obtain ⟨e0, e1, e2⟩ := hcs X0 HC.out.below k hkS _ _ _ rfl
        have HSK := Lib.hid (HSO.out _ (List.getElem_mem hkS))
        have hsk4 := HSN.out _ (List.getElem_mem hkS)
        have hkM : k < (S.map Sp.m).length := by rw [List.length_map]; exact hkS
        have hno0 := steps_no hkM (l := Q'.map Iq.m)
        have hyes0 := fun q => steps_yes hkM (l := Q'.map Iq.m) (q := q)
        rw [List.getElem_map] at hno0
        simp only [List.getElem_map] at hyes0
        have HNO := Lib.hid hno0
        have HYES := Lib.hid hyes0
        clear hno0 hyes0
        clear hcs
        generalize S[k] = s at *
        obtain ⟨qA, qc, rfl, hin⟩ := HC.out.at (by omega)
        have hml := HMUL.out k (by omega)
        have HWD := Lib.hid HC.out.width
        have CA := Lib.hid (RApply_sys X0 qA Q'.length qc Q' (Nl + k * (Ns + 3)) hin wd HC.out.sys HC.out.z hwd s Ns (HSK.out.below HC.out.below) (by have h9 := HMUL.out (k + 1) hlt; rw [Nat.add_mul] at h9; omega) HC.out.sysM hsk4)
        unfold Sp.val at CA
        clear hin
        obtain ⟨ra, hra⟩ : ∃ x, applyM (Q'.map Iq.m) (s.U.map Us.m) s.d.z = x := ⟨_, rfl⟩
        rw [hra] at CA
        have HRA := Lib.hid hra
        clear hra
        go_wp2_with fail
        clear e0 e1 e2 p0
        refine CA.out.mono ?_
        rintro e3 X3 ⟨hb3, hno, hyes⟩
        have HC3 := Lib.hid (HC.out.keep hb3)
        have HP3 := Lib.hid (HP.out.below hb3)
        have hX13 := hb3.size
        cases ra with
        | none =>
          obtain rfl := hno rfl
          have HRF := Lib.hid (HNONE.out (HST.out.symm.trans (HNO.out HRA.out)))
          have hb4 : Below X3.heap.size X3 (X3.alloc (.cells #[.slice none 0 0, .bool false, .slice none 0 0] 44)) := (Below.refl _ _).alloc (Nat.le_refl _) _
          have HB4 := Lib.hid (HC3.out.below.trans (hb4.mono HC3.out.below.size))
          clear hno hyes hb3 hb4 CA
          unfold zeroQ
          go_wp2
          go_ret
          exact ⟨by rw [HRF.out]; rfl, HB4.out⟩
        | some m =>
          obtain ⟨q, rfl, hqm, hqo⟩ := hyes m rfl
          have hqn : q.n = wd := by
            have h1 := applyM_len HWD.out.1 HWD.out.2 HRA.out
            rw [← hqm] at h1
            have h2 : (q.L.map Bg.z).length = wd := h1
            rw [List.length_map] at h2
            rw [hqo.1, h2]
          have HSF := Lib.hid (Sf.of_new hqo (g := (Value.slice qA Q'.length qc).ownBlock) (fun j hj => (HC.out.own.lt j hj).2))
          have HQN := Lib.hid hqn
          have HSTEP := Lib.hid (show stepsM ((S.map Sp.m).drop (k + 1)) (Q'.map Iq.m ++ [q.m]) = R by rw [hqm, ← HST.out]; exact (HYES.out _ HRA.out).symm)
          clear hno hyes hb3 CA hqm hqo hqn
          obtain ⟨k7, hk7⟩ : ∃ k7, k7 = X3.heap.size := ⟨_, rfl⟩
          obtain ⟨X4, hX4⟩ : ∃ X4, X4 = X3.alloc (.cells #[.slice q.A q.n q.c, .bool q.b.neg, .slice q.b.A q.b.n q.b.c] 44) := ⟨_, rfl⟩
          have hb4 : Below X3.heap.size X3 X4 := by rw [hX4]; exact (Below.refl _ _).alloc (Nat.le_refl _) _
          have K7 := Lib.hid (show Blk X4 k7 44 #[.slice q.A q.n q.c, .bool q.b.neg, .slice q.b.A q.b.n q.b.c] by rw [hX4]; exact Blk.new_ hk7 rfl)
          have HC4 := Lib.hid (HC3.out.keep hb4)
          have HP4 := Lib.hid (HP3.out.below hb4)
          have HSF4 := Lib.hid (HSF.out.below hb4)
          clear hb4
          unfold Iq.val
          go_upto_region 10 with fail
          rw [← hk7, ← hX4]
          clear hk7 hX4
          have e0 : X4.cell? ⟨k7, 0, none⟩ = some (.slice q.A q.n q.c) := K7.out.cell 0
          have e1 : X4.cell? ⟨k7, 1, none⟩ = some (.bool q.b.neg) := K7.out.cell 1
          have e2 : X4.cell? ⟨k7, 2, none⟩ = some (.slice q.b.A q.b.n q.b.c) := K7.out.cell 2
          obtain ⟨X5, hX5⟩ : ∃ X5, X5 = X4.alloc (.cells #[.slice q.A q.n q.c, .bool q.b.neg, .slice q.b.A q.b.n q.b.c] 44) := ⟨_, rfl⟩
          have hb5 : Below X4.heap.size X4 X5 := by rw [hX5]; exact (Below.refl _ _).alloc (Nat.le_refl _) _
          have HC5 := Lib.hid (HC4.out.keep hb5)
          have HP5 := Lib.hid (HP4.out.below hb5)
          have HSF5 := Lib.hid (HSF4.out.below hb5)
          have HSRC := Lib.hid (src_blk (P := Try.prog) (W := X5) (g := X4.heap.size) (e := 44) (t := 30) (size := 3) (xs := q.cells) (n := 1) (c := 1) Try.underlying30 rfl (fun u hu => iqs_one [q] u (by simpa using hu)) (by rw [hX5]; exact Blk.new _ _ _))
          have HS5 := Lib.hid HC5.out.below.size
          clear hb5
          rw [hX5] at HSRC HS5 HC5 HP5 HSF5
          clear hX5
          go_wp2_with (at_builtin; go_loud (refine wpList_append_src _ rfl _ _ 30 30 rfl w.heap.size 44 i0 _ 3 56 Try.underlying30 HI0.out HI1.out HI2.out HI3.out rfl _ Q'.length (Q'.flatMap Iq.cells) rfl HC5.out.own _ 1 q.cells rfl HSRC.out ?c1 ?c2 HS5.out ?_))
          case c1 => unfold maxLen; omega
          case c2 => omega
          intro v' X6 own' hg hm
          have HP6 := Lib.hid ((hg.block kp HP5.out.lt (fun e2 => own_blk_ne HC5.out.own HP5.out (by decide) e2.symm)).trans HP5.out)
          have hNN : Ns + (Nl + k * (Ns + 3)) + 1 ≤ Nl + (k + 1) * (Ns + 3) := by rw [Nat.add_mul]; omega
          have hNW : Nl + k * (Ns + 3) ≤ Nl + (k + 1) * (Ns + 3) := by rw [Nat.add_mul]; omega
          have HC6 := Lib.hid ((HC5.out.wide hNW).app (HSF5.out.wide hNN) HQN.out own' hg hm)
          clear own' hg hm e0 e1 e2 hNN hNW
          go_wp2
          go_roundw
          case rel => exact ⟨k + 1, Q' ++ [q], by go_num, hlt, by rw [List.length_append, HQl.out, List.length_singleton]; omega, by rw [List.map_append]; exact HSTEP.out, HC6.out, HP6.out⟩
          case measure => simp [intOf]; omega
      · obtain rfl : k = sn := by omega
        have hlt2 : ¬ ((k : Int) < (k : Int)) := by omega
        have HRS := Lib.hid (show R = some (Q'.map Iq.m) by
          have := HST.out
          rw [List.drop_of_length_le (by rw [List.length_map, HSL.out]; exact Nat.le_refl _)] at this
          exact this.symm)
        have p4 : X0.cell? ⟨kp, 4, none⟩ = some (.slice kA kn kc) := HP.out.cell 4
        have hml := HMUL.out k (Nat.le_refl _)
        obtain ⟨qA, qc, rfl, hin⟩ := HC.out.at (by omega)
        have HIN := Lib.hid hin
        clear hin
        by_cases hk0 : kn = 0
        · have HRA := Lib.hid (HK0.out hk0 _ HRS.out)
          have hkb : ((kn : Int) == 0) = true := by rw [hk0]; rfl
          have hki0 : (kn : Int) = 0 := by omega
          have HKZ := Lib.hid hki0
          clear hk0 hki0
          obtain ⟨n1, hn⟩ : ∃ n, n = Q'.length := ⟨_, rfl⟩
          rw [← hn]
          rw [← hn] at HIN
          have HN := Lib.hid hn
          have hn1 : n1 ≤ 10000 := by omega
          clear hn
          go_wp2
          clear p4 hkb p0
          go_loopw [9] (fun s9 wr => ∃ j : Nat, s9 = .int .i64 (j : Int) ∧ j ≤ n1 ∧ (Q'.take j).all (fun q => !badM q.m) = true ∧ Below X0.heap.size X0 wr) (fun s9 _ => n1 - (intOf s9).toNat)
          case atStart => exact ⟨0, rfl, Nat.zero_le _, rfl, Below.refl _ _⟩
          case round =>
            obtain ⟨j, rfl, hjn, hall, hB⟩ := hrel
            generalize wr = V0 at *
            have HALL := Lib.hid hall
            have HBX := Lib.hid hB
            clear hall hB
            by_cases hjl : j < n1
            · have hji : (j : Int) < (n1 : Int) := by omega
              have hj0 : (0 : Int) ≤ (j : Int) := by omega
              have hjQ : j < Q'.length := by rw [← HN.out]; exact hjl
              obtain ⟨bQ, offQ, rfl, -, hcq⟩ := at3 (fun _ => rfl) HIN.out.1 (show 0 < n1 by omega)
              obtain ⟨e0, e1, e2⟩ := hcq V0 HBX.out j hjQ _ _ _ rfl
              have HQK := Lib.hid (HIN.out.2.2 _ (List.getElem_mem hjQ))
              have HAN := Lib.hid (show badM Q'[j].m = false → (Q'.take (j + 1)).all (fun q => !badM q.m) = true from fun e => by
                rw [List.take_succ_eq_append_getElem hjQ, List.all_append, HALL.out]
                simp [e])
              have HYB := Lib.hid (show badM Q'[j].m = true → r = true from fun e => by
                rw [HRA.out, List.any_eq_true]
                exact ⟨_, List.mem_map_of_mem (List.getElem_mem hjQ), e⟩)
              clear hcq
              generalize Q'[j] = q at *
              have CT := Lib.hid (Bad_any V0 q _ (HQK.out.below HBX.out) (by omega))
              unfold Iq.val at CT
              go_wp2_with fail
              clear e0 e1 e2
              refine CT.out.mono ?_
              rintro e3 V3 ⟨rfl, hb3⟩
              have HB3 := Lib.hid (HBX.out.trans (hb3.mono HBX.out.size))
              have HBW := Lib.hid (HC.out.below.trans (HB3.out.mono HC.out.below.size))
              clear hb3 CT
              obtain ⟨bq, hbq⟩ : ∃ x, badM q.m = x := ⟨_, rfl⟩
              rw [hbq]
              rw [hbq] at HAN HYB
              clear hbq
              cases bq with
              | true =>
                have HRT := Lib.hid (HYB.out rfl)
                go_wp2
                go_ret
                exact ⟨by rw [HRT.out]; rfl, HBW.out⟩
              | false =>
                have HA1 := Lib.hid (HAN.out rfl)
                clear HAN HYB
                go_wp2
                go_roundw
                case rel => exact ⟨j + 1, by go_num, hjl, HA1.out, HB3.out⟩
                case measure => simp [intOf]; omega
            · obtain rfl : j = n1 := by omega
              have hjl2 : ¬ ((j : Int) < (j : Int)) := by omega
              have HBW := Lib.hid (HC.out.below.trans (HBX.out.mono HC.out.below.size))
              have HRF := Lib.hid (show r = false by
                have ha := HALL.out
                rw [List.take_of_length_le (by rw [← HN.out]; exact Nat.le_refl _)] at ha
                rw [HRA.out, List.any_eq_false]
                intro x hx
                obtain ⟨q, hq, rfl⟩ := List.mem_map.1 hx
                have := List.all_eq_true.1 ha q hq
                simpa using this)
              go_wp2
              go_ret
              exact ⟨by rw [HRF.out]; rfl, HBW.out⟩
        have hkb : ((kn : Int) == 0) = false := by simp only [beq_eq_false_iff_ne, ne_eq]; omega
        have hki : ¬ ((kn : Int) = 0) := by omega
        by_cases hk2 : kn = 2
        case neg =>
          have HRF := Lib.hid (HKX.out hk0 hk2)
          have hkb2 : ((kn : Int) == 2) = false := by simp only [beq_eq_false_iff_ne, ne_eq]; omega
          have hkb3 : ((kn : Int) != 2) = true := by simp only [bne_iff_ne, ne_eq]; omega
          have hki2 : ¬ ((kn : Int) = 2) := by omega
          have HBW := Lib.hid HC.out.below
          clear hk0 hk2
          go_upto_region 18 with fail
          go_quiet (fail)
          go_wp2
          go_ret
          exact ⟨by rw [HRF.out]; rfl, below_drewN HC.out.below⟩
        subst hk2
        obtain ⟨kk0, kk1, rfl⟩ : ∃ a b, K = [a, b] := by
          have := HKL.out
          rcases K with _ | ⟨a, _ | ⟨b, _ | ⟨c, K⟩⟩⟩
          · cases this
          · cases this
          · exact ⟨_, _, rfl⟩
          · cases this
        have HRA := Lib.hid (HK2.out kk0 kk1 rfl _ HRS.out)
        have hFl : F.length = fn := HF.out.len
        have HFL := Lib.hid hFl
        have HWQ := Lib.hid HC.out.width
        have hnq1 : Q'.length ≤ 10000 := by omega
        have HN1 := Lib.hid hnq1
        obtain ⟨n1, hn⟩ : ∃ n, n = Q'.length := ⟨_, rfl⟩
        have HN := Lib.hid hn
        have hn10 : n1 ≤ 10000 := by omega
        rw [← hn]
        have p1 : X0.cell? ⟨kp, 1, none⟩ = some (.slice fA fn fc) := HP.out.cell 1
        clear hFl hn hk0
        have p4 : X0.cell? ⟨kp, 4, none⟩ = some (.slice kA 2 kc) := HP.out.cell 4
        have hk22 : (((2 : Nat) : Int) == 2) = true := rfl
        go_upto_region 18 with fail
        by_cases hbad : 0 < n1 ∧ fn ≠ wd
        · obtain ⟨hn0, hne⟩ := hbad
          have HRF := Lib.hid (show r = false by
            rw [HRA.out, if_pos]
            refine ⟨fun e => ?_, by rw [List.length_map, HFL.out, HWQ.out.2]; exact hne⟩
            have := congrArg List.length e
            rw [List.length_map, ← HN.out] at this
            simp at this
            omega)
          have hnq : 0 < Q'.length := by rw [← HN.out]; exact hn0
          have HIN2 := HIN.out.1
          rw [← HN.out] at HIN2
          obtain ⟨bQ, offQ, rfl, -, hcq⟩ := at3 (fun _ => rfl) HIN2 hn0
          obtain ⟨e0, -, -⟩ := hcq X0 (Below.refl _ _) 0 hnq _ _ _ rfl
          rw [Nat.zero_mul, Nat.add_zero, HC.out.sys _ (List.getElem_mem hnq)] at e0
          have hg0 : (n1 : Int) > 0 := by omega
          have hgd : decide ((n1 : Int) > 0) = true := decide_eq_true hg0
          have hnd : ((fn : Int) != (wd : Int)) = true := by simp only [bne_iff_ne, ne_eq]; omega
          have hnd2 : ((fn : Int) == (wd : Int)) = false := by simp only [beq_eq_false_iff_ne, ne_eq]; omega
          have hndp : ¬ ((fn : Int) = (wd : Int)) := by omega
          have HBW := Lib.hid (below_drew HC.out.below)
          clear hne hcq HIN2
          go_quiet (fail)
          go_wp2
          go_ret
          exact ⟨by rw [HRF.out]; rfl, below_drewN HC.out.below⟩
        have HOKW := Lib.hid (show 0 < n1 → wd = fn from fun h => by
          by_cases e : fn = wd
          · exact e.symm
          · exact absurd ⟨h, e⟩ hbad)
        clear hbad
        go_cut [77] from 58 (fun s77 wx => s77 = .bool false ∧ ∃ W9, W9 = wx ∧ Below X0.heap.size X0 W9)
        case first =>
          have HBD := Lib.hid (below_drew (Below.refl X0.heap.size X0))
          by_cases hn0 : 0 < n1
          · have hnq : 0 < Q'.length := by rw [← HN.out]; exact hn0
            have HIN2 := HIN.out.1
            rw [← HN.out] at HIN2
            obtain ⟨bQ, offQ, rfl, -, hcq⟩ := at3 (fun _ => rfl) HIN2 hn0
            obtain ⟨e0, -, -⟩ := hcq X0 (Below.refl _ _) 0 hnq _ _ _ rfl
            rw [Nat.zero_mul, Nat.add_zero, HC.out.sys _ (List.getElem_mem hnq), HOKW.out hn0] at e0
            have hg0 : (n1 : Int) > 0 := by omega
            have hgd : decide ((n1 : Int) > 0) = true := decide_eq_true hg0
            clear hcq HIN2
            go_quiet (fail)
            go_wp2_with fail
            go_meet
            case rel => exact ⟨rfl, _, rfl, below_drewN (Below.refl _ _)⟩
          · have hg0 : ¬ ((n1 : Int) > 0) := by omega
            have hgd : decide ((n1 : Int) > 0) = false := decide_eq_false hg0
            go_quiet (fail)
            go_wp2_with fail
            go_meet
            case rel => exact ⟨rfl, _, rfl, below_drewN (Below.refl _ _)⟩
        case rest =>
          obtain ⟨rfl, W9, rfl, hb9⟩ := hcut
          have HC9 := Lib.hid (HC.out.keep hb9)
          have HP9 := Lib.hid (HP.out.below hb9)
          clear hb9 p1
          have p1 : W9.cell? ⟨kp, 1, none⟩ = some (.slice fA fn fc) := HP9.out.cell 1
          have p2 : W9.cell? ⟨kp, 2, none⟩ = some (.bool b.neg) := HP9.out.cell 2
          have p3 : W9.cell? ⟨kp, 3, none⟩ = some (.slice b.A b.n b.c) := HP9.out.cell 3
          obtain ⟨Wa, hWa⟩ : ∃ Wa, Wa = W9.alloc (.cells #[.slice fA fn fc, .bool b.neg, .slice b.A b.n b.c] 44) := ⟨_, rfl⟩
          obtain ⟨k10, hk10⟩ : ∃ k10, k10 = W9.heap.size := ⟨_, rfl⟩
          have hba : Below W9.heap.size W9 Wa := by rw [hWa]; exact (Below.refl _ _).alloc (Nat.le_refl _) _
          have KE := Lib.hid (show Blk Wa k10 44 #[.slice fA fn fc, .bool b.neg, .slice b.A b.n b.c] by rw [hWa]; exact Blk.new_ hk10 rfl)
          have HCa := Lib.hid (HC9.out.keep hba)
          have HPa := Lib.hid (HP9.out.below hba)
          clear hba
          go_upto_region 21 with fail
          rw [← hk10, ← hWa]
          clear hk10 hWa p1 p2 p3
          have p1 : Wa.cell? ⟨kp, 1, none⟩ = some (.slice fA fn fc) := HPa.out.cell 1
          have p2 : Wa.cell? ⟨kp, 2, none⟩ = some (.bool b.neg) := HPa.out.cell 2
          have p3 : Wa.cell? ⟨kp, 3, none⟩ = some (.slice b.A b.n b.c) := HPa.out.cell 3
          have e0 : Wa.cell? ⟨k10, 0, none⟩ = some (.slice fA fn fc) := KE.out.cell 0
          have e1 : Wa.cell? ⟨k10, 1, none⟩ = some (.bool b.neg) := KE.out.cell 1
          have e2 : Wa.cell? ⟨k10, 2, none⟩ = some (.slice b.A b.n b.c) := KE.out.cell 2
          clear p1
          have hb0 : Below Wa.heap.size Wa Wa.drew := below_drew (Below.refl _ _)
          have HLOW := Lib.hid (show ∀ W, Below Wa.heap.size Wa W → Iq.ok W (Ns + 1) ⟨fA, fn, fc, F, b⟩ from fun W hW => by
            have hbw := HCa.out.below.trans (hW.mono HCa.out.below.size)
            exact ⟨⟨(HF.out.below hbw).1, (HF.out.below hbw).2.1, fun x hx => BG.mono ((HF.out.below hbw).2.2 x hx) (Nat.le_succ _)⟩, BG.mono (HBO.out.below hbw) (Nat.le_succ _)⟩)
          have HBB := Lib.hid (show ∀ W, Below Wa.heap.size Wa W → BG W b.val b.z Ns from fun W hW => HBO.out.below (HCa.out.below.trans (hW.mono HCa.out.below.size)))
          have HBZ := Lib.hid (show b.z.natAbs < 4294967296 ^ Ns from BG.abs HBO.out)
          have hNsM : Ns ≤ 3900 := by omega
          refine wp_region_mix 8 (fun w' => Below Wa.heap.size Wa w') (by kernel_rfl) (by decide) ?_
          generalize Wa.drew = y0 at hb0 ⊢
          refine wpM_take (i := 0) (oi := ⟨some 83, _, _, _, _, _⟩) (v := ?_) rfl (by decide +kernel) (by decide +kernel) (by decide +kernel) (fun _ _ _ h => h) (Or.inl ⟨by rfl, ?_⟩) hb0 ?_
          case refine_2 =>
            intro w' hSw
            have e0' := keepcell hSw e0
            have e1' := keepcell hSw e1
            have e2' := keepcell hSw e2
            go_simp
            try (with_reducible rfl)
          try simp only [Act.put, List.setIfInBounds_toArray, List.set_cons_zero, List.set_cons_succ]
          refine wpM_take (i := 1) (oi := ⟨some 84, _, _, _, _, _⟩) (v := ?_) rfl (by decide +kernel) (by decide +kernel) (by decide +kernel) (fun _ _ _ h => h) (Or.inl ⟨by rfl, ?_⟩) hb0 ?_
          case refine_2 =>
            intro w' hSw
            skip
            go_simp
            try (with_reducible rfl)
          try simp only [Act.put, List.setIfInBounds_toArray, List.set_cons_zero, List.set_cons_succ]
          refine wpM_take (i := 2) (oi := ⟨some 85, _, _, _, _, _⟩) (v := ?_) rfl (by decide +kernel) (by decide +kernel) (by decide +kernel) (fun _ _ _ h => h) (Or.inl ⟨by rfl, ?_⟩) hb0 ?_
          case refine_2 =>
            intro w' hSw
            have p2' := keepcell hSw p2
            have p3' := keepcell hSw p3
            go_simp
            try (with_reducible rfl)
          try simp only [Act.put, List.setIfInBounds_toArray, List.set_cons_zero, List.set_cons_succ]
          refine wpM_chains (fun i => if i = 7 then 11 else 83 + i) [3, 4, 5, 6, 7] (fun i v W => (i = 3 → NB W Wa.heap.size v (-b.z) Ns) ∧ (i = 4 → NB W Wa.heap.size v 1 1) ∧ (i = 5 → NB W Wa.heap.size v (-b.z - 1) (Ns + 1)) ∧ (i = 6 → ∃ q : Iq, v = q.val ∧ q.m = (F.map (fun b => -b.z), -b.z - 1) ∧ q.n = fn ∧ IqF W Wa.heap.size q (Ns + 1)) ∧ (i = 7 → ∃ g, v = Value.pointer (some ⟨g, 0, none⟩) ∧ Blk W g 44 #[.slice none 0 0, .bool false, .slice none 0 0] ∧ Wa.heap.size ≤ g) ∧ True) (by decide +kernel) (fun i v W W' h0 hb => ⟨fun e => (fun h => h.below hb) (h0.1 e), fun e => (fun h => h.below hb) (h0.2.1 e), fun e => (fun h => h.below hb) (h0.2.2.1 e), fun e => (fun h => let ⟨q, h1, h2, h3, h4⟩ := h; ⟨q, h1, h2, h3, h4.below hb⟩) (h0.2.2.2.1 e), fun e => (fun h => let ⟨g, e, s, z⟩ := h; ⟨g, e, s.below hb, z⟩) (h0.2.2.2.2.1 e), trivial⟩) hb0 ?_ ?_
          · refine List.forall_mem_cons.2 ⟨?_, List.forall_mem_cons.2 ⟨?_, List.forall_mem_cons.2 ⟨?_, List.forall_mem_cons.2 ⟨?_, List.forall_mem_cons.2 ⟨?_, List.forall_mem_nil _⟩⟩⟩⟩⟩
            · refine ⟨⟨some 86, _, _, _, _, _⟩, rfl, rfl, fun vs W K hS hd hK => ?_⟩
              simp only [puts, List.foldl_cons, List.foldl_nil, Act.put, List.setIfInBounds_toArray, List.set_cons_zero, List.set_cons_succ, Nat.reduceAdd, Nat.reduceSub, Nat.reduceEqDiff, reduceIte] at hK ⊢
              have CN := Lib.hid (RNeg_any b.val b.z Ns W (HBB.out W hS) (by omega))
              unfold Bg.val at CN
              go_simp
              refine CN.out.mono ?_
              rintro e W' ⟨v, rfl, hv, hb⟩
              refine hK _ _ (hS.trans (hb.mono hS.size)) hb ⟨fun _ => (hv.mono hS.size (Nat.le_refl _)).tight (by rw [Int.natAbs_neg]; exact HBZ.out), fun e => absurd e (by decide), fun e => absurd e (by decide), fun e => absurd e (by decide), fun e => absurd e (by decide), trivial⟩
            · refine ⟨⟨some 87, _, _, _, _, _⟩, rfl, rfl, fun vs W K hS hd hK => ?_⟩
              simp only [puts, List.foldl_cons, List.foldl_nil, Act.put, List.setIfInBounds_toArray, List.set_cons_zero, List.set_cons_succ, Nat.reduceAdd, Nat.reduceSub, Nat.reduceEqDiff, reduceIte] at hK ⊢
              have CN := Lib.hid (ROf_any 1 W (by decide) (by decide))
              go_simp
              refine CN.out.mono ?_
              rintro e W' ⟨v, rfl, hv, hb⟩
              refine hK _ _ (hS.trans (hb.mono hS.size)) hb ⟨fun e => absurd e (by decide), fun _ => (hv.mono hS.size (Nat.le_refl _)).tight (by decide), fun e => absurd e (by decide), fun e => absurd e (by decide), fun e => absurd e (by decide), trivial⟩
            · refine ⟨⟨some 88, _, _, _, _, _⟩, rfl, rfl, fun vs W K hS hd hK => ?_⟩
              obtain h3 := (hd 3 (by decide) (by decide +kernel)).1 rfl
              obtain h4 := (hd 4 (by decide) (by decide +kernel)).2.1 rfl
              simp only [puts, List.foldl_cons, List.foldl_nil, Act.put, List.setIfInBounds_toArray, List.set_cons_zero, List.set_cons_succ, Nat.reduceAdd, Nat.reduceSub, Nat.reduceEqDiff, reduceIte] at hK ⊢
              have CN := Lib.hid (RSub_any (vs 3) (vs 4) (-b.z) 1 (Ns + 1) W (h3.bg.mono (Nat.le_succ _)) (h4.bg.mono (by omega)) (by omega))
              go_simp
              refine CN.out.mono ?_
              rintro e W' ⟨v, rfl, hv, hb⟩
              refine hK _ _ (hS.trans (hb.mono hS.size)) hb ⟨fun e => absurd e (by decide), fun e => absurd e (by decide), fun _ => (hv.mono hS.size (Nat.le_refl _)).tight (sub_fit HBZ.out), fun e => absurd e (by decide), fun e => absurd e (by decide), trivial⟩
            · refine ⟨⟨some 89, _, _, _, _, _⟩, rfl, rfl, fun vs W K hS hd hK => ?_⟩
              obtain h5 := (hd 5 (by decide) (by decide +kernel)).2.2.1 rfl
              simp only [puts, List.foldl_cons, List.foldl_nil, Act.put, List.setIfInBounds_toArray, List.set_cons_zero, List.set_cons_succ, Nat.reduceAdd, Nat.reduceSub, Nat.reduceEqDiff, reduceIte] at hK ⊢
              obtain ⟨bd, e5, hz5, hok5⟩ := NB.toBg h5
              have CN := Lib.hid (flip_any W ⟨fA, fn, fc, F, b⟩ bd (Ns + 1) (HLOW.out W hS) hok5 (by omega) (by dsimp only; omega))
              rw [hz5, ← e5] at CN
              clear e5 hz5 hok5 h5 hd
              unfold Iq.val at CN
              dsimp only at CN
              go_simp
              refine CN.out.mono ?_
              rintro e W' ⟨q, rfl, hm, hqn, hf, hb⟩
              refine hK _ _ (hS.trans (hb.mono hS.size)) hb ⟨fun e => absurd e (by decide), fun e => absurd e (by decide), fun e => absurd e (by decide), fun _ => ⟨q, rfl, hm, hqn, ⟨hf.1, hf.2.1, ⟨hf.2.2.1.1, hf.2.2.1.2.imp id fun ⟨g, cap, cur, e, hg, r⟩ => ⟨g, cap, cur, e, Nat.le_trans hS.size hg, r⟩⟩, fun x hx => (hf.2.2.2.1 x hx).mono hS.size (Nat.le_refl _), hf.2.2.2.2.mono hS.size (Nat.le_refl _)⟩⟩, fun e => absurd e (by decide), trivial⟩
            · refine ⟨⟨some 11, _, _, _, _, _⟩, rfl, rfl, fun vs W K hS hd hK => ?_⟩
              simp only [puts, List.foldl_cons, List.foldl_nil, Act.put, List.setIfInBounds_toArray, List.set_cons_zero, List.set_cons_succ, Nat.reduceAdd, Nat.reduceSub, Nat.reduceEqDiff, reduceIte] at hK ⊢
              go_simp
              have hb : Below W.heap.size W (W.alloc (.cells #[.slice none 0 0, .bool false, .slice none 0 0] 44)) := (Below.refl _ _).alloc (Nat.le_refl _) _
              refine hK _ _ (hS.trans (hb.mono hS.size)) hb ⟨fun e => absurd e (by decide), fun e => absurd e (by decide), fun e => absurd e (by decide), fun e => absurd e (by decide), fun _ => ⟨_, rfl, Blk.new _ _ _, hS.size⟩, trivial⟩
          · intro vs W hS hd
            obtain ⟨q2, e6, hq2m, hq2n, hq2⟩ := (hd 6 (by decide)).2.2.2.1 rfl
            obtain ⟨k11, e7, kb, hk11⟩ := (hd 7 (by decide)).2.2.2.2.1 rfl
            simp only [puts, List.foldl_cons, List.foldl_nil, Act.put, List.setIfInBounds_toArray, List.set_cons_zero, List.set_cons_succ, Nat.reduceAdd, Nat.reduceSub, Nat.reduceEqDiff, reduceIte]
            simp only [e6, e7]
            clear e0 e1 e2 p2 p3
            simp only [List.drop_succ_cons, List.drop_zero]
            have b0 : W.cell? ⟨k11, 0, none⟩ = some (.slice none 0 0) := kb.cell 0
            have b1 : W.cell? ⟨k11, 1, none⟩ = some (.bool false) := kb.cell 1
            have b2 : W.cell? ⟨k11, 2, none⟩ = some (.slice none 0 0) := kb.cell 2
            have f0 := Joins.unfrozen_of_block kb 0
            have f1 := Joins.unfrozen_of_block kb 1
            have f2 := Joins.unfrozen_of_block kb 2
            have HS3 := Lib.hid (store3 kb (.slice q2.A q2.n q2.c) (.bool q2.b.neg) (.slice q2.b.A q2.b.n q2.b.c))
            have HQ2 := Lib.hid (hq2.store kb (.slice q2.A q2.n q2.c) (.bool q2.b.neg) (.slice q2.b.A q2.b.n q2.b.c))
            have hbz := HS3.out.2 _ _ hS hk11
            have HQ2M := Lib.hid hq2m
            have HQ2N := Lib.hid hq2n
            clear hq2 kb hd hq2m hq2n e6 e7 hk11
            obtain ⟨Wz, hWz⟩ : ∃ Wz, Wz = ((W.setCell ⟨k11, 0, none⟩ (.slice q2.A q2.n q2.c)).setCell ⟨k11, 1, none⟩ (.bool q2.b.neg)).setCell ⟨k11, 2, none⟩ (.slice q2.b.A q2.b.n q2.b.c) := ⟨_, rfl⟩
            rw [← hWz] at HS3 HQ2 hbz
            unfold Iq.val
            go_upto_region 22 with fail
            rw [← hWz]
            clear hWz b0 b1 b2 f0 f1 f2 hS
            have HCz := Lib.hid (HCa.out.keep hbz)
            have HPz := Lib.hid (HPa.out.below hbz)
            have KEz := Lib.hid (KE.out.below hbz)
            have K11 := Lib.hid HS3.out.1
            have HLZ := Lib.hid (HLOW.out Wz hbz)
            have HQZ := Lib.hid HQ2.out.ok
            clear hbz HS3 HQ2 HLOW HBB
            generalize vs = vs' at *
            obtain ⟨bK, offK, rfl, -, hck⟩ := at5 Pf.cells_len HKA.out (by decide)
            have HCK := Lib.hid hck
            obtain ⟨x0, x1, x2, x3, x4, hx⟩ : ∃ x0 x1 x2 x3 x4, kk0.cells = [x0, x1, x2, x3, x4] := by cases kk0; exact ⟨_, _, _, _, _, rfl⟩
            obtain ⟨t0, t1, t2, t3, t4, ht⟩ : ∃ x0 x1 x2 x3 x4, kk1.cells = [x0, x1, x2, x3, x4] := by cases kk1; exact ⟨_, _, _, _, _, rfl⟩
            have HX := Lib.hid hx
            have HT := Lib.hid ht
            have HV0 := Lib.hid (show kk0.val = .agg #[x0, x1, x2, x3, x4] by unfold Pf.val; rw [hx])
            have HV1 := Lib.hid (show kk1.val = .agg #[t0, t1, t2, t3, t4] by unfold Pf.val; rw [ht])
            clear hck hx ht
            have HW2 := Lib.hid (show 0 < Q'.length → wd = fn from fun h => HOKW.out (by rw [HN.out]; exact h))
            have HRB := Lib.hid (show r = (chk kk0.m ((Q' ++ [(⟨fA, fn, fc, F, b⟩ : Iq)]).map Iq.m) && chk kk1.m ((Q' ++ [q2]).map Iq.m)) by
              rw [HRA.out, if_neg, List.map_append, List.map_append]
              · rw [show [q2].map Iq.m = [((F.map Bg.z).map (fun z => -z), -1 - b.z)] by rw [List.map_cons, List.map_nil, HQ2M.out, List.map_map, show -b.z - 1 = -1 - b.z by omega]; rfl]
                rfl
              · intro hcc
                have hq : 0 < Q'.length := by
                  rcases Q' with _ | ⟨a, Q'⟩
                  · exact absurd rfl hcc.1
                  · exact Nat.zero_lt_succ _
                rw [List.length_map, HFL.out, HWQ.out.2, HW2.out hq] at hcc
                exact hcc.2 rfl)
            have HSZK := Lib.hid (show ∀ kk ∈ [kk0, kk1], sizeP kk.m + 1 ≤ sz from fun kk hkk => by
              have h1 := HSZ.out
              simp only [List.map_cons, List.map_nil, List.length_cons, List.length_nil, List.sum_cons, List.sum_nil] at h1
              simp at h1
              rcases List.mem_cons.1 hkk with rfl | hkk
              · omega
              · rw [List.mem_singleton.1 hkk]
                omega)
            obtain ⟨N2, hN2⟩ : ∃ N2, N2 = Nl + (k + 1) * (Ns + 3) := ⟨_, rfl⟩
            have HNW := Lib.hid (show Nl + k * (Ns + 3) ≤ N2 by rw [hN2, Nat.add_mul]; omega)
            have HNS := Lib.hid (show Ns + 1 ≤ N2 by rw [hN2, Nat.add_mul]; omega)
            have HWS := Lib.hid (show ∀ q : Iq, q.n = fn → (∀ (W : World) (N : Nat), q.ok W N → ∀ W' : World, (∀ x ∈ Q', Iq.ok W' N x) → sysM ((Q' ++ [q]).map Iq.m) = true) from fun q hqn W N hqo W' hQo => by
              unfold sysM
              rw [List.all_eq_true]
              intro m hm
              have hall : ∀ x ∈ Q' ++ [q], x.m.1.length = fn := fun x hx => by
                rcases List.mem_append.1 hx with hx | hx
                · have hpos : 0 < Q'.length := List.length_pos_of_mem hx
                  rw [← (hQo x hx).width, HC.out.sys x hx, HW2.out hpos]
                · rw [List.mem_singleton.1 hx, ← hqo.width, hqn]
              have hwdt : widthM ((Q' ++ [q]).map Iq.m) = fn := by
                cases hQ' : Q' with
                | nil => exact hall q (by simp)
                | cons a Q'' => exact hall a (by rw [hQ']; simp)
              rw [hwdt]
              obtain ⟨x, hx, rfl⟩ := List.mem_map.1 hm
              simpa using hall x hx)
            have HGO := Lib.hid (fun (kk : Pf) (hkk : kk ∈ [kk0, kk1]) (z : World) (A : Option Addr) (c : Nat) (q : Iq) (hb : Below w.heap.size w z) (hq : Ineqs z A (Q'.length + 1) (Q' ++ [q]) N2) (hqn : q.n = fn) => HIH.out kk (HPS.out kk hkk) z A (Q'.length + 1) c (Q' ++ [q]) N2 Ns hq ((HKO.out kk hkk).keep hb) (fun x hx => by
                rcases List.mem_append.1 hx with hx | hx
                · rw [HC.out.sys x hx]; exact hwd
                · rw [List.mem_singleton.1 hx, hqn]; exact hfn) (by rw [hN2]; omega) (by
                have h1 := HSZK.out kk hkk
                have h2 := HLEN.out
                have h3 := HQl.out
                omega) (by
                have h1 := HSZK.out kk hkk
                have h2 := HTOT.out
                have h3 : (k + 1) * (Ns + 3) + sizeP kk.m * (Ns + 3) ≤ (k + sz) * (Ns + 3) := by rw [← Nat.add_mul]; exact Nat.mul_le_mul_right _ (by omega)
                omega))
            clear hN2
            have g0Wl : Wz.cell? ⟨k10, 0, none⟩ = some (.slice fA fn fc) := KEz.out.cell 0
            have g1Wl : Wz.cell? ⟨k10, 1, none⟩ = some (.bool b.neg) := KEz.out.cell 1
            have g2Wl : Wz.cell? ⟨k10, 2, none⟩ = some (.slice b.A b.n b.c) := KEz.out.cell 2
            have hb0Wl : Below Wz.heap.size Wz Wz.drew := below_drew (Below.refl _ _)
            refine wp_region_mix 5 (fun w' => Below Wz.heap.size Wz w') (by kernel_rfl) (by decide) ?_
            generalize Wz.drew = y0Wl at hb0Wl ⊢
            refine wpM_take (i := 1) (oi := ⟨some 91, _, _, _, _, _⟩) (v := ?_) rfl (by decide +kernel) (by decide +kernel) (by decide +kernel) (fun _ _ _ h => h) (Or.inl ⟨by rfl, ?_⟩) hb0Wl ?_
            case refine_2 =>
              intro w' hSw
              skip
              go_simp
              try (with_reducible rfl)
            try simp only [Act.put, List.setIfInBounds_toArray, List.set_cons_zero, List.set_cons_succ]
            refine wpM_take (i := 3) (oi := ⟨some 93, _, _, _, _, _⟩) (v := ?_) rfl (by decide +kernel) (by decide +kernel) (by decide +kernel) (fun _ _ _ h => h) (Or.inl ⟨by rfl, ?_⟩) hb0Wl ?_
            case refine_2 =>
              intro w' hSw
              have g0Wl' := keepcell hSw g0Wl
              have g1Wl' := keepcell hSw g1Wl
              have g2Wl' := keepcell hSw g2Wl
              go_simp
              try (with_reducible rfl)
            try simp only [Act.put, List.setIfInBounds_toArray, List.set_cons_zero, List.set_cons_succ]
            clear g0Wl g1Wl g2Wl
            refine wpM_chains (fun i => 90 + i) [0, 2, 4] (fun i v W => (i = 0 → ∃ g, v = Value.slice (some ⟨g, 0, none⟩) 0 0 ∧ Blk W g 44 #[] ∧ Wz.heap.size ≤ g) ∧ (i = 2 → W.ownsRow Wz.heap.size 44 3 v Q'.length (Q'.flatMap Iq.cells)) ∧ (i = 4 → ∃ g, v = Value.slice (some ⟨g, 0, none⟩) 1 1 ∧ Blk W g 44 #[.slice fA fn fc, .bool b.neg, .slice b.A b.n b.c]) ∧ True) (by decide +kernel) (fun i v W W' h0 hb => ⟨fun e => (fun h => let ⟨g, e, k, q⟩ := h; ⟨g, e, k.below hb, q⟩) (h0.1 e), fun e => (fun h => ownI_below h hb) (h0.2.1 e), fun e => (fun h => let ⟨g, e, k⟩ := h; ⟨g, e, k.below hb⟩) (h0.2.2.1 e), trivial⟩) hb0Wl ?_ ?_
            · refine List.forall_mem_cons.2 ⟨?_, List.forall_mem_cons.2 ⟨?_, List.forall_mem_cons.2 ⟨?_, List.forall_mem_nil _⟩⟩⟩
              · refine ⟨⟨some 90, _, _, _, _, _⟩, rfl, rfl, fun vs W K hS hd hK => ?_⟩
                simp only [puts, List.foldl_cons, List.foldl_nil, Act.put, List.setIfInBounds_toArray, List.set_cons_zero, List.set_cons_succ, Nat.reduceAdd, Nat.reduceSub, Nat.reduceEqDiff, reduceIte] at hK ⊢
                go_simp
                have hb : Below W.heap.size W (W.alloc (.cells #[] 44)) := (Below.refl _ _).alloc (Nat.le_refl _) _
                exact hK _ _ (hS.trans (hb.mono hS.size)) hb ⟨fun _ => ⟨_, rfl, Blk.new _ _ _, hS.size⟩, fun e => absurd e (by decide), fun e => absurd e (by decide), trivial⟩
              · refine ⟨⟨some 92, _, _, _, _, _⟩, rfl, rfl, fun vs W K hS hd hK => ?_⟩
                obtain ⟨g, e1, k1, q1⟩ := (hd 0 (by decide) (by decide +kernel)).1 rfl
                simp only [puts, List.foldl_cons, List.foldl_nil, Act.put, List.setIfInBounds_toArray, List.set_cons_zero, List.set_cons_succ, Nat.reduceAdd, Nat.reduceSub, Nat.reduceEqDiff, reduceIte] at hK ⊢
                simp only [e1] at hK ⊢
                rw [if_pos (by rfl)]
                refine wp_append_new W (.tmp 90) (.tmp 91) 30 30 (by rfl) Wz.heap.size 44 i0 _ 3 56 Try.underlying30 HI0.out HI1.out HI2.out HI3.out rfl g q1 (by rfl) k1 (.slice qA n1 qc) n1 (Q'.flatMap Iq.cells) (by rfl) (by rw [HN.out]; exact At.src Try.underlying30 (At.below (own_at_slice HCz.out.own) hS) (iqs_one Q') (by decide)) (by unfold maxLen; omega) (by omega) ?_
                intro v' W' ho hb
                rw [HN.out] at ho
                exact hK _ _ (hS.trans (hb.mono hS.size)) hb ⟨fun e => absurd e (by decide), fun _ => ho, fun e => absurd e (by decide), trivial⟩
              · refine ⟨⟨some 94, _, _, _, _, _⟩, rfl, rfl, fun vs W K hS hd hK => ?_⟩
                simp only [puts, List.foldl_cons, List.foldl_nil, Act.put, List.setIfInBounds_toArray, List.set_cons_zero, List.set_cons_succ, Nat.reduceAdd, Nat.reduceSub, Nat.reduceEqDiff, reduceIte] at hK ⊢
                go_simp
                have hb : Below W.heap.size W (W.alloc (.cells #[.slice fA fn fc, .bool b.neg, .slice b.A b.n b.c] 44)) := (Below.refl _ _).alloc (Nat.le_refl _) _
                exact hK _ _ (hS.trans (hb.mono hS.size)) hb ⟨fun e => absurd e (by decide), fun e => absurd e (by decide), fun _ => ⟨_, rfl, Blk.new _ _ _⟩, trivial⟩
            · intro vs W hS hd
              obtain o2 := (hd 2 (by decide)).2.1 rfl
              obtain ⟨g, e5, k5⟩ := (hd 4 (by decide)).2.2.1 rfl
              simp only [puts, List.foldl_cons, List.foldl_nil, Act.put, List.setIfInBounds_toArray, List.set_cons_zero, List.set_cons_succ, Nat.reduceAdd, Nat.reduceSub, Nat.reduceEqDiff, reduceIte]
              simp only [e5]
              clear hd
              simp only [List.drop_succ_cons, List.drop_zero]
              refine wpList_append_src W rfl (.tmp 92) (.tmp 94) 30 30 rfl Wz.heap.size 44 i0 _ 3 56 Try.underlying30 HI0.out HI1.out HI2.out HI3.out rfl _ Q'.length (Q'.flatMap Iq.cells) rfl o2 _ 1 (Iq.cells (⟨fA, fn, fc, F, b⟩ : Iq)) rfl (src_blk Try.underlying30 rfl (fun u hu => iqs_one [(⟨fA, fn, fc, F, b⟩ : Iq)] u (by simpa using hu)) k5) (by unfold maxLen; omega) (by omega) hS.size ?_
              intro v' Wl own' hg _
              have hbWl : Below Wz.heap.size Wz Wl := hS.grown hg hS.size (fun j hj => (o2.lt j hj).1)
              obtain ⟨AWl, cWl, rfl, hatWl, -, -⟩ := At.of_own own'
              have HIWl := Lib.hid (show Ineqs Wl AWl (Q'.length + 1) (Q' ++ [(⟨fA, fn, fc, F, b⟩ : Iq)]) N2 from ⟨by rw [List.flatMap_append, List.flatMap_cons, List.flatMap_nil, List.append_nil]; exact hatWl, by omega, fun x hx => by
                rcases List.mem_append.1 hx with hx | hx
                · exact ((HCz.out.sf x hx).ok.below hbWl).wide HNW.out
                · rw [List.mem_singleton.1 hx]; exact ((HLZ.out).below hbWl).wide HNS.out⟩)
              clear own' hg o2 k5 e5 hatWl hS
              generalize vs = vsWl at *
              have HCl := Lib.hid (HCz.out.keep hbWl)
              have K11z := Lib.hid (K11.out.below hbWl)
              have HQZl := Lib.hid (HQZ.out.below hbWl)
              go_upto_region 23 with fail
              have g0Wr : Wl.cell? ⟨k11, 0, none⟩ = some (.slice q2.A q2.n q2.c) := K11z.out.cell 0
              have g1Wr : Wl.cell? ⟨k11, 1, none⟩ = some (.bool q2.b.neg) := K11z.out.cell 1
              have g2Wr : Wl.cell? ⟨k11, 2, none⟩ = some (.slice q2.b.A q2.b.n q2.b.c) := K11z.out.cell 2
              have hb0Wr : Below Wl.heap.size Wl Wl.drew := below_drew (Below.refl _ _)
              refine wp_region_mix 5 (fun w' => Below Wl.heap.size Wl w') (by kernel_rfl) (by decide) ?_
              generalize Wl.drew = y0Wr at hb0Wr ⊢
              refine wpM_take (i := 1) (oi := ⟨some 97, _, _, _, _, _⟩) (v := ?_) rfl (by decide +kernel) (by decide +kernel) (by decide +kernel) (fun _ _ _ h => h) (Or.inl ⟨by rfl, ?_⟩) hb0Wr ?_
              case refine_2 =>
                intro w' hSw
                skip
                go_simp
                try (with_reducible rfl)
              try simp only [Act.put, List.setIfInBounds_toArray, List.set_cons_zero, List.set_cons_succ]
              refine wpM_take (i := 3) (oi := ⟨some 99, _, _, _, _, _⟩) (v := ?_) rfl (by decide +kernel) (by decide +kernel) (by decide +kernel) (fun _ _ _ h => h) (Or.inl ⟨by rfl, ?_⟩) hb0Wr ?_
              case refine_2 =>
                intro w' hSw
                have g0Wr' := keepcell hSw g0Wr
                have g1Wr' := keepcell hSw g1Wr
                have g2Wr' := keepcell hSw g2Wr
                go_simp
                try (with_reducible rfl)
              try simp only [Act.put, List.setIfInBounds_toArray, List.set_cons_zero, List.set_cons_succ]
              clear g0Wr g1Wr g2Wr
              refine wpM_chains (fun i => 96 + i) [0, 2, 4] (fun i v W => (i = 0 → ∃ g, v = Value.slice (some ⟨g, 0, none⟩) 0 0 ∧ Blk W g 44 #[] ∧ Wl.heap.size ≤ g) ∧ (i = 2 → W.ownsRow Wl.heap.size 44 3 v Q'.length (Q'.flatMap Iq.cells)) ∧ (i = 4 → ∃ g, v = Value.slice (some ⟨g, 0, none⟩) 1 1 ∧ Blk W g 44 #[.slice q2.A q2.n q2.c, .bool q2.b.neg, .slice q2.b.A q2.b.n q2.b.c]) ∧ True) (by decide +kernel) (fun i v W W' h0 hb => ⟨fun e => (fun h => let ⟨g, e, k, q⟩ := h; ⟨g, e, k.below hb, q⟩) (h0.1 e), fun e => (fun h => ownI_below h hb) (h0.2.1 e), fun e => (fun h => let ⟨g, e, k⟩ := h; ⟨g, e, k.below hb⟩) (h0.2.2.1 e), trivial⟩) hb0Wr ?_ ?_
              · refine List.forall_mem_cons.2 ⟨?_, List.forall_mem_cons.2 ⟨?_, List.forall_mem_cons.2 ⟨?_, List.forall_mem_nil _⟩⟩⟩
                · refine ⟨⟨some 96, _, _, _, _, _⟩, rfl, rfl, fun vs W K hS hd hK => ?_⟩
                  simp only [puts, List.foldl_cons, List.foldl_nil, Act.put, List.setIfInBounds_toArray, List.set_cons_zero, List.set_cons_succ, Nat.reduceAdd, Nat.reduceSub, Nat.reduceEqDiff, reduceIte] at hK ⊢
                  go_simp
                  have hb : Below W.heap.size W (W.alloc (.cells #[] 44)) := (Below.refl _ _).alloc (Nat.le_refl _) _
                  exact hK _ _ (hS.trans (hb.mono hS.size)) hb ⟨fun _ => ⟨_, rfl, Blk.new _ _ _, hS.size⟩, fun e => absurd e (by decide), fun e => absurd e (by decide), trivial⟩
                · refine ⟨⟨some 98, _, _, _, _, _⟩, rfl, rfl, fun vs W K hS hd hK => ?_⟩
                  obtain ⟨g, e1, k1, q1⟩ := (hd 0 (by decide) (by decide +kernel)).1 rfl
                  simp only [puts, List.foldl_cons, List.foldl_nil, Act.put, List.setIfInBounds_toArray, List.set_cons_zero, List.set_cons_succ, Nat.reduceAdd, Nat.reduceSub, Nat.reduceEqDiff, reduceIte] at hK ⊢
                  simp only [e1] at hK ⊢
                  rw [if_pos (by rfl)]
                  refine wp_append_new W (.tmp 96) (.tmp 97) 30 30 (by rfl) Wl.heap.size 44 i0 _ 3 56 Try.underlying30 HI0.out HI1.out HI2.out HI3.out rfl g q1 (by rfl) k1 (.slice qA n1 qc) n1 (Q'.flatMap Iq.cells) (by rfl) (by rw [HN.out]; exact At.src Try.underlying30 (At.below (own_at_slice HCl.out.own) hS) (iqs_one Q') (by decide)) (by unfold maxLen; omega) (by omega) ?_
                  intro v' W' ho hb
                  rw [HN.out] at ho
                  exact hK _ _ (hS.trans (hb.mono hS.size)) hb ⟨fun e => absurd e (by decide), fun _ => ho, fun e => absurd e (by decide), trivial⟩
                · refine ⟨⟨some 100, _, _, _, _, _⟩, rfl, rfl, fun vs W K hS hd hK => ?_⟩
                  simp only [puts, List.foldl_cons, List.foldl_nil, Act.put, List.setIfInBounds_toArray, List.set_cons_zero, List.set_cons_succ, Nat.reduceAdd, Nat.reduceSub, Nat.reduceEqDiff, reduceIte] at hK ⊢
                  go_simp
                  have hb : Below W.heap.size W (W.alloc (.cells #[.slice q2.A q2.n q2.c, .bool q2.b.neg, .slice q2.b.A q2.b.n q2.b.c] 44)) := (Below.refl _ _).alloc (Nat.le_refl _) _
                  exact hK _ _ (hS.trans (hb.mono hS.size)) hb ⟨fun e => absurd e (by decide), fun e => absurd e (by decide), fun _ => ⟨_, rfl, Blk.new _ _ _⟩, trivial⟩
              · intro vs W hS hd
                obtain o2 := (hd 2 (by decide)).2.1 rfl
                obtain ⟨g, e5, k5⟩ := (hd 4 (by decide)).2.2.1 rfl
                simp only [puts, List.foldl_cons, List.foldl_nil, Act.put, List.setIfInBounds_toArray, List.set_cons_zero, List.set_cons_succ, Nat.reduceAdd, Nat.reduceSub, Nat.reduceEqDiff, reduceIte]
                simp only [e5]
                clear hd
                simp only [List.drop_succ_cons, List.drop_zero]
                refine wpList_append_src W rfl (.tmp 98) (.tmp 100) 30 30 rfl Wl.heap.size 44 i0 _ 3 56 Try.underlying30 HI0.out HI1.out HI2.out HI3.out rfl _ Q'.length (Q'.flatMap Iq.cells) rfl o2 _ 1 (Iq.cells q2) rfl (src_blk Try.underlying30 rfl (fun u hu => iqs_one [q2] u (by simpa using hu)) k5) (by unfold maxLen; omega) (by omega) hS.size ?_
                intro v' Wr own' hg _
                have hbWr : Below Wl.heap.size Wl Wr := hS.grown hg hS.size (fun j hj => (o2.lt j hj).1)
                obtain ⟨AWr, cWr, rfl, hatWr, -, -⟩ := At.of_own own'
                have HIWr := Lib.hid (show Ineqs Wr AWr (Q'.length + 1) (Q' ++ [q2]) N2 from ⟨by rw [List.flatMap_append, List.flatMap_cons, List.flatMap_nil, List.append_nil]; exact hatWr, by omega, fun x hx => by
                  rcases List.mem_append.1 hx with hx | hx
                  · exact ((HCl.out.sf x hx).ok.below hbWr).wide HNW.out
                  · rw [List.mem_singleton.1 hx]; exact ((HQZl.out).below hbWr).wide HNS.out⟩)
                clear own' hg o2 k5 e5 hatWr hS
                generalize vs = vsWr at *
                have HBL := Lib.hid (HCz.out.below.trans (hbWl.mono HCz.out.below.size))
                have HBR := Lib.hid (HBL.out.trans (hbWr.mono HBL.out.size))
                have HIL := Lib.hid (HIWl.out.below hbWr)
                have HS0 := Lib.hid (HWS.out ⟨fA, fn, fc, F, b⟩ rfl Wr N2 (HIL.out.2.2 _ (by simp)) Wr (fun x hx => HIL.out.2.2 x (by simp [hx])))
                have HS1 := Lib.hid (HWS.out q2 HQ2N.out Wr N2 (HIWr.out.2.2 _ (by simp)) Wr (fun x hx => HIWr.out.2.2 x (by simp [hx])))
                have HPr := Lib.hid ((HPz.out.below hbWl).below hbWr)
                have CL0 := Lib.hid (HGO.out kk0 (by simp) Wr AWl cWl ⟨fA, fn, fc, F, b⟩ HBR.out HIL.out rfl)
                rw [HS0.out, Bool.true_and, HV0.out] at CL0
                obtain ⟨r0, hr0⟩ : ∃ x, chk kk0.m ((Q' ++ [(⟨fA, fn, fc, F, b⟩ : Iq)]).map Iq.m) = x := ⟨_, rfl⟩
                rw [hr0] at CL0 HRB
                have p4 : Wr.cell? ⟨kp, 4, none⟩ = some (.slice (some ⟨bK, offK, none⟩) 2 kc) := HPr.out.cell 4
                obtain ⟨c0, c1, c2, c3, c4⟩ := HCK.out Wr HBR.out 0 (show 0 < 2 by decide) x0 x1 x2 x3 x4 HX.out
                rw [Nat.zero_mul, Nat.add_zero] at c0 c1 c2 c3 c4
                clear hr0 hbWl hbWr
                go_wp2_with fail
                clear p4 c0 c1 c2 c3 c4
                refine CL0.out.mono ?_
                rintro e8 w8 ⟨rfl, hb8⟩
                have HB8 := Lib.hid (HBR.out.trans (hb8.mono HBR.out.size))
                cases r0 with
                | false =>
                  have HRF := Lib.hid (show r = false by rw [HRB.out, Bool.false_and])
                  clear hb8
                  go_wp2
                  go_ret
                  exact ⟨by rw [HRF.out]; rfl, HB8.out⟩
                | true =>
                  have HIR := Lib.hid (HIWr.out.below hb8)
                  have HP8 := Lib.hid (HPr.out.below hb8)
                  have CL1 := Lib.hid (HGO.out kk1 (by simp) w8 AWr cWr q2 HB8.out HIR.out HQ2N.out)
                  rw [HS1.out, Bool.true_and, HV1.out] at CL1
                  obtain ⟨r1, hr1⟩ : ∃ x, chk kk1.m ((Q' ++ [q2]).map Iq.m) = x := ⟨_, rfl⟩
                  rw [hr1] at CL1 HRB
                  have p4 : w8.cell? ⟨kp, 4, none⟩ = some (.slice (some ⟨bK, offK, none⟩) 2 kc) := HP8.out.cell 4
                  obtain ⟨c0, c1, c2, c3, c4⟩ := HCK.out w8 HB8.out 1 (show 1 < 2 by decide) t0 t1 t2 t3 t4 HT.out
                  rw [Nat.one_mul] at c0 c1 c2 c3 c4
                  clear hr1 hb8
                  go_wp2_with fail
                  clear p4 c0 c1 c2 c3 c4
                  refine CL1.out.mono ?_
                  rintro e9 w9 ⟨rfl, hb9⟩
                  have HB9 := Lib.hid (HB8.out.trans (hb9.mono HB8.out.size))
                  clear hb9
                  go_wp2
                  go_ret
                  exact ⟨by rw [HRB.out]; rfl, HB9.out⟩

theorem rk_ih : ∀ M, RkIH M
  | 0 => fun p hp => by cases p; simp only [Pf.mk.sizeOf_spec] at hp; omega
  | M + 1 => rk_step M (rk_ih M)
theorem RCheck_any (w : World) (A : Option Addr) (n c : Nat) (Q : List Iq) (Nl Ns : Nat) (p : Pf) (hQ : Ineqs w A n Q Nl) (hp : p.ok w Ns) (hqn : ∀ q ∈ Q, q.n ≤ 1000000) (hNs : Ns ≤ Nl) (hlen : n + sizeP p.m ≤ 10000) (hK : Nl + sizeP p.m * (Ns + 3) ≤ 3900) :
    Calls Try.prog 24 #[.slice A n c, p.val] w (Ck w (sysM (Q.map Iq.m) && chk p.m (Q.map Iq.m))) := rk_ih _ p (Nat.le_refl _) w A n c Q Nl Ns hQ hp hqn hNs hlen hK
end Go.Proofs.Ythfolccofjaknaa
