/- The check of a proof. -/
import Derived.Test.YthfolccofjaknaaCcl
import Derived.Test.YthfolccofjaknaaCpa
import Derived.Test.YthfolccofjaknaaCsz
import Derived.Test.YthfolccofjaknaaMB
import Derived.Test.YthfolccofjaknaaCng
import Derived.Test.YthfolccofjaknaaMA
import Derived.BigQuiet
namespace Go.Proofs.Ythfolccofjaknaa
open Go.ChangeShapes Go.WideShapes Go.ChangeAt Go.RowKit Go.ChangeMaps

theorem chk_eq (S : List (List (Int × Int) × Int)) (F : List Int) (b : Int) (K : List PT) (l : List QI) : chk (.mk S F b K) l = match stepsM S l with
    | none => false
    | some l' => match K with
      | [] => l'.any badM
      | [k0, k1] => if l' ≠ [] ∧ F.length ≠ widthM l' then false else chk k0 (l' ++ [(F, b)]) && chk k1 (l' ++ [(F.map (fun z => -z), -1 - b)])
      | _ => false := by
  rw [chk]
  cases stepsM S l with
  | none => rfl
  | some l' => rcases K with _ | ⟨k0, _ | ⟨k1, _ | ⟨k2, K⟩⟩⟩ <;> rfl
theorem steps_no {S : List (List (Int × Int) × Int)} {k : Nat} (hk : k < S.length) {l : List QI} (h : applyM l S[k].1 S[k].2 = none) : stepsM (S.drop k) l = none := by
  rw [stepsM_snoc S k hk, h]
theorem steps_yes {S : List (List (Int × Int) × Int)} {k : Nat} (hk : k < S.length) {l : List QI} {q : QI} (h : applyM l S[k].1 S[k].2 = some q) : stepsM (S.drop k) l = stepsM (S.drop (k + 1)) (l ++ [q]) := by
  rw [stepsM_snoc S k hk, h]
theorem IqO.below {w w' : World} {B K : Nat} {q : Iq} (h : IqO w B q K) (hb : Below w.heap.size w w') : IqO w' B q K := ⟨h.1, h.2.1, h.2.2.1.below hb, h.2.2.2.below hb⟩
theorem IqO.store {w : World} {B K g : Nat} {q : Iq} {a b c : Value} (h : IqO w B q K) (hk : Blk w g 44 #[a, b, c]) (x y z : Value) : IqO (((w.setCell ⟨g, 0, none⟩ x).setCell ⟨g, 1, none⟩ y).setCell ⟨g, 2, none⟩ z) B q K := by
  have s0 := (store_step hk 0 x).1
  have s1 := (store_step s0 1 y).1
  refine ⟨h.1, h.2.1, ?_, ((h.2.2.2.set_other hk (by decide) 0 x).set_other s0 (by decide) 1 y).set_other s1 (by decide) 2 z⟩
  rcases h.2.2.1 with hr | ⟨g', e, hr⟩
  · exact .inl hr
  · exact .inr ⟨g', e, ((hr.set_other hk (by decide) (by decide) 0 x).set_other s0 (by decide) (by decide) 1 y).set_other s1 (by decide) (by decide) 2 z⟩
theorem Iq.ok.mono {w : World} {N N' : Nat} {q : Iq} (h : q.ok w N) (hN : N ≤ N') : q.ok w N' := ⟨⟨h.1.1, h.1.2.1, fun b hb => (h.1.2.2 b hb).mono hN⟩, h.2.mono hN⟩
theorem CL.ext {w0 z1 z2 : World} {s0 v : Value} {Q : List Iq} {N wd fn : Nat} {q : Iq} (h : CL w0 z1 s0 Q N wd) (hq : q.ok z1 N) (hqn : q.n = fn) (hw : 0 < Q.length → wd = fn) (hown : z2.ownsRow z1.heap.size 44 3 v (Q.length + 1) ((Q ++ [q]).flatMap Iq.cells)) (hb : Below z1.heap.size z1 z2) : CL z1 z2 v (Q ++ [q]) N fn := by
  refine ⟨hb, by rw [List.length_append]; exact hown, fun x hx => ?_, fun x hx => ?_, fun h0 => by rw [List.length_append, List.length_singleton] at h0; omega⟩
  · refine Sf.of_below ?_ hb (fun k hk => (hown.lt k hk).1)
    rcases List.mem_append.1 hx with hx | hx
    · exact (h.sf x hx).ok
    · rw [List.mem_singleton.1 hx]; exact hq
  · rcases List.mem_append.1 hx with hx | hx
    · rw [h.sys x hx]
      exact hw (List.length_pos_of_mem hx)
    · rw [List.mem_singleton.1 hx]; exact hqn
theorem one_at {w : World} {g : Nat} {q : Iq} (h : Blk w g 44 #[.slice q.A q.n q.c, .bool q.b.neg, .slice q.b.A q.b.n q.b.c]) : At w (some ⟨g, 0, none⟩) 1 3 ([q].flatMap Iq.cells) :=
  ⟨rfl, fun _ => ⟨g, 0, rfl, h.lt, fun j u hu => by
    rw [Nat.zero_add, h.cell]
    have e : (#[.slice q.A q.n q.c, .bool q.b.neg, .slice q.b.A q.b.n q.b.c] : Array Value) = (q.cells).toArray := rfl
    rw [e, List.getElem?_toArray]
    simpa using hu⟩⟩
theorem own_at_slice {w : World} {B c : Nat} {A : Option Addr} {Q : List Iq} (h : w.ownsRow B 44 3 (.slice A Q.length c) Q.length (Q.flatMap Iq.cells)) : At w A Q.length 3 (Q.flatMap Iq.cells) := by
  obtain ⟨A', c', e, ha⟩ := own_at h
  injection e with e1 e2 e3
  rw [e1]
  exact ha
def Ck (w0 : World) (r : Bool) (e : Ending) (w' : World) : Prop := e = .returned (.bool r) ∧ Below w0.heap.size w0 w'
/-- The contract of a smaller proof. -/
def CkIH (M : Nat) : Prop := ∀ (p : Pf), SizeOf.sizeOf p ≤ M → ∀ (w0 w : World) (v : Value) (Q : List Iq) (wd Nl Ns : Nat), p.ok w0 Ns → CL w0 w v Q Nl wd → wd ≤ 1000000 → Ns ≤ Nl → Q.length + sizeP p.m ≤ 10000 → Nl + sizeP p.m * (Ns + 3) ≤ 10000 → Calls Try.prog 56 #[v, p.val] w (Ck w0 (chk p.m (Q.map Iq.m)))
set_option maxRecDepth 100000 in
set_option maxHeartbeats 8000000 in
theorem chk_step (M : Nat) (ih : CkIH M) : CkIH (M + 1) := by
  intro p hp w0 w v Q wd Nl Ns hok hcl hwd hNs hlen hK
  cases hok with
  | @mk sA sn sc S fA fn fc F b kA kn kc K h1 h2 h3 h4 h5 h7 h6 =>
    rw [Pf.m_eq] at hlen hK ⊢
    rw [sizeP_eq] at hlen hK
    have hSl : S.length = sn := by
      have := h1.1
      rw [flat_len Sp.cells 3 (fun _ => rfl)] at this
      omega
    have hKl := kids_len h5
    obtain ⟨sz, hsz⟩ : ∃ x, (if (K.map Pf.m).length > 0 then 1 else 0) + ((K.map Pf.m).map sizeP).sum = x := ⟨_, rfl⟩
    rw [List.length_map, hSl, Nat.add_assoc, hsz] at hlen hK
    have HSZ := Lib.hid hsz
    have hmul : ∀ k, k ≤ sn → Nl + k * (Ns + 3) ≤ 10000 := fun k hk => by
      have : k * (Ns + 3) ≤ (sn + sz) * (Ns + 3) := Nat.mul_le_mul_right _ (by omega)
      omega
    have HMUL := Lib.hid hmul
    have HLEN := Lib.hid hlen
    have HTOT := Lib.hid hK
    have hsn4 : sn ≤ 10000 := by omega
    obtain ⟨r, hr⟩ : ∃ r, chk (.mk (S.map Sp.m) (F.map Bg.z) b.z (K.map Pf.m)) (Q.map Iq.m) = r := ⟨_, rfl⟩
    rw [hr]
    rw [chk_eq] at hr
    obtain ⟨R, hR⟩ : ∃ R, stepsM (S.map Sp.m) (Q.map Iq.m) = R := ⟨_, rfl⟩
    rw [hR] at hr
    have HNONE := Lib.hid (show R = none → r = false from fun h => by rw [h] at hr; exact hr.symm)
    have HK0 := Lib.hid (show kn = 0 → ∀ l', R = some l' → r = l'.any badM from fun h l' e => by
      rw [e, List.eq_nil_of_length_eq_zero (hKl.trans h)] at hr
      exact hr.symm)
    have HKX := Lib.hid (show kn ≠ 0 → kn ≠ 2 → r = false from fun ha hb => by
      cases R with
      | none => exact hr.symm
      | some l' =>
        rcases K with _ | ⟨k0, _ | ⟨k1, _ | ⟨k2, K⟩⟩⟩
        · exact absurd hKl.symm ha
        · exact hr.symm
        · exact absurd hKl.symm hb
        · exact hr.symm)
    have HK2 := Lib.hid (show ∀ k0 k1, K = [k0, k1] → ∀ l', R = some l' → r = (if l' ≠ [] ∧ (F.map Bg.z).length ≠ widthM l' then false else chk k0.m (l' ++ [(F.map Bg.z, b.z)]) && chk k1.m (l' ++ [((F.map Bg.z).map (fun z => -z), -1 - b.z)])) from fun k0 k1 e l' el => by
      rw [e, el] at hr
      exact hr.symm)
    have HR := Lib.hid hR
    have HIH := Lib.hid ih
    have HSA := Lib.hid h1
    have HSO := Lib.hid h2
    have HF := Lib.hid h3
    have HBO := Lib.hid h4
    have HKA := Lib.hid h5
    have HKO := Lib.hid h6
    have HSN := Lib.hid h7.2.2.2
    have hfn : fn ≤ 1000000 := h7.2.2.1
    have hkn63 := h7.2.1
    have HPS := Lib.hid (show ∀ k ∈ K, SizeOf.sizeOf k ≤ M from fun k hk => by
      have := pf_lt (sA := sA) (sn := sn) (sc := sc) (S := S) (fA := fA) (fn := fn) (fc := fc) (F := F) (b := b) (kA := kA) (kn := kn) (kc := kc) hk
      omega)
    have HSL := Lib.hid hSl
    have HKL := Lib.hid hKl
    clear h1 h2 h3 h4 h5 h6 h7 hp ih hr hR hSl hKl hsz hmul hlen hK
    unfold Pf.val Pf.cells
    dsimp only
    obtain ⟨kp, hkp⟩ : ∃ kp, kp = w.heap.size := ⟨_, rfl⟩
    obtain ⟨W1, hW1⟩ : ∃ W1, W1 = w.alloc (.cells #[.slice sA sn sc, .slice fA fn fc, .bool b.neg, .slice b.A b.n b.c, .slice kA kn kc] 52) := ⟨_, rfl⟩
    have hb1 : Below w.heap.size w W1 := by rw [hW1]; exact (Below.refl _ _).alloc (Nat.le_refl _) _
    have HCL := Lib.hid (hcl.keep hb1)
    have KP := Lib.hid (show Blk W1 kp 52 #[.slice sA sn sc, .slice fA fn fc, .bool b.neg, .slice b.A b.n b.c, .slice kA kn kc] by rw [hW1]; exact Blk.new_ hkp rfl)
    clear hb1 hcl
    have p0 : W1.cell? ⟨kp, 0, none⟩ = some (.slice sA sn sc) := KP.out.cell 0
    obtain ⟨i0, hi, hz0, hz1, hz2⟩ := info_parts i44
    go_enter Try.func56, Try.ntmps56
    go_upto_region 1 with fail
    rw [← hkp, ← hW1]
    clear hkp hW1
    go_wp2
    clear p0
    go_loopw [0, 16] (fun s0 s16 wr => ∃ (k : Nat) (Q' : List Iq), s16 = .int .i64 (k : Int) ∧ k ≤ sn ∧ Q'.length = Q.length + k ∧ stepsM ((S.map Sp.m).drop k) (Q'.map Iq.m) = R ∧ CL w0 wr s0 Q' (Nl + k * (Ns + 3)) wd ∧ Blk wr kp 52 #[.slice sA sn sc, .slice fA fn fc, .bool b.neg, .slice b.A b.n b.c, .slice kA kn kc]) (fun _ s16 _ => sn - (intOf s16).toNat)
    case atStart => exact ⟨0, Q, rfl, Nat.zero_le _, rfl, HR.out, HCL.out.wide (by omega), KP.out⟩
    case round =>
      obtain ⟨k, Q', rfl, hkn, hQl, hst, hcl, hkpb⟩ := hrel
      rename_i s0 _
      generalize wr = X0 at *
      have HQl := Lib.hid hQl
      have HST := Lib.hid hst
      have HC := Lib.hid hcl
      have HP := Lib.hid hkpb
      have hq63 : Q'.length ≤ 10000 := by have := HLEN.out; omega
      clear hQl hst hcl hkpb
      by_cases hlt : k < sn
      · have hki : (k : Int) < (sn : Int) := by omega
        have hk0 : (0 : Int) ≤ (k : Int) := by omega
        have hkS : k < S.length := by rw [HSL.out]; exact hlt
        obtain ⟨bS, offS, rfl, -, hcs⟩ := at3 (fun _ => rfl) HSA.out (show 0 < sn by omega)
        obtain ⟨e0, e1, e2⟩ := hcs X0 HC.out.below k hkS _ _ _ rfl
        have HSK := Lib.hid (HSO.out _ (List.getElem_mem hkS))
        have hsk4 := HSN.out _ (List.getElem_mem hkS)
        have hkM : k < (S.map Sp.m).length := by rw [List.length_map]; exact hkS
        have hno0 := steps_no hkM (l := Q'.map Iq.m)
        have hyes0 := fun q => steps_yes hkM (l := Q'.map Iq.m) (q := q)
        rw [List.getElem_map] at hno0
        simp only [List.getElem_map] at hyes0
        have HNO := Lib.hid hno0
        have HYES := Lib.hid hyes0
        clear hno0 hyes0
        clear hcs
        generalize S[k] = s at *
        obtain ⟨X1, hX1⟩ : ∃ X1, X1 = X0.alloc (.cells #[.slice s.A s.n s.c, .bool s.d.neg, .slice s.d.A s.d.n s.d.c] 39) := ⟨_, rfl⟩
        obtain ⟨k6, hk6⟩ : ∃ k6, k6 = X0.heap.size := ⟨_, rfl⟩
        have hb1 : Below X0.heap.size X0 X1 := by rw [hX1]; exact (Below.refl _ _).alloc (Nat.le_refl _) _
        have K6 := Lib.hid (show Blk X1 k6 39 #[.slice s.A s.n s.c, .bool s.d.neg, .slice s.d.A s.d.n s.d.c] by rw [hX1]; exact Blk.new_ hk6 rfl)
        have HC1 := Lib.hid (HC.out.keep hb1)
        have HP1 := Lib.hid (HP.out.below hb1)
        clear hb1
        obtain ⟨qA, qc, rfl, hin⟩ := HC1.out.at (by omega)
        have hml := HMUL.out k (by omega)
        have HWD := Lib.hid HC1.out.width
        have CA := Lib.hid (apply_any X1 qA Q'.length qc Q' (Nl + k * (Ns + 3)) hin wd HC1.out.sys HC1.out.z hwd s Ns (HSK.out.below HC1.out.below) (by omega) (by omega) hsk4)
        unfold Sp.val at CA
        clear hin
        go_upto_region 4 with fail
        rw [← hk6, ← hX1]
        clear hk6 hX1 e0 e1 e2
        have e0 : X1.cell? ⟨k6, 0, none⟩ = some (.slice s.A s.n s.c) := K6.out.cell 0
        have e1 : X1.cell? ⟨k6, 1, none⟩ = some (.bool s.d.neg) := K6.out.cell 1
        have e2 : X1.cell? ⟨k6, 2, none⟩ = some (.slice s.d.A s.d.n s.d.c) := K6.out.cell 2
        obtain ⟨ra, hra⟩ : ∃ x, applyM (Q'.map Iq.m) (s.U.map Us.m) s.d.z = x := ⟨_, rfl⟩
        rw [hra] at CA
        have HRA := Lib.hid hra
        clear hra
        go_wp2_with fail
        clear e0 e1 e2
        refine CA.out.mono ?_
        rintro e3 X3 ⟨hb3, hno, hyes⟩
        have HC3 := Lib.hid (HC1.out.keep hb3)
        have HP3 := Lib.hid (HP1.out.below hb3)
        have hX13 := hb3.size
        cases ra with
        | none =>
          obtain rfl := hno rfl
          have HRF := Lib.hid (HNONE.out (HST.out.symm.trans (HNO.out HRA.out)))
          have hb4 : Below X3.heap.size X3 (X3.alloc (.cells #[.slice none 0 0, .bool false, .slice none 0 0] 44)) := (Below.refl _ _).alloc (Nat.le_refl _) _
          have HB4 := Lib.hid (HC3.out.below.trans (hb4.mono HC3.out.below.size))
          clear hno hyes hb3 hb4 CA
          unfold zeroQ
          go_wp2
          go_ret
          exact ⟨by rw [HRF.out]; rfl, HB4.out⟩
        | some m =>
          obtain ⟨q, rfl, hqm, hqo⟩ := hyes m rfl
          have hqn : q.n = wd := by
            have h1 := applyM_len HWD.out.1 HWD.out.2 HRA.out
            rw [← hqm] at h1
            have h2 : (q.L.map Bg.z).length = wd := h1
            rw [List.length_map] at h2
            rw [hqo.1, h2]
          have HSF := Lib.hid (Sf.of_new hqo (g := (Value.slice qA Q'.length qc).ownBlock) (fun j hj => (HC1.out.own.lt j hj).2))
          have HQN := Lib.hid hqn
          have HSTEP := Lib.hid (show stepsM ((S.map Sp.m).drop (k + 1)) (Q'.map Iq.m ++ [q.m]) = R by rw [hqm, ← HST.out]; exact (HYES.out _ HRA.out).symm)
          clear hno hyes hb3 CA hqm hqo hqn
          obtain ⟨k7, hk7⟩ : ∃ k7, k7 = X3.heap.size := ⟨_, rfl⟩
          obtain ⟨X4, hX4⟩ : ∃ X4, X4 = X3.alloc (.cells #[.slice q.A q.n q.c, .bool q.b.neg, .slice q.b.A q.b.n q.b.c] 44) := ⟨_, rfl⟩
          have hb4 : Below X3.heap.size X3 X4 := by rw [hX4]; exact (Below.refl _ _).alloc (Nat.le_refl _) _
          have K7 := Lib.hid (show Blk X4 k7 44 #[.slice q.A q.n q.c, .bool q.b.neg, .slice q.b.A q.b.n q.b.c] by rw [hX4]; exact Blk.new_ hk7 rfl)
          have HC4 := Lib.hid (HC3.out.keep hb4)
          have HP4 := Lib.hid (HP3.out.below hb4)
          have HSF4 := Lib.hid (HSF.out.below hb4)
          clear hb4
          unfold Iq.val
          go_upto_region 7 with fail
          rw [← hk7, ← hX4]
          clear hk7 hX4
          have e0 : X4.cell? ⟨k7, 0, none⟩ = some (.slice q.A q.n q.c) := K7.out.cell 0
          have e1 : X4.cell? ⟨k7, 1, none⟩ = some (.bool q.b.neg) := K7.out.cell 1
          have e2 : X4.cell? ⟨k7, 2, none⟩ = some (.slice q.b.A q.b.n q.b.c) := K7.out.cell 2
          obtain ⟨X5, hX5⟩ : ∃ X5, X5 = X4.alloc (.cells #[.slice q.A q.n q.c, .bool q.b.neg, .slice q.b.A q.b.n q.b.c] 44) := ⟨_, rfl⟩
          have hb5 : Below X4.heap.size X4 X5 := by rw [hX5]; exact (Below.refl _ _).alloc (Nat.le_refl _) _
          have HC5 := Lib.hid (HC4.out.keep hb5)
          have HP5 := Lib.hid (HP4.out.below hb5)
          have HSF5 := Lib.hid (HSF4.out.below hb5)
          have HSRC := Lib.hid (src_blk (P := Try.prog) (W := X5) (g := X4.heap.size) (e := 44) (t := 30) (size := 3) (xs := q.cells) (n := 1) (c := 1) Try.underlying30 rfl (fun u hu => iqs_one [q] u (by simpa using hu)) (by rw [hX5]; exact Blk.new _ _ _))
          have HS5 := Lib.hid HC5.out.below.size
          clear hb5
          rw [hX5] at HSRC HS5 HC5 HP5 HSF5
          clear hX5
          go_wp2_with (at_builtin; go_loud (refine wpList_append_src _ rfl _ _ 30 30 rfl w0.heap.size 44 i0 _ 3 56 Try.underlying30 hi hz0 hz1 hz2 rfl _ Q'.length (Q'.flatMap Iq.cells) rfl HC5.out.own _ 1 q.cells rfl HSRC.out ?c1 ?c2 HS5.out ?_))
          case c1 => unfold maxLen; omega
          case c2 => omega
          intro v' X6 own' hg hm
          have HP6 := Lib.hid ((hg.block kp HP5.out.lt (fun e2 => own_blk_ne HC5.out.own HP5.out (by decide) e2.symm)).trans HP5.out)
          have hNN : Ns + (Nl + k * (Ns + 3)) + 1 ≤ Nl + (k + 1) * (Ns + 3) := by rw [Nat.add_mul]; omega
          have hNW : Nl + k * (Ns + 3) ≤ Nl + (k + 1) * (Ns + 3) := by rw [Nat.add_mul]; omega
          have HC6 := Lib.hid ((HC5.out.wide hNW).app (HSF5.out.wide hNN) HQN.out own' hg hm)
          clear own' hg hm e0 e1 e2 hNN hNW
          go_wp2
          go_roundw
          case rel => exact ⟨k + 1, Q' ++ [q], by go_num, hlt, by rw [List.length_append, HQl.out, List.length_singleton]; omega, by rw [List.map_append]; exact HSTEP.out, HC6.out, HP6.out⟩
          case measure => simp [intOf]; omega
      · obtain rfl : k = sn := by omega
        have hlt2 : ¬ ((k : Int) < (k : Int)) := by omega
        have HRS := Lib.hid (show R = some (Q'.map Iq.m) by
          have := HST.out
          rw [List.drop_of_length_le (by rw [List.length_map, HSL.out]; exact Nat.le_refl _)] at this
          exact this.symm)
        have p4 : X0.cell? ⟨kp, 4, none⟩ = some (.slice kA kn kc) := HP.out.cell 4
        have hml := HMUL.out k (Nat.le_refl _)
        obtain ⟨qA, qc, rfl, hin⟩ := HC.out.at (by omega)
        have HIN := Lib.hid hin
        clear hin
        by_cases hk0 : kn = 0
        · have HRA := Lib.hid (HK0.out hk0 _ HRS.out)
          have hkb : ((kn : Int) == 0) = true := by rw [hk0]; rfl
          have hki0 : (kn : Int) = 0 := by omega
          have HKZ := Lib.hid hki0
          clear hk0 hki0
          obtain ⟨n, hn⟩ : ∃ n, n = Q'.length := ⟨_, rfl⟩
          rw [← hn]
          rw [← hn] at HIN
          have HN := Lib.hid hn
          have hn1 : n ≤ 10000 := by omega
          clear hn
          go_wp2
          clear p4 hkb
          go_loopw [40] (fun s40 wr => ∃ j : Nat, s40 = .int .i64 (j : Int) ∧ j ≤ n ∧ (Q'.take j).all (fun q => !badM q.m) = true ∧ Below X0.heap.size X0 wr) (fun s40 _ => n - (intOf s40).toNat)
          case atStart => exact ⟨0, rfl, Nat.zero_le _, rfl, Below.refl _ _⟩
          case round =>
            obtain ⟨j, rfl, hjn, hall, hB⟩ := hrel
            generalize wr = V0 at *
            have HALL := Lib.hid hall
            have HBX := Lib.hid hB
            clear hall hB
            by_cases hjl : j < n
            · have hji : (j : Int) < (n : Int) := by omega
              have hj0 : (0 : Int) ≤ (j : Int) := by omega
              have hjQ : j < Q'.length := by rw [← HN.out]; exact hjl
              obtain ⟨bQ, offQ, rfl, -, hcq⟩ := at3 (fun _ => rfl) HIN.out.1 (show 0 < n by omega)
              obtain ⟨e0, e1, e2⟩ := hcq V0 HBX.out j hjQ _ _ _ rfl
              have HQK := Lib.hid (HIN.out.2.2 _ (List.getElem_mem hjQ))
              have HAN := Lib.hid (show badM Q'[j].m = false → (Q'.take (j + 1)).all (fun q => !badM q.m) = true from fun e => by
                rw [List.take_succ_eq_append_getElem hjQ, List.all_append, HALL.out]
                simp [e])
              have HYB := Lib.hid (show badM Q'[j].m = true → r = true from fun e => by
                rw [HRA.out, List.any_eq_true]
                exact ⟨_, List.mem_map_of_mem (List.getElem_mem hjQ), e⟩)
              clear hcq
              generalize Q'[j] = q at *
              obtain ⟨V1, hV1⟩ : ∃ V1, V1 = V0.alloc (.cells #[.slice q.A q.n q.c, .bool q.b.neg, .slice q.b.A q.b.n q.b.c] 44) := ⟨_, rfl⟩
              obtain ⟨k10, hk10⟩ : ∃ k10, k10 = V0.heap.size := ⟨_, rfl⟩
              have hb1 : Below V0.heap.size V0 V1 := by rw [hV1]; exact (Below.refl _ _).alloc (Nat.le_refl _) _
              have K10 := Lib.hid (show Blk V1 k10 44 #[.slice q.A q.n q.c, .bool q.b.neg, .slice q.b.A q.b.n q.b.c] by rw [hV1]; exact Blk.new_ hk10 rfl)
              have HB1 := Lib.hid (HBX.out.trans (hb1.mono HBX.out.size))
              have CT := Lib.hid (Contradictory_any V1 q _ (HQK.out.below HB1.out))
              unfold Iq.val at CT
              clear hb1
              go_upto_region 14 with fail
              rw [← hk10, ← hV1]
              clear hk10 hV1 e0 e1 e2
              have e0 : V1.cell? ⟨k10, 0, none⟩ = some (.slice q.A q.n q.c) := K10.out.cell 0
              have e1 : V1.cell? ⟨k10, 1, none⟩ = some (.bool q.b.neg) := K10.out.cell 1
              have e2 : V1.cell? ⟨k10, 2, none⟩ = some (.slice q.b.A q.b.n q.b.c) := K10.out.cell 2
              go_wp2_with fail
              clear e0 e1 e2
              refine CT.out.mono ?_
              rintro e3 V3 ⟨rfl, hb3⟩
              have HB3 := Lib.hid (HB1.out.trans (hb3.mono HB1.out.size))
              have HBW := Lib.hid (HC.out.below.trans (HB3.out.mono HC.out.below.size))
              clear hb3 CT
              obtain ⟨bq, hbq⟩ : ∃ x, badM q.m = x := ⟨_, rfl⟩
              rw [hbq]
              rw [hbq] at HAN HYB
              clear hbq
              cases bq with
              | true =>
                have HRT := Lib.hid (HYB.out rfl)
                go_wp2
                go_ret
                exact ⟨by rw [HRT.out]; rfl, HBW.out⟩
              | false =>
                have HA1 := Lib.hid (HAN.out rfl)
                clear HAN HYB
                go_wp2
                go_roundw
                case rel => exact ⟨j + 1, by go_num, hjl, HA1.out, HB3.out⟩
                case measure => simp [intOf]; omega
            · obtain rfl : j = n := by omega
              have hjl2 : ¬ ((j : Int) < (j : Int)) := by omega
              have HBW := Lib.hid (HC.out.below.trans (HBX.out.mono HC.out.below.size))
              have HRF := Lib.hid (show r = false by
                have ha := HALL.out
                rw [List.take_of_length_le (by rw [← HN.out]; exact Nat.le_refl _)] at ha
                rw [HRA.out, List.any_eq_false]
                intro x hx
                obtain ⟨q, hq, rfl⟩ := List.mem_map.1 hx
                have := List.all_eq_true.1 ha q hq
                simpa using this)
              go_wp2
              go_ret
              exact ⟨by rw [HRF.out]; rfl, HBW.out⟩
        have hkb : ((kn : Int) == 0) = false := by simp only [beq_eq_false_iff_ne, ne_eq]; omega
        have hki : ¬ ((kn : Int) = 0) := by omega
        by_cases hk2 : kn = 2
        case neg =>
          have HRF := Lib.hid (HKX.out hk0 hk2)
          have hkb2 : ((kn : Int) == 2) = false := by simp only [beq_eq_false_iff_ne, ne_eq]; omega
          have hki2 : ¬ ((kn : Int) = 2) := by omega
          have HBW := Lib.hid HC.out.below
          clear hk0 hk2
          go_wp2
          go_ret
          exact ⟨by rw [HRF.out]; rfl, HBW.out⟩
        subst hk2
        obtain ⟨kk0, kk1, rfl⟩ : ∃ a b, K = [a, b] := by
          have := HKL.out
          rcases K with _ | ⟨a, _ | ⟨b, _ | ⟨c, K⟩⟩⟩
          · cases this
          · cases this
          · exact ⟨_, _, rfl⟩
          · cases this
        have HRA := Lib.hid (HK2.out kk0 kk1 rfl _ HRS.out)
        have hFl : F.length = fn := HF.out.len
        have HFL := Lib.hid hFl
        have HWQ := Lib.hid HC.out.width
        have hn1 : Q'.length ≤ 10000 := by omega
        have HN1 := Lib.hid hn1
        obtain ⟨n, hn⟩ : ∃ n, n = Q'.length := ⟨_, rfl⟩
        have HN := Lib.hid hn
        have hn10 : n ≤ 10000 := by omega
        rw [← hn]
        have p1 : X0.cell? ⟨kp, 1, none⟩ = some (.slice fA fn fc) := HP.out.cell 1
        clear hFl hn hkb hki hk0
        go_upto_region 19 with fail
        by_cases hbad : 0 < n ∧ fn ≠ wd
        · obtain ⟨hn0, hne⟩ := hbad
          have HRF := Lib.hid (show r = false by
            rw [HRA.out, if_pos]
            refine ⟨fun e => ?_, by rw [List.length_map, HFL.out, HWQ.out.2]; exact hne⟩
            have := congrArg List.length e
            rw [List.length_map, ← HN.out] at this
            simp at this
            omega)
          have hnq : 0 < Q'.length := by rw [← HN.out]; exact hn0
          have HIN2 := HIN.out.1
          rw [← HN.out] at HIN2
          obtain ⟨bQ, offQ, rfl, -, hcq⟩ := at3 (fun _ => rfl) HIN2 hn0
          obtain ⟨e0, -, -⟩ := hcq X0 (Below.refl _ _) 0 hnq _ _ _ rfl
          rw [Nat.zero_mul, Nat.add_zero, HC.out.sys _ (List.getElem_mem hnq)] at e0
          have hg0 : (n : Int) > 0 := by omega
          have hgd : decide ((n : Int) > 0) = true := decide_eq_true hg0
          have hnd : ((fn : Int) != (wd : Int)) = true := by simp only [bne_iff_ne, ne_eq]; omega
          have hnd2 : ((fn : Int) == (wd : Int)) = false := by simp only [beq_eq_false_iff_ne, ne_eq]; omega
          have hndp : ¬ ((fn : Int) = (wd : Int)) := by omega
          have HBW := Lib.hid (below_drew HC.out.below)
          clear hne hcq HIN2
          go_quiet (fail)
          go_wp2
          go_ret
          exact ⟨by rw [HRF.out]; rfl, below_drewN HC.out.below⟩
        have HOKW := Lib.hid (show 0 < n → wd = fn from fun h => by
          by_cases e : fn = wd
          · exact e.symm
          · exact absurd ⟨h, e⟩ hbad)
        clear hbad
        go_cut [62] from 49 (fun s62 wx => s62 = .bool false ∧ ∃ W9, W9 = wx ∧ Below X0.heap.size X0 W9)
        case first =>
          have HBD := Lib.hid (below_drew (Below.refl X0.heap.size X0))
          by_cases hn0 : 0 < n
          · have hnq : 0 < Q'.length := by rw [← HN.out]; exact hn0
            have HIN2 := HIN.out.1
            rw [← HN.out] at HIN2
            obtain ⟨bQ, offQ, rfl, -, hcq⟩ := at3 (fun _ => rfl) HIN2 hn0
            obtain ⟨e0, -, -⟩ := hcq X0 (Below.refl _ _) 0 hnq _ _ _ rfl
            rw [Nat.zero_mul, Nat.add_zero, HC.out.sys _ (List.getElem_mem hnq), HOKW.out hn0] at e0
            have hg0 : (n : Int) > 0 := by omega
            have hgd : decide ((n : Int) > 0) = true := decide_eq_true hg0
            clear hcq HIN2
            go_quiet (fail)
            go_wp2_with fail
            go_meet
            case rel => exact ⟨rfl, _, rfl, below_drewN (Below.refl _ _)⟩
          · have hg0 : ¬ ((n : Int) > 0) := by omega
            have hgd : decide ((n : Int) > 0) = false := decide_eq_false hg0
            go_quiet (fail)
            go_wp2_with fail
            go_meet
            case rel => exact ⟨rfl, _, rfl, below_drewN (Below.refl _ _)⟩
        case rest =>
          obtain ⟨rfl, W9, rfl, hb9⟩ := hcut
          have HC9 := Lib.hid (HC.out.keep hb9)
          have HP9 := Lib.hid (HP.out.below hb9)
          clear hb9 p1
          have p1 : W9.cell? ⟨kp, 1, none⟩ = some (.slice fA fn fc) := HP9.out.cell 1
          have p2 : W9.cell? ⟨kp, 2, none⟩ = some (.bool b.neg) := HP9.out.cell 2
          have p3 : W9.cell? ⟨kp, 3, none⟩ = some (.slice b.A b.n b.c) := HP9.out.cell 3
          obtain ⟨Wa, hWa⟩ : ∃ Wa, Wa = W9.alloc (.cells #[.slice fA fn fc, .bool b.neg, .slice b.A b.n b.c] 44) := ⟨_, rfl⟩
          obtain ⟨k11, hk11⟩ : ∃ k11, k11 = W9.heap.size := ⟨_, rfl⟩
          have hba : Below W9.heap.size W9 Wa := by rw [hWa]; exact (Below.refl _ _).alloc (Nat.le_refl _) _
          have KE := Lib.hid (show Blk Wa k11 44 #[.slice fA fn fc, .bool b.neg, .slice b.A b.n b.c] by rw [hWa]; exact Blk.new_ hk11 rfl)
          have HCa := Lib.hid (HC9.out.keep hba)
          have HPa := Lib.hid (HP9.out.below hba)
          clear hba
          go_upto_region 22 with fail
          rw [← hk11, ← hWa]
          clear hk11 hWa p1 p2 p3
          have p1 : Wa.cell? ⟨kp, 1, none⟩ = some (.slice fA fn fc) := HPa.out.cell 1
          have p2 : Wa.cell? ⟨kp, 2, none⟩ = some (.bool b.neg) := HPa.out.cell 2
          have p3 : Wa.cell? ⟨kp, 3, none⟩ = some (.slice b.A b.n b.c) := HPa.out.cell 3
          have hb0 : Below Wa.heap.size Wa Wa.drew := below_drew (Below.refl _ _)
          refine wp_region_mix 9 (fun w' => Below Wa.heap.size Wa w') (by kernel_rfl) (by decide) ?_
          have HCy := Lib.hid (HCa.out.keep hb0)
          generalize Wa.drew = y0 at hb0 HCy ⊢
          refine wpM_take (i := 0) (oi := ⟨some 68, _, _, _, _, _⟩) (v := ?_) rfl (by decide +kernel) (by decide +kernel) (by decide +kernel) (fun _ _ _ h => h) (Or.inl ⟨by rfl, ?_⟩) hb0 ?_
          case refine_2 =>
            intro w' hSw
            have p1' := keepcell hSw p1
            go_simp
            try (with_reducible rfl)
          try simp only [Act.put, List.setIfInBounds_toArray, List.set_cons_zero, List.set_cons_succ]
          refine wpM_take (i := 1) (oi := ⟨some 69, _, _, _, _, _⟩) (v := ?_) rfl (by decide +kernel) (by decide +kernel) (by decide +kernel) (fun _ _ _ h => h) (Or.inl ⟨by rfl, ?_⟩) hb0 ?_
          case refine_2 =>
            intro w' hSw
            have p1' := keepcell hSw p1
            go_simp
            try (with_reducible rfl)
          try simp only [Act.put, List.setIfInBounds_toArray, List.set_cons_zero, List.set_cons_succ]
          refine wpM_take (i := 4) (oi := ⟨some 72, _, _, _, _, _⟩) (v := ?_) rfl (by decide +kernel) (by decide +kernel) (by decide +kernel) (fun _ _ _ h => h) (Or.inl ⟨by rfl, ?_⟩) hb0 ?_
          case refine_2 =>
            intro w' hSw
            have p1' := keepcell hSw p1
            go_simp
            try (with_reducible rfl)
          try simp only [Act.put, List.setIfInBounds_toArray, List.set_cons_zero, List.set_cons_succ]
          refine wpM_take (i := 5) (oi := ⟨some 73, _, _, _, _, _⟩) (v := ?_) rfl (by decide +kernel) (by decide +kernel) (by decide +kernel) (fun _ _ _ h => h) (Or.inl ⟨by rfl, ?_⟩) hb0 ?_
          case refine_2 =>
            intro w' hSw
            have p2' := keepcell hSw p2
            have p3' := keepcell hSw p3
            go_simp
            try (with_reducible rfl)
          try simp only [Act.put, List.setIfInBounds_toArray, List.set_cons_zero, List.set_cons_succ]
          refine wpM_chains (fun i => if i = 8 then 12 else 68 + i) [2, 3, 6, 7, 8] (fun i v W => (i = 2 → ∃ gn Ln, v = Value.slice (some ⟨gn, 0, none⟩) fn fn ∧ List.map Bg.z Ln = F.map (fun b => -b.z) ∧ Ln.length = fn ∧ Rw W w0.heap.size gn Ln Ns) ∧ (i = 3 → BG W v (-1) 2) ∧ (i = 6 → NB W w0.heap.size v (-1 - b.z) (Ns + 3)) ∧ (i = 7 → ∃ q : Iq, v = q.val ∧ IqO W w0.heap.size q (Ns + 3) ∧ q.m = (F.map (fun b => -b.z), -1 - b.z) ∧ q.n = fn) ∧ (i = 8 → ∃ g, v = Value.pointer (some ⟨g, 0, none⟩) ∧ Blk W g 44 #[.slice none 0 0, .bool false, .slice none 0 0] ∧ Wa.heap.size ≤ g) ∧ True) (by decide +kernel) (fun i v W W' h0 hb => ⟨fun e => (fun h => let ⟨gn, Ln, e1, e2, e3, e4⟩ := h; ⟨gn, Ln, e1, e2, e3, e4.below hb⟩) (h0.1 e), fun e => (fun h => h.below hb) (h0.2.1 e), fun e => (fun h => h.below hb) (h0.2.2.1 e), fun e => (fun h => let ⟨q, e1, e2, e3, e4⟩ := h; ⟨q, e1, e2.below hb, e3, e4⟩) (h0.2.2.2.1 e), fun e => (fun h => let ⟨g, e, s, z⟩ := h; ⟨g, e, s.below hb, z⟩) (h0.2.2.2.2.1 e), trivial⟩) hb0 ?_ ?_
          · refine List.forall_mem_cons.2 ⟨?_, List.forall_mem_cons.2 ⟨?_, List.forall_mem_cons.2 ⟨?_, List.forall_mem_cons.2 ⟨?_, List.forall_mem_cons.2 ⟨?_, List.forall_mem_nil _⟩⟩⟩⟩⟩
            · refine ⟨⟨some 70, _, _, _, _, _⟩, rfl, rfl, fun vs W K hS hd hK => ?_⟩
              simp only [puts, List.foldl_cons, List.foldl_nil, Act.put, List.setIfInBounds_toArray, List.set_cons_zero, List.set_cons_succ, Nat.reduceAdd, Nat.reduceSub, Nat.reduceEqDiff, reduceIte] at hK ⊢
              go_simp
              refine (negated_any W fA fn fc F Ns (HF.out.below (HCa.out.below.trans (hS.mono HCa.out.below.size))) (by omega) (by omega)).mono ?_
              rintro e W' ⟨gn, Ln, rfl, e1, e2, e3, hb⟩
              exact hK _ _ (hS.trans (hb.mono hS.size)) hb ⟨fun _ => ⟨gn, Ln, rfl, e1, e2, e3.mono (HCa.out.below.trans (hS.mono HCa.out.below.size)).size (Nat.le_refl _)⟩, fun e => absurd e (by decide), fun e => absurd e (by decide), fun e => absurd e (by decide), fun e => absurd e (by decide), trivial⟩
            · refine ⟨⟨some 71, _, _, _, _, _⟩, rfl, rfl, fun vs W K hS hd hK => ?_⟩
              simp only [puts, List.foldl_cons, List.foldl_nil, Act.put, List.setIfInBounds_toArray, List.set_cons_zero, List.set_cons_succ, Nat.reduceAdd, Nat.reduceSub, Nat.reduceEqDiff, reduceIte] at hK ⊢
              go_simp
              refine (Of_any (-1) W (by decide) (by decide)).mono ?_
              rintro e W' ⟨v, rfl, hv, hb⟩
              exact hK _ _ (hS.trans (hb.mono hS.size)) hb ⟨fun e => absurd e (by decide), fun _ => hv.bg, fun e => absurd e (by decide), fun e => absurd e (by decide), fun e => absurd e (by decide), trivial⟩
            · refine ⟨⟨some 74, _, _, _, _, _⟩, rfl, rfl, fun vs W K hS hd hK => ?_⟩
              obtain s3 := (hd 3 (by decide) (by decide +kernel)).2.1 rfl
              simp only [puts, List.foldl_cons, List.foldl_nil, Act.put, List.setIfInBounds_toArray, List.set_cons_zero, List.set_cons_succ, Nat.reduceAdd, Nat.reduceSub, Nat.reduceEqDiff, reduceIte] at hK ⊢
              have CSB := Sub_any (vs 3) b.val (-1) b.z 2 Ns W s3 (HBO.out.below (HCa.out.below.trans (hS.mono HCa.out.below.size))) (by omega) (by omega)
              unfold Bg.val at CSB
              go_simp
              refine CSB.mono ?_
              rintro e W' ⟨v, rfl, hv, hb⟩
              exact hK _ _ (hS.trans (hb.mono hS.size)) hb ⟨fun e => absurd e (by decide), fun e => absurd e (by decide), fun _ => (hv.mono (HCa.out.below.trans (hS.mono HCa.out.below.size)).size (by omega)), fun e => absurd e (by decide), fun e => absurd e (by decide), trivial⟩
            · refine ⟨⟨some 75, _, _, _, _, _⟩, rfl, rfl, fun vs W K hS hd hK => ?_⟩
              obtain ⟨gn, Ln, e2, e3, e4, e5⟩ := (hd 2 (by decide) (by decide +kernel)).1 rfl
              obtain s6 := (hd 6 (by decide) (by decide +kernel)).2.2.1 rfl
              simp only [puts, List.foldl_cons, List.foldl_nil, Act.put, List.setIfInBounds_toArray, List.set_cons_zero, List.set_cons_succ, Nat.reduceAdd, Nat.reduceSub, Nat.reduceEqDiff, reduceIte] at hK ⊢
              simp only [e2] at hK ⊢
              obtain ⟨sb, Av, nv, cv, e6⟩ := s6.expose
              simp only [e6] at hK ⊢
              rw [e6] at s6
              go_simp
              refine hK _ _ hS (Below.refl _ _) ⟨fun e => absurd e (by decide), fun e => absurd e (by decide), fun e => absurd e (by decide), fun _ => ⟨⟨some ⟨gn, 0, none⟩, fn, fn, Ln, ⟨sb, Av, nv, cv, -1 - b.z⟩⟩, rfl, ⟨e4.symm, by rw [e4]; exact hfn, .inr ⟨gn, rfl, e5.mono (Nat.le_refl _) (by omega)⟩, s6⟩, by rw [← e3]; rfl, rfl⟩, fun e => absurd e (by decide), trivial⟩
            · refine ⟨⟨some 12, _, _, _, _, _⟩, rfl, rfl, fun vs W K hS hd hK => ?_⟩
              simp only [puts, List.foldl_cons, List.foldl_nil, Act.put, List.setIfInBounds_toArray, List.set_cons_zero, List.set_cons_succ, Nat.reduceAdd, Nat.reduceSub, Nat.reduceEqDiff, reduceIte] at hK ⊢
              go_simp
              exact hK _ _ (hS.alloc hS.size _) ((Below.refl _ _).alloc (Nat.le_refl _) _) ⟨fun e => absurd e (by decide), fun e => absurd e (by decide), fun e => absurd e (by decide), fun e => absurd e (by decide), fun _ => ⟨_, rfl, Blk.new _ _ _, hS.size⟩, trivial⟩
          · intro vs W hS hd
            obtain ⟨q2, e7, hq2, hq2m, hq2n⟩ := (hd 7 (by decide)).2.2.2.1 rfl
            obtain ⟨k12, e8, kb, hk12⟩ := (hd 8 (by decide)).2.2.2.2.1 rfl
            simp only [puts, List.foldl_cons, List.foldl_nil, Act.put, List.setIfInBounds_toArray, List.set_cons_zero, List.set_cons_succ, Nat.reduceAdd, Nat.reduceSub, Nat.reduceEqDiff, reduceIte]
            simp only [e7, e8]
            clear p1 p2 p3
            have b0 : W.cell? ⟨k12, 0, none⟩ = some (.slice none 0 0) := kb.cell 0
            have b1 : W.cell? ⟨k12, 1, none⟩ = some (.bool false) := kb.cell 1
            have b2 : W.cell? ⟨k12, 2, none⟩ = some (.slice none 0 0) := kb.cell 2
            have f0 := Joins.unfrozen_of_block kb 0
            have f1 := Joins.unfrozen_of_block kb 1
            have f2 := Joins.unfrozen_of_block kb 2
            have HS3 := Lib.hid (store3 kb (.slice q2.A q2.n q2.c) (.bool q2.b.neg) (.slice q2.b.A q2.b.n q2.b.c))
            have HQ2 := Lib.hid (hq2.store kb (.slice q2.A q2.n q2.c) (.bool q2.b.neg) (.slice q2.b.A q2.b.n q2.b.c))
            have hbz := HS3.out.2 _ _ hS hk12
            have HQ2M := Lib.hid hq2m
            have HQ2N := Lib.hid hq2n
            clear hq2 kb hd hq2m hq2n e7 e8 hk12
            obtain ⟨Wz, hWz⟩ : ∃ Wz, Wz = ((W.setCell ⟨k12, 0, none⟩ (.slice q2.A q2.n q2.c)).setCell ⟨k12, 1, none⟩ (.bool q2.b.neg)).setCell ⟨k12, 2, none⟩ (.slice q2.b.A q2.b.n q2.b.c) := ⟨_, rfl⟩
            rw [← hWz] at HS3 HQ2 hbz
            unfold Iq.val
            go_upto_region 23 with fail
            rw [← hWz]
            clear hWz b0 b1 b2 f0 f1 f2 hS
            have HCz := Lib.hid (HCa.out.keep hbz)
            have HPz := Lib.hid (HPa.out.below hbz)
            have KEz := Lib.hid (KE.out.below hbz)
            have K12 := Lib.hid HS3.out.1
            clear hbz HS3
            generalize vs = vs' at *
            obtain ⟨bK, offK, rfl, -, hck⟩ := at5 Pf.cells_len HKA.out (by decide)
            obtain ⟨x0, x1, x2, x3, x4, hx⟩ : ∃ x0 x1 x2 x3 x4, kk0.cells = [x0, x1, x2, x3, x4] := by cases kk0; exact ⟨_, _, _, _, _, rfl⟩
            obtain ⟨t0, t1, t2, t3, t4, ht⟩ : ∃ x0 x1 x2 x3 x4, kk1.cells = [x0, x1, x2, x3, x4] := by cases kk1; exact ⟨_, _, _, _, _, rfl⟩
            have hv0 : kk0.val = .agg #[x0, x1, x2, x3, x4] := by unfold Pf.val; rw [hx]
            have hv1 : kk1.val = .agg #[t0, t1, t2, t3, t4] := by unfold Pf.val; rw [ht]
            obtain ⟨c0, c1, c2, c3, c4⟩ := hck Wz HCz.out.below 0 (show 0 < 2 by decide) x0 x1 x2 x3 x4 hx
            obtain ⟨d0, d1, d2, d3, d4⟩ := hck Wz HCz.out.below 1 (show 1 < 2 by decide) t0 t1 t2 t3 t4 ht
            rw [Nat.zero_mul, Nat.add_zero] at c0 c1 c2 c3 c4
            rw [Nat.one_mul] at d0 d1 d2 d3 d4
            have e0 : Wz.cell? ⟨k11, 0, none⟩ = some (.slice fA fn fc) := KEz.out.cell 0
            have e1 : Wz.cell? ⟨k11, 1, none⟩ = some (.bool b.neg) := KEz.out.cell 1
            have e2 : Wz.cell? ⟨k11, 2, none⟩ = some (.slice b.A b.n b.c) := KEz.out.cell 2
            have g0 : Wz.cell? ⟨k12, 0, none⟩ = some (.slice q2.A q2.n q2.c) := K12.out.cell 0
            have g1 : Wz.cell? ⟨k12, 1, none⟩ = some (.bool q2.b.neg) := K12.out.cell 1
            have g2 : Wz.cell? ⟨k12, 2, none⟩ = some (.slice q2.b.A q2.b.n q2.b.c) := K12.out.cell 2
            have p4 : Wz.cell? ⟨kp, 4, none⟩ = some (.slice (some ⟨bK, offK, none⟩) 2 kc) := HPz.out.cell 4
            have HV0 := Lib.hid hv0
            have HV1 := Lib.hid hv1
            clear hck hx ht hv0 hv1
            have HW2 := Lib.hid (show 0 < Q'.length → wd = fn from fun h => HOKW.out (by rw [HN.out]; exact h))
            have HRB := Lib.hid (show r = (chk kk0.m ((Q' ++ [(⟨fA, fn, fc, F, b⟩ : Iq)]).map Iq.m) && chk kk1.m ((Q' ++ [q2]).map Iq.m)) by
              rw [HRA.out, if_neg, List.map_append, List.map_append]
              · rw [show [q2].map Iq.m = [((F.map Bg.z).map (fun z => -z), -1 - b.z)] by rw [List.map_cons, List.map_nil, HQ2M.out, List.map_map]; rfl]
                rfl
              · intro hcc
                have hq : 0 < Q'.length := by
                  rcases Q' with _ | ⟨a, Q'⟩
                  · exact absurd rfl hcc.1
                  · exact Nat.zero_lt_succ _
                rw [List.length_map, HFL.out, HWQ.out.2, HW2.out hq] at hcc
                exact hcc.2 rfl)
            have HSZK := Lib.hid (show ∀ kk ∈ [kk0, kk1], sizeP kk.m + 1 ≤ sz from fun kk hkk => by
              have h1 := HSZ.out
              simp only [List.map_cons, List.map_nil, List.length_cons, List.length_nil, List.sum_cons, List.sum_nil] at h1
              simp at h1
              rcases List.mem_cons.1 hkk with rfl | hkk
              · omega
              · rw [List.mem_singleton.1 hkk]
                omega)
            obtain ⟨N2, hN2⟩ : ∃ N2, N2 = Nl + (k + 1) * (Ns + 3) := ⟨_, rfl⟩
            have HGO := Lib.hid (fun (kk : Pf) (hkk : kk ∈ [kk0, kk1]) (z1 z2 : World) (v : Value) (q : Iq) (hb1 : Below w0.heap.size w0 z1) (hc : CL z1 z2 v (Q' ++ [q]) N2 fn) => HIH.out kk (HPS.out kk hkk) z1 z2 v (Q' ++ [q]) fn N2 Ns ((HKO.out kk hkk).keep hb1) hc hfn (by rw [hN2]; omega) (by
                have h1 := HSZK.out kk hkk
                have h2 := HLEN.out
                have h3 := HQl.out
                rw [List.length_append, List.length_singleton]
                omega) (by
                have h1 := HSZK.out kk hkk
                have h2 := HTOT.out
                have h3 : (k + 1) * (Ns + 3) + sizeP kk.m * (Ns + 3) ≤ (k + sz) * (Ns + 3) := by rw [← Nat.add_mul]; exact Nat.mul_le_mul_right _ (by omega)
                omega))
            have HNW := Lib.hid (show Nl + k * (Ns + 3) ≤ N2 by rw [hN2, Nat.add_mul]; omega)
            have HNS := Lib.hid (show Ns + 3 ≤ N2 by rw [hN2, Nat.add_mul]; omega)
            have HN2 := Lib.hid hN2
            clear hN2
            have hb0 : Below Wz.heap.size Wz Wz.drew := below_drew (Below.refl _ _)
            refine wp_region_mixE (fun w' => Below Wz.heap.size Wz w') (by kernel_rfl) ?_
            generalize Wz.drew = z0 at hb0 ⊢
            refine wpE_take (i := 0) (oi := ⟨some 76, _, _, _, _, _⟩) (v := ?_) rfl (by decide +kernel) (by decide +kernel) (by decide +kernel) (fun _ _ _ h => h) (Or.inl ⟨by rfl, ?_⟩) hb0 ?_
            case refine_2 =>
              intro w' hSw
              skip
              go_simp
              try (with_reducible rfl)
            try simp only [Act.put, List.setIfInBounds_toArray, List.set_cons_zero, List.set_cons_succ]
            refine wpE_take (i := 1) (oi := ⟨some 77, _, _, _, _, _⟩) (v := ?_) rfl (by decide +kernel) (by decide +kernel) (by decide +kernel) (fun _ _ _ h => h) (Or.inl ⟨by rfl, ?_⟩) hb0 ?_
            case refine_2 =>
              intro w' hSw
              have e0' := keepcell hSw e0
              have e1' := keepcell hSw e1
              have e2' := keepcell hSw e2
              go_simp
              try (with_reducible rfl)
            try simp only [Act.put, List.setIfInBounds_toArray, List.set_cons_zero, List.set_cons_succ]
            refine wpE_take (i := 4) (oi := ⟨some 80, _, _, _, _, _⟩) (v := ?_) rfl (by decide +kernel) (by decide +kernel) (by decide +kernel) (fun _ _ _ h => h) (Or.inl ⟨by rfl, ?_⟩) hb0 ?_
            case refine_2 =>
              intro w' hSw
              skip
              go_simp
              try (with_reducible rfl)
            try simp only [Act.put, List.setIfInBounds_toArray, List.set_cons_zero, List.set_cons_succ]
            refine wpE_take (i := 5) (oi := ⟨some 81, _, _, _, _, _⟩) (v := ?_) rfl (by decide +kernel) (by decide +kernel) (by decide +kernel) (fun _ _ _ h => h) (Or.inl ⟨by rfl, ?_⟩) hb0 ?_
            case refine_2 =>
              intro w' hSw
              have p4' := keepcell hSw p4
              go_simp
              try (with_reducible rfl)
            try simp only [Act.put, List.setIfInBounds_toArray, List.set_cons_zero, List.set_cons_succ]
            have HCda := Lib.hid (HCz.out.keep hb0)
            refine wpE_take (i := 6) (oi := ⟨some 82, _, _, _, _, _⟩) (v := ?_) rfl (by decide +kernel) (by decide +kernel) (by decide +kernel) (fun _ _ _ h => h) (Or.inl ⟨by rfl, ?_⟩) hb0 ?_
            case refine_2 =>
              intro w' hSw
              have p4' := keepcell hSw p4
              go_simp
              try (with_reducible rfl)
            try simp only [Act.put, List.setIfInBounds_toArray, List.set_cons_zero, List.set_cons_succ]
            refine wpE_take (i := 7) (oi := ⟨some 83, _, _, _, _, _⟩) (v := ?_) rfl (by decide +kernel) (by decide +kernel) (by decide +kernel) (fun _ _ _ h => h) (Or.inl ⟨by rfl, ?_⟩) hb0 ?_
            case refine_2 =>
              intro w' hSw
              have c0' := keepcell hSw c0
              have c1' := keepcell hSw c1
              have c2' := keepcell hSw c2
              have c3' := keepcell hSw c3
              have c4' := keepcell hSw c4
              go_simp
              try (with_reducible rfl)
            try simp only [Act.put, List.setIfInBounds_toArray, List.set_cons_zero, List.set_cons_succ]
            refine wpE_step (i := 2) (o := ⟨some 78, _, _, _, _, _⟩) rfl (by decide +kernel) (fun KK hKK => ?_)
            go_simp
            refine hKK.out _ _ (hb0.alloc hb0.size _) ?_
            clear hKK KK
            try simp only [Act.put, List.setIfInBounds_toArray, List.set_cons_zero, List.set_cons_succ]
            obtain ⟨z1a, hz1⟩ : ∃ z, z = z0.alloc (.cells #[.slice fA fn fc, .bool b.neg, .slice b.A b.n b.c] 44) := ⟨_, rfl⟩
            obtain ⟨g1a, hg1⟩ : ∃ g, g = z0.heap.size := ⟨_, rfl⟩
            have hb1a : Below Wz.heap.size Wz z1a := by rw [hz1]; exact hb0.alloc hb0.size _
            have KBa := Lib.hid (show Blk z1a g1a 44 #[.slice fA fn fc, .bool b.neg, .slice b.A b.n b.c] by rw [hz1]; exact Blk.new_ hg1 rfl)
            rw [← hz1, ← hg1]
            clear hz1 hg1
            have HC1a := Lib.hid (HCz.out.keep hb1a)
            have CE := Lib.hid (extended_any qA (some ⟨g1a, 0, none⟩) qc 1 Q' [(⟨fA, fn, fc, F, b⟩ : Iq)] z1a (own_at_slice HC1a.out.own) (one_at KBa.out) (by rw [List.length_singleton]; omega))
            rw [List.length_singleton, ← HN.out] at CE
            refine wpE_step (i := 3) (o := ⟨some 79, _, _, _, _, _⟩) rfl (by decide +kernel) (fun KK hKK => ?_)
            go_simp
            refine CE.out.mono ?_
            rintro e z2a ⟨v1a, rfl, hown, hbn⟩
            have hb2a : Below Wz.heap.size Wz z2a := hb1a.trans (hbn.mono hb1a.size)
            have CK := Lib.hid (HGO.out kk0 (List.mem_cons_self) z1a z2a v1a (⟨fA, fn, fc, F, b⟩ : Iq) HC1a.out.below ((HC1a.out.wide HNW.out).ext (Iq.ok.mono (N := Ns) ⟨HF.out.below HC1a.out.below, HBO.out.below HC1a.out.below⟩ (by have := HNS.out; omega)) rfl HW2.out (by rw [← HN.out]; exact hown) hbn))
            rw [HV0.out] at CK
            clear hown hbn
            refine hKK.out _ _ hb2a ?_
            clear hKK KK
            try simp only [Act.put, List.setIfInBounds_toArray, List.set_cons_zero, List.set_cons_succ]
            obtain ⟨ra, hra⟩ : ∃ x, chk kk0.m ((Q' ++ [(⟨fA, fn, fc, F, b⟩ : Iq)]).map Iq.m) = x := ⟨_, rfl⟩
            rw [hra] at CK
            rw [hra] at HRB
            clear hra
            refine wpE_step (i := 8) (o := ⟨some 84, _, _, _, _, _⟩) rfl (by decide +kernel) (fun KK hKK => ?_)
            go_simp
            refine CK.out.mono ?_
            rintro e z3a ⟨rfl, hbn⟩
            have hb3a : Below Wz.heap.size Wz z3a := hb1a.trans (hbn.mono hb1a.size)
            clear hbn
            refine hKK.out _ _ hb3a ?_
            clear hKK KK
            try simp only [Act.put, List.setIfInBounds_toArray, List.set_cons_zero, List.set_cons_succ]
            cases ra with
            | false =>
              have HRB := Lib.hid (show r = false by rw [HRB.out]; rfl)
              refine wpE_take (i := 9) (oi := ⟨some 85, _, _, _, _, _⟩) (v := ?_) rfl (by decide +kernel) (by decide +kernel) (by decide +kernel) (fun _ _ _ h => h) (Or.inl ⟨by rfl, ?_⟩) hb3a ?_
              case refine_2 =>
                intro w' hSw
                skip
                go_simp
                try (with_reducible rfl)
              try simp only [Act.put, List.setIfInBounds_toArray, List.set_cons_zero, List.set_cons_succ]
              refine wpE_take (i := 10) (oi := ⟨some 86, _, _, _, _, _⟩) (v := undef) rfl (by decide +kernel) (by decide +kernel) (by decide +kernel) (fun _ _ _ h => h) (Or.inr ⟨by rfl, rfl⟩) hb3a ?_
              try simp only [Act.put, List.setIfInBounds_toArray, List.set_cons_zero, List.set_cons_succ]
              refine wpE_take (i := 11) (oi := ⟨some 87, _, _, _, _, _⟩) (v := undef) rfl (by decide +kernel) (by decide +kernel) (by decide +kernel) (fun _ _ _ h => h) (Or.inr ⟨by rfl, rfl⟩) hb3a ?_
              try simp only [Act.put, List.setIfInBounds_toArray, List.set_cons_zero, List.set_cons_succ]
              refine wpE_take (i := 12) (oi := ⟨some 88, _, _, _, _, _⟩) (v := undef) rfl (by decide +kernel) (by decide +kernel) (by decide +kernel) (fun _ _ _ h => h) (Or.inr ⟨by rfl, rfl⟩) hb3a ?_
              try simp only [Act.put, List.setIfInBounds_toArray, List.set_cons_zero, List.set_cons_succ]
              refine wpE_take (i := 13) (oi := ⟨some 89, _, _, _, _, _⟩) (v := undef) rfl (by decide +kernel) (by decide +kernel) (by decide +kernel) (fun _ _ _ h => h) (Or.inr ⟨by rfl, rfl⟩) hb3a ?_
              try simp only [Act.put, List.setIfInBounds_toArray, List.set_cons_zero, List.set_cons_succ]
              refine wpE_take (i := 14) (oi := ⟨some 90, _, _, _, _, _⟩) (v := undef) rfl (by decide +kernel) (by decide +kernel) (by decide +kernel) (fun _ _ _ h => h) (Or.inr ⟨by rfl, rfl⟩) hb3a ?_
              try simp only [Act.put, List.setIfInBounds_toArray, List.set_cons_zero, List.set_cons_succ]
              refine wpE_take (i := 15) (oi := ⟨some 91, _, _, _, _, _⟩) (v := undef) rfl (by decide +kernel) (by decide +kernel) (by decide +kernel) (fun _ _ _ h => h) (Or.inr ⟨by rfl, rfl⟩) hb3a ?_
              try simp only [Act.put, List.setIfInBounds_toArray, List.set_cons_zero, List.set_cons_succ]
              refine wpE_take (i := 16) (oi := ⟨some 92, _, _, _, _, _⟩) (v := undef) rfl (by decide +kernel) (by decide +kernel) (by decide +kernel) (fun _ _ _ h => h) (Or.inr ⟨by rfl, rfl⟩) hb3a ?_
              try simp only [Act.put, List.setIfInBounds_toArray, List.set_cons_zero, List.set_cons_succ]
              refine wpE_take (i := 17) (oi := ⟨some 93, _, _, _, _, _⟩) (v := undef) rfl (by decide +kernel) (by decide +kernel) (by decide +kernel) (fun _ _ _ h => h) (Or.inr ⟨by rfl, rfl⟩) hb3a ?_
              try simp only [Act.put, List.setIfInBounds_toArray, List.set_cons_zero, List.set_cons_succ]
              refine wpE_take (i := 18) (oi := ⟨some 94, _, _, _, _, _⟩) (v := undef) rfl (by decide +kernel) (by decide +kernel) (by decide +kernel) (fun _ _ _ h => h) (Or.inr ⟨by rfl, rfl⟩) hb3a ?_
              try simp only [Act.put, List.setIfInBounds_toArray, List.set_cons_zero, List.set_cons_succ]
              refine wpE_take (i := 19) (oi := ⟨some 95, _, _, _, _, _⟩) (v := .bool false) rfl (by decide +kernel) (by decide +kernel) (by decide +kernel) (fun _ _ _ h => h) (Or.inl ⟨by rfl, ?_⟩) hb3a ?_
              case refine_1 =>
                intro w' hSw
                skip
                go_simp
                try (with_reducible rfl)
              try simp only [Act.put, List.setIfInBounds_toArray, List.set_cons_zero, List.set_cons_succ]
              refine wpE_take (i := 20) (oi := ⟨some 4, _, _, _, _, _⟩) (v := ?_) rfl (by decide +kernel) (by decide +kernel) (by decide +kernel) (fun _ _ _ h => h) (Or.inl ⟨by rfl, ?_⟩) hb3a ?_
              case refine_2 =>
                intro w' hSw
                skip
                go_simp
                try (with_reducible rfl)
              try simp only [Act.put, List.setIfInBounds_toArray, List.set_cons_zero, List.set_cons_succ]
              refine wpE_done (by decide +kernel) ?_
              have HBW := Lib.hid (HCz.out.below.trans (hb3a.mono HCz.out.below.size))
              clear c0 c1 c2 c3 c4 d0 d1 d2 d3 d4 e0 e1 e2 g0 g1 g2 p4
              go_wp2
              go_ret
              exact ⟨by rw [HRB.out]; rfl, HBW.out⟩
            | true =>
              have HRB := Lib.hid (show r = chk kk1.m ((Q' ++ [q2]).map Iq.m) by rw [HRB.out]; rfl)
              refine wpE_take (i := 9) (oi := ⟨some 85, _, _, _, _, _⟩) (v := ?_) rfl (by decide +kernel) (by decide +kernel) (by decide +kernel) (fun _ _ _ h => h) (Or.inl ⟨by rfl, ?_⟩) hb3a ?_
              case refine_2 =>
                intro w' hSw
                skip
                go_simp
                try (with_reducible rfl)
              try simp only [Act.put, List.setIfInBounds_toArray, List.set_cons_zero, List.set_cons_succ]
              refine wpE_take (i := 10) (oi := ⟨some 86, _, _, _, _, _⟩) (v := ?_) rfl (by decide +kernel) (by decide +kernel) (by decide +kernel) (fun _ _ _ h => h) (Or.inl ⟨by rfl, ?_⟩) hb3a ?_
              case refine_2 =>
                intro w' hSw
                skip
                go_simp
                try (with_reducible rfl)
              try simp only [Act.put, List.setIfInBounds_toArray, List.set_cons_zero, List.set_cons_succ]
              refine wpE_take (i := 11) (oi := ⟨some 87, _, _, _, _, _⟩) (v := ?_) rfl (by decide +kernel) (by decide +kernel) (by decide +kernel) (fun _ _ _ h => h) (Or.inl ⟨by rfl, ?_⟩) hb3a ?_
              case refine_2 =>
                intro w' hSw
                have g0' := keepcell hSw g0
                have g1' := keepcell hSw g1
                have g2' := keepcell hSw g2
                go_simp
                try (with_reducible rfl)
              try simp only [Act.put, List.setIfInBounds_toArray, List.set_cons_zero, List.set_cons_succ]
              refine wpE_take (i := 14) (oi := ⟨some 90, _, _, _, _, _⟩) (v := ?_) rfl (by decide +kernel) (by decide +kernel) (by decide +kernel) (fun _ _ _ h => h) (Or.inl ⟨by rfl, ?_⟩) hb3a ?_
              case refine_2 =>
                intro w' hSw
                skip
                go_simp
                try (with_reducible rfl)
              try simp only [Act.put, List.setIfInBounds_toArray, List.set_cons_zero, List.set_cons_succ]
              refine wpE_take (i := 15) (oi := ⟨some 91, _, _, _, _, _⟩) (v := ?_) rfl (by decide +kernel) (by decide +kernel) (by decide +kernel) (fun _ _ _ h => h) (Or.inl ⟨by rfl, ?_⟩) hb3a ?_
              case refine_2 =>
                intro w' hSw
                have p4' := keepcell hSw p4
                go_simp
                try (with_reducible rfl)
              try simp only [Act.put, List.setIfInBounds_toArray, List.set_cons_zero, List.set_cons_succ]
              have HCdb := Lib.hid (HCz.out.keep hb3a)
              refine wpE_take (i := 16) (oi := ⟨some 92, _, _, _, _, _⟩) (v := ?_) rfl (by decide +kernel) (by decide +kernel) (by decide +kernel) (fun _ _ _ h => h) (Or.inl ⟨by rfl, ?_⟩) hb3a ?_
              case refine_2 =>
                intro w' hSw
                have p4' := keepcell hSw p4
                go_simp
                try (with_reducible rfl)
              try simp only [Act.put, List.setIfInBounds_toArray, List.set_cons_zero, List.set_cons_succ]
              refine wpE_take (i := 17) (oi := ⟨some 93, _, _, _, _, _⟩) (v := ?_) rfl (by decide +kernel) (by decide +kernel) (by decide +kernel) (fun _ _ _ h => h) (Or.inl ⟨by rfl, ?_⟩) hb3a ?_
              case refine_2 =>
                intro w' hSw
                have d0' := keepcell hSw d0
                have d1' := keepcell hSw d1
                have d2' := keepcell hSw d2
                have d3' := keepcell hSw d3
                have d4' := keepcell hSw d4
                go_simp
                try (with_reducible rfl)
              try simp only [Act.put, List.setIfInBounds_toArray, List.set_cons_zero, List.set_cons_succ]
              refine wpE_step (i := 12) (o := ⟨some 88, _, _, _, _, _⟩) rfl (by decide +kernel) (fun KK hKK => ?_)
              go_simp
              refine hKK.out _ _ (hb3a.alloc hb3a.size _) ?_
              clear hKK KK
              try simp only [Act.put, List.setIfInBounds_toArray, List.set_cons_zero, List.set_cons_succ]
              obtain ⟨z1b, hz1⟩ : ∃ z, z = z3a.alloc (.cells #[.slice q2.A q2.n q2.c, .bool q2.b.neg, .slice q2.b.A q2.b.n q2.b.c] 44) := ⟨_, rfl⟩
              obtain ⟨g1b, hg1⟩ : ∃ g, g = z3a.heap.size := ⟨_, rfl⟩
              have hb1b : Below Wz.heap.size Wz z1b := by rw [hz1]; exact hb3a.alloc hb3a.size _
              have KBb := Lib.hid (show Blk z1b g1b 44 #[.slice q2.A q2.n q2.c, .bool q2.b.neg, .slice q2.b.A q2.b.n q2.b.c] by rw [hz1]; exact Blk.new_ hg1 rfl)
              rw [← hz1, ← hg1]
              clear hz1 hg1
              have HC1b := Lib.hid (HCz.out.keep hb1b)
              have CE := Lib.hid (extended_any qA (some ⟨g1b, 0, none⟩) qc 1 Q' [q2] z1b (own_at_slice HC1b.out.own) (one_at KBb.out) (by rw [List.length_singleton]; omega))
              rw [List.length_singleton, ← HN.out] at CE
              refine wpE_step (i := 13) (o := ⟨some 89, _, _, _, _, _⟩) rfl (by decide +kernel) (fun KK hKK => ?_)
              go_simp
              refine CE.out.mono ?_
              rintro e z2b ⟨v1b, rfl, hown, hbn⟩
              have hb2b : Below Wz.heap.size Wz z2b := hb1b.trans (hbn.mono hb1b.size)
              have CK := Lib.hid (HGO.out kk1 (List.mem_cons_of_mem _ List.mem_cons_self) z1b z2b v1b q2 HC1b.out.below ((HC1b.out.wide HNW.out).ext ((HQ2.out.below hb1b).ok.mono HNS.out) HQ2N.out HW2.out (by rw [← HN.out]; exact hown) hbn))
              rw [HV1.out] at CK
              clear hown hbn
              refine hKK.out _ _ hb2b ?_
              clear hKK KK
              try simp only [Act.put, List.setIfInBounds_toArray, List.set_cons_zero, List.set_cons_succ]
              obtain ⟨rb, hrb⟩ : ∃ x, chk kk1.m ((Q' ++ [q2]).map Iq.m) = x := ⟨_, rfl⟩
              rw [hrb] at CK
              rw [hrb] at HRB
              clear hrb
              refine wpE_step (i := 18) (o := ⟨some 94, _, _, _, _, _⟩) rfl (by decide +kernel) (fun KK hKK => ?_)
              go_simp
              refine CK.out.mono ?_
              rintro e z3b ⟨rfl, hbn⟩
              have hb3b : Below Wz.heap.size Wz z3b := hb1b.trans (hbn.mono hb1b.size)
              clear hbn
              refine hKK.out _ _ hb3b ?_
              clear hKK KK
              try simp only [Act.put, List.setIfInBounds_toArray, List.set_cons_zero, List.set_cons_succ]
              refine wpE_take (i := 19) (oi := ⟨some 95, _, _, _, _, _⟩) (v := ?_) rfl (by decide +kernel) (by decide +kernel) (by decide +kernel) (fun _ _ _ h => h) (Or.inl ⟨by rfl, ?_⟩) hb3b ?_
              case refine_2 =>
                intro w' hSw
                skip
                go_simp
                try (with_reducible rfl)
              try simp only [Act.put, List.setIfInBounds_toArray, List.set_cons_zero, List.set_cons_succ]
              refine wpE_take (i := 20) (oi := ⟨some 4, _, _, _, _, _⟩) (v := ?_) rfl (by decide +kernel) (by decide +kernel) (by decide +kernel) (fun _ _ _ h => h) (Or.inl ⟨by rfl, ?_⟩) hb3b ?_
              case refine_2 =>
                intro w' hSw
                skip
                go_simp
                try (with_reducible rfl)
              try simp only [Act.put, List.setIfInBounds_toArray, List.set_cons_zero, List.set_cons_succ]
              refine wpE_done (by decide +kernel) ?_
              have HBW := Lib.hid (HCz.out.below.trans (hb3b.mono HCz.out.below.size))
              clear c0 c1 c2 c3 c4 d0 d1 d2 d3 d4 e0 e1 e2 g0 g1 g2 p4
              go_wp2
              go_ret
              exact ⟨by rw [HRB.out]; rfl, HBW.out⟩
theorem chk_any : ∀ M, CkIH M
  | 0 => fun p hp => by cases p; simp only [Pf.mk.sizeOf_spec] at hp; omega
  | M + 1 => chk_step M (chk_any M)
end Go.Proofs.Ythfolccofjaknaa
