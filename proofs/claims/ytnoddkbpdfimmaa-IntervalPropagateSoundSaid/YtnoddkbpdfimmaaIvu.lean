/- Propagation. -/
import Derived.Test.YtnoddkbpdfimmaaIvq
import Derived.Test.YtnoddkbpdfimmaaIvd
namespace Go.Proofs.Ytnoddkbpdfimmaa
open Go.ChangeShapes Go.WideShapes Go.ChangeAt Go.RowKit Go.ChangeMaps

/-- A constraint in memory. -/
structure Cn where
  c : Int
  A : Option Addr
  n : Nat
  cap : Nat
  l : List Iv
  eq : Bool
def Cn.cells (x : Cn) : List Value := [.int .i64 x.c, .slice x.A x.n x.cap, .bool x.eq]
def Cns (w : World) (A : Option Addr) (n : Nat) (Cs : List Cn) : Prop := At w A n 3 (Cs.flatMap Cn.cells) ∧ ∀ x ∈ Cs, Ivs w x.A x.n x.l
def Cn.ok (m : Nat) (x : Cn) : Prop := x.n ≤ 64 ∧ (-1099511627776 ≤ x.c ∧ x.c ≤ 1099511627776) ∧ ∀ y ∈ x.l, CfOk m y
theorem Cns.len {w : World} {A : Option Addr} {n : Nat} {Cs : List Cn} (h : Cns w A n Cs) : Cs.length = n := by
  have h1 := h.1.1
  rw [flat_len Cn.cells 3 (fun _ => rfl)] at h1
  omega
theorem Cns.at {w : World} {A : Option Addr} {n : Nat} {Cs : List Cn} (h : Cns w A n Cs) (hn : 0 < n) : ∃ b off, A = some ⟨b, off, none⟩ ∧ b < w.heap.size ∧ ∀ (W : World), Below w.heap.size w W → ∀ i (hi : i < Cs.length),
    W.cell? ⟨b, off + i * 3, none⟩ = some (.int .i64 Cs[i].c) ∧ W.cell? ⟨b, off + i * 3 + 1, none⟩ = some (.slice Cs[i].A Cs[i].n Cs[i].cap) ∧ W.cell? ⟨b, off + i * 3 + 2, none⟩ = some (.bool Cs[i].eq) := by
  obtain ⟨b, off, e, hb, hc⟩ := h.1.2 hn
  refine ⟨b, off, e, hb, fun W hW i hi => ?_⟩
  have g : ∀ j u, j < 3 → (Cs[i].cells)[j]? = some u → W.cell? ⟨b, off + i * 3 + j, none⟩ = some u := fun j u hj hu => by
    rw [Nat.add_assoc]
    exact keepcell hW (hc _ _ ((flat_get Cn.cells 3 (fun _ => rfl) Cs i j hi hj).trans hu))
  exact ⟨g 0 _ (by decide) rfl, g 1 _ (by decide) rfl, g 2 _ (by decide) rfl⟩
def nwO (x : Cn) (R : List Iv) : Option (List Iv) := if nwE x.c x.eq (nwM x.c x.eq x.l x.n R true) then (nwM x.c x.eq x.l x.n R true).map Prod.fst else none
def onceM : List Cn → List Iv → Option (List Iv)
  | [], R => some R
  | x :: l, R => match nwO x R with
    | none => none
    | some R' => onceM l R'
def roundsM (Cs : List Cn) : Nat → List Iv → Option (List Iv)
  | 0, R => some R
  | k + 1, R => match onceM Cs R with
    | none => none
    | some R' => if R = R' then some R' else roundsM Cs k R'
def propM (Cs : List Cn) (R : List Iv) : Option (List Iv) := if R.any Iv.emp then none else roundsM Cs 32 R
def PrP (w W : World) (e : Ending) : Option (List Iv) → Prop
  | none => e = .returned (.tuple #[.slice none 0 0, .bool false])
  | some R => ∃ v, e = .returned (.tuple #[v, .bool true]) ∧ OR 39 W w.heap.size v R
theorem OR.frame {L : TypeId} {X W : World} {b : Nat} {v : Value} {ob : Option Nat} {R : List Iv} (h : OR L X b v R) (hg : X.grownBy W ob) (hne : ∀ g, b ≤ g → ob ≠ some g) : OR L W b v R := by
  refine ⟨h.1, ?_⟩
  rcases h.2 with h1 | ⟨g, cap, cur, e, hbg, hh, h2⟩
  · exact .inl h1
  · exact .inr ⟨g, cap, cur, e, hbg, (hg.block g (show Blk X g L cur from hh).lt (Ne.symm (hne g hbg))).trans hh, h2⟩
theorem own_lt {L : TypeId} {X : World} {b : Nat} {v : Value} {R : List Iv} (h : OR L X b v R) : ∀ g, X.heap.size ≤ g → v.ownBlock ≠ some g := by
  intro g hg e
  rcases h.2 with ⟨rfl, _⟩ | ⟨g', cap, cur, rfl, hbg, hh, h2⟩
  · cases e
  · injection e with e
    have := (show Blk X g' L cur from hh).lt
    have e2 : g' = g := e
    omega
set_option maxRecDepth 100000 in
set_option maxHeartbeats 1000000 in
theorem Propagate_any (A : Option Addr) (n cap : Nat) (Cs : List Cn) (D : Option Addr) (m cap2 : Nat) (R : List Iv) (w : World) (h : Cns w A n Cs) (h2 : Ivs w D m R) (hn : n ≤ 1000) (hm : m ≤ 64) (hC : ∀ x ∈ Cs, x.ok m) (hR : ∀ d ∈ R, d.bd 4294967296) :
    Calls Try.prog 27 #[.slice A n cap, .slice D m cap2] w fun e w' => PrP w w' e (propM Cs R) ∧ Below w.heap.size w w' := by
  obtain ⟨res, hres⟩ : ∃ res, propM Cs R = res := ⟨_, rfl⟩
  rw [hres]
  have HRES := Lib.hid hres
  have HL := Lib.hid h.len
  have HA := Lib.hid h.at
  have HI := Lib.hid h.2
  have HCO := Lib.hid hC
  have CC := Lib.hid (ContFE_any D m cap2 R w h2 (by omega))
  have CL := Lib.hid (fun w1 (hb : Below w.heap.size w w1) => Clone_any D m cap2 R w1 (h2.below hb) (by omega))
  have HR0 := Lib.hid (show R.length = m ∧ ∀ d ∈ R, d.bd 4294967296 from ⟨h2.len, hR⟩)
  clear h h2 hC hR hres
  go_enter Try.func27, Try.ntmps27
  go_wp2_with fail
  refine CC.out.mono ?_
  rintro e w1 ⟨rfl, hb⟩
  have HB1 := Lib.hid hb
  have CL1 := Lib.hid (CL.out w1 hb)
  clear CC CL hb
  cases hA : R.any Iv.emp
  · have HRM := Lib.hid (show roundsM Cs 32 R = res by have h := HRES.out; unfold propM at h; rwa [hA, if_neg (by decide)] at h)
    go_wp2_with fail
    refine CL1.out.mono ?_
    rintro e w2 ⟨V, rfl, ho, hb⟩
    obtain ⟨Av, cv, ev, -, -, -⟩ := ho.ivs
    rw [HR0.out.1] at ev
    have HO2 := Lib.hid (ho.mono HB1.out.size)
    have HB2 := Lib.hid (HB1.out.trans (hb.mono HB1.out.size))
    clear ho hb CL1
    subst ev
    go_wp2
    go_loopw [14] (fun s14 wr => ∃ (k : Nat) (R' : List Iv), s14 = .int .i64 (k : Int) ∧ k ≤ 32 ∧ roundsM Cs (32 - k) R' = res ∧ OR 39 wr w.heap.size (.slice Av m cv) R' ∧ (R'.length = m ∧ ∀ d ∈ R', d.bd 4294967296) ∧ Below w.heap.size w wr) (fun s14 _ => 32 - (intOf s14).toNat)
    case atStart => exact ⟨0, R, rfl, Nat.zero_le _, HRM.out, HO2.out, HR0.out, HB2.out⟩
    case round =>
      obtain ⟨wq, rfl⟩ : ∃ x, x = wr := ⟨_, rfl⟩
      obtain ⟨k, R', rfl, hkn, hE, hO, hR', hB⟩ := hrel
      have HE := Lib.hid hE
      have HO := Lib.hid hO
      have HR' := Lib.hid hR'
      have HB := Lib.hid hB
      clear hE hO hR' hB HO2 HB2 HR0
      by_cases hlt : k < 32
      · have hki : (k : Int) < 32 := by omega
        have hk0 : (0 : Int) ≤ (k : Int) := by omega
        have HST := Lib.hid (show (match onceM Cs R' with | none => none | some R'' => if R' = R'' then some R'' else roundsM Cs (32 - (k + 1)) R'') = res by
          have h := HE.out
          rw [show 32 - k = (32 - (k + 1)) + 1 by omega] at h
          exact h)
        have CL7 := Lib.hid (Clone_any Av m cv R' wq (by
          obtain ⟨A', c', e, hh, -, -⟩ := HO.out.ivs
          injection e with e1 e2 e3
          rw [← e1, ← e2] at hh
          exact hh) (by omega))
        go_wp2_with fail
        refine CL7.out.mono ?_
        rintro e w3 ⟨v7, rfl, ho, hb⟩
        obtain ⟨A7, c7, ev, -, -, -⟩ := ho.ivs
        rw [HR'.out.1] at ev
        subst ev
        have HO7 := Lib.hid ho
        have HV3 := Lib.hid (HO.out.below hb)
        have HB3 := Lib.hid (HB.out.trans (hb.mono HB.out.size))
        have HNE := Lib.hid (own_lt HO.out)
        have HS3 := Lib.hid hb.size
        clear ho hb CL7 HO HB HE
        go_wp2
        go_loopw [20] (fun s20 wr => ∃ (j : Nat) (S : List Iv), s20 = .int .i64 (j : Int) ∧ j ≤ n ∧ onceM (Cs.drop j) S = onceM Cs R' ∧ OR 39 wr w.heap.size (.slice Av m cv) S ∧ (S.length = m ∧ ∀ d ∈ S, d.bd 4294967296) ∧ OR 39 wr wq.heap.size (.slice A7 m c7) R' ∧ Below w.heap.size w wr) (fun s20 _ => n - (intOf s20).toNat)
        case atStart => exact ⟨0, R', rfl, Nat.zero_le _, rfl, HV3.out, HR'.out, HO7.out, HB3.out⟩
        case round =>
          obtain ⟨j, S, rfl, hjn, hE, hO, hS, h7, hB⟩ := hrel
          have HE := Lib.hid hE
          have HO := Lib.hid hO
          have HSS := Lib.hid hS
          have H7 := Lib.hid h7
          have HB := Lib.hid hB
          clear hE hO hS h7 hB HV3 HO7 HB3
          by_cases hlj : j < n
          · have hji : (j : Int) < n := by omega
            have hj0 : (0 : Int) ≤ (j : Int) := by omega
            obtain ⟨ba, offa, rfl, hbl, hcc⟩ := HA.out (by omega)
            have hi' : j < Cs.length := by rw [HL.out]; exact hlj
            obtain ⟨c0, c1, c2⟩ := hcc wr HB.out j hi'
            have HDR := Lib.hid (show Cs.drop j = Cs[j] :: Cs.drop (j + 1) from (List.drop_eq_getElem_cons hi'))
            have HXI := Lib.hid (HI.out _ (List.getElem_mem hi'))
            have HXO := Lib.hid (HCO.out _ (List.getElem_mem hi'))
            clear hcc hbl
            rw [HDR.out] at HE
            generalize Cs[j] = x at *
            obtain ⟨xc, xA, xn, xcap, xl, xe⟩ := x
            simp only at c0 c1 c2
            obtain ⟨X, hX⟩ : ∃ W, W = wr.alloc (.cells #[.int .i64 xc, .slice xA xn xcap, .bool xe] 58) := ⟨_, rfl⟩
            have XO := Lib.hid (show OR 39 X w.heap.size (.slice Av m cv) S by rw [hX]; exact HO.out.alloc _)
            have X7 := Lib.hid (show OR 39 X wq.heap.size (.slice A7 m c7) R' by rw [hX]; exact H7.out.alloc _)
            have X9 := Lib.hid (show Blk X wr.heap.size 58 #[.int .i64 xc, .slice xA xn xcap, .bool xe] by rw [hX]; exact Blk.new _ _ _)
            have XB := Lib.hid (show Below w.heap.size w X by rw [hX]; exact HB.out.alloc HB.out.size _)
            have g0 : X.cell? ⟨wr.heap.size, 0, none⟩ = some (.int .i64 xc) := X9.out.cell 0
            have g1 : X.cell? ⟨wr.heap.size, 1, none⟩ = some (.slice xA xn xcap) := X9.out.cell 1
            have g2 : X.cell? ⟨wr.heap.size, 2, none⟩ = some (.bool xe) := X9.out.cell 2
            have NRW := Lib.hid (narrow_any xc xA xn xcap xl xe (.slice Av m cv) w X S HXI.out XO.out XB.out HXO.out.1 (by rw [HSS.out.1]; exact hm) HXO.out.2.1 (by rw [HSS.out.1]; exact HXO.out.2.2) HSS.out.2)
            rw [HSS.out.1] at NRW
            have HE2 := Lib.hid (show (match nwO ⟨xc, xA, xn, xcap, xl, xe⟩ S with | none => none | some R'' => onceM (Cs.drop (j + 1)) R'') = onceM Cs R' from HE.out)
            unfold nwO at HE2
            simp only at HE2
            generalize nwM xc xe xl xn S true = nr at *
            go_upto_region 10 with fail
            rw [← hX]
            clear hX
            go_wp2_with fail
            refine NRW.out.mono ?_
            rintro e w5 ⟨rfl, hfr, hnp⟩
            have HFR := Lib.hid hfr
            have HNP := Lib.hid hnp
            have Y7 := Lib.hid (X7.out.frame hfr.2 HNE.out)
            clear g0 g1 g2 c0 c1 c2 hfr hnp NRW
            cases hne : nwE xc xe nr
            · rw [hne] at HE2
              have HEN := Lib.hid (show none = res by
                have h := HST.out
                rw [← HE2.out] at h
                exact h)
              go_wp2
              go_ret2
              rw [← HEN.out]
              exact ⟨rfl, HFR.out.1⟩
            · rw [hne] at HE2
              rcases nr with _ | ⟨S2, b2⟩
              · cases hne
              · obtain ⟨p1, p2⟩ := HNP.out S2 b2 rfl
                have P1 := Lib.hid p1
                have P2 := Lib.hid p2
                clear p1 p2
                go_wp2
                go_roundw
                case rel => exact ⟨j + 1, S2, by go_num, hlj, HE2.out, P1.out, P2.out, Y7.out, HFR.out.1⟩
                case measure => simp only [intOf]; omega
          · obtain rfl : j = n := by omega
            have hlj2 : ¬ ((j : Int) < (j : Int)) := by omega
            have HE3 := Lib.hid (show some S = onceM Cs R' by have h := HE.out; rwa [List.drop_eq_nil_of_le (by rw [HL.out]; exact Nat.le_refl _)] at h)
            have EQL := Lib.hid (Equal_any A7 Av m m c7 cv R' S wr (by
              obtain ⟨A', c', e, hh, -, -⟩ := H7.out.ivs
              injection e with e1 e2 e3
              rw [← e1, ← e2] at hh
              exact hh) (by
              obtain ⟨A', c', e, hh, -, -⟩ := HO.out.ivs
              injection e with e1 e2 e3
              rw [← e1, ← e2] at hh
              exact hh) (by omega))
            rw [← HE3.out] at HST
            have HST2 := Lib.hid (show (if R' = S then some S else roundsM Cs (32 - (k + 1)) S) = res from HST.out)
            go_wp2_with fail
            refine EQL.out.mono ?_
            rintro e w6 ⟨rfl, hb⟩
            have QO := Lib.hid (HO.out.below hb)
            have QB := Lib.hid (HB.out.trans (hb.mono HB.out.size))
            clear hb EQL
            by_cases hRS : R' = S
            · rw [if_pos hRS] at HST2
              have hdc : decide (R' = S) = true := by simpa using hRS
              rw [hdc]
              go_wp2
              go_ret2
              rw [← HST2.out]
              exact ⟨⟨_, rfl, QO.out⟩, QB.out⟩
            · rw [if_neg hRS] at HST2
              have hdc : decide (R' = S) = false := by simpa using hRS
              rw [hdc]
              go_wp2
              go_roundw
              case rel => exact ⟨k + 1, S, by go_num, hlt, HST2.out, QO.out, HSS.out, QB.out⟩
              case measure => simp only [intOf]; omega
      · obtain rfl : k = 32 := by omega
        have HEN := Lib.hid (show some R' = res by have h := HE.out; rwa [Nat.sub_self] at h)
        have hlt2 : ¬ (((32 : Nat) : Int) < 32) := by omega
        go_wp2
        go_ret2
        rw [← HEN.out]
        exact ⟨⟨_, rfl, HO.out⟩, HB.out⟩
  · have HEN := Lib.hid (show none = res by have h := HRES.out; unfold propM at h; rwa [hA, if_pos rfl] at h)
    go_wp2
    go_ret2
    rw [← HEN.out]
    exact ⟨rfl, HB1.out⟩
end Go.Proofs.Ytnoddkbpdfimmaa
