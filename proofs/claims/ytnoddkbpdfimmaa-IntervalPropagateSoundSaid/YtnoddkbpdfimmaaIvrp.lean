/- Propagation of the reference. -/
import Derived.Test.YtnoddkbpdfimmaaIvgd
import Derived.Test.YtnoddkbpdfimmaaChi
namespace Go.Proofs.Ytnoddkbpdfimmaa
open Go.ChangeShapes Go.WideShapes Go.ChangeAt Go.RowKit Go.ChangeMaps

/-- What the reference returns. -/
def PrR (w W : World) (e : Ending) : Option (List Iv) → Prop
  | none => e = .returned (.tuple #[.slice none 0 0, .bool false])
  | some R => ∃ v, e = .returned (.tuple #[v, .bool true]) ∧ OR 42 W w.heap.size v R
def NJ (i j : Nat) (X : World) (z : Value) (d : Nat → Bool) (vs : Nat → Value) (w' : World) : Prop :=
  Below X.heap.size X w' ∧ (d i = true → vs i = z) ∧ (d j = true → ∃ g, vs j = .pointer (some ⟨g, 0, none⟩) ∧ X.heap.size ≤ g ∧ Blk w' g 42 #[.int .i64 0, .int .i64 0])
theorem NJ.none_ {i j : Nat} {X : World} {z : Value} {vs : Nat → Value} {w' : World} (h : Below X.heap.size X w') : NJ i j X z (fun _ => false) vs w' := ⟨h, nofun, nofun⟩
theorem NJ.si {i j : Nat} (hij : i ≠ j) {X : World} {z : Value} {d : Nat → Bool} {vs : Nat → Value} {w' W : World} (h : NJ i j X z d vs w') (hb : Below w'.heap.size w' W) : NJ i j X z (upd d i true) (upd vs i z) W := by
  obtain ⟨h1, h2, h3⟩ := h
  refine ⟨h1.trans (hb.mono h1.size), fun _ => upd_same _ _ _, fun e => ?_⟩
  rw [upd_other _ _ _ _ (Ne.symm hij)] at e ⊢
  obtain ⟨g, e1, e2, e3⟩ := h3 e
  exact ⟨g, e1, e2, Blk.below hb e3⟩
theorem NJ.sj {i j : Nat} (hij : i ≠ j) {X : World} {z : Value} {d : Nat → Bool} {vs : Nat → Value} {w' : World} (h : NJ i j X z d vs w') : NJ i j X z (upd d j true) (upd vs j (.pointer (some ⟨w'.heap.size, 0, none⟩))) (w'.alloc (.cells #[.int .i64 0, .int .i64 0] 42)) := by
  obtain ⟨h1, h2, h3⟩ := h
  refine ⟨h1.alloc h1.size _, fun e => ?_, fun e => ?_⟩
  · rw [upd_other _ _ _ _ hij] at e ⊢
    exact h2 e
  · rw [upd_same]
    exact ⟨_, rfl, h1.size, Blk.new _ _ _⟩
theorem OR.getL {L : TypeId} {w : World} {b g m cap v : Nat} {R : List Iv} (h : OR L w b (.slice (some ⟨g, 0, none⟩) m cap) R) (hm : R.length = m) (hv : v < m) : w.cell? ⟨g, v * 2, none⟩ = some (.int .i64 (R.getD v ⟨0, 0⟩).lo) ∧ w.cell? ⟨g, v * 2 + 1, none⟩ = some (.int .i64 (R.getD v ⟨0, 0⟩).hi) ∧ ∀ j, w.frozen? ⟨g, j, none⟩ = false := by
  have hr : v < R.length := by omega
  have hx : R.getD v ⟨0, 0⟩ = R[v] := by simp [List.getD, List.getElem?_eq_getElem hr]
  rw [hx]
  obtain ⟨g', cap', e, hg, hl, hc, hf, -⟩ := own_setK (i := v * 2) h (by omega)
  injection e with e1 e2 e3
  injection e1 with e1
  injection e1 with e1
  subst e1
  have hg2 := iv_get R v hr
  exact ⟨(hc _ (by omega)).trans hg2.1, (hc _ (by omega)).trans hg2.2, hf⟩
theorem OR.putL {L : TypeId} {w : World} {b g m cap v : Nat} {R : List Iv} (h : OR L w b (.slice (some ⟨g, 0, none⟩) m cap) R) (hm : R.length = m) (hv : v < m) (y : Iv) : OR L ((w.setCell ⟨g, v * 2, none⟩ (.int .i64 y.lo)).setCell ⟨g, v * 2 + 1, none⟩ (.int .i64 y.hi)) b (.slice (some ⟨g, 0, none⟩) m cap) (R.set v y) ∧
    ∀ B w0, Below B w0 w → B ≤ b → Below B w0 ((w.setCell ⟨g, v * 2, none⟩ (.int .i64 y.lo)).setCell ⟨g, v * 2 + 1, none⟩ (.int .i64 y.hi)) := by
  have hr : v < R.length := by omega
  obtain ⟨g', cap', e, hg, hl, hc, hf, hs⟩ := own_setK (i := v * 2) h (by omega)
  injection e with e1 e2 e3
  injection e1 with e1
  injection e1 with e1
  subst e1
  obtain ⟨h1, h2⟩ := hs (.int .i64 y.lo)
  obtain ⟨g', cap', e, -, -, -, -, hs⟩ := own_setK (i := v * 2 + 1) h1 (by omega)
  injection e with e1 e2 e3
  injection e1 with e1
  injection e1 with e1
  subst e1
  obtain ⟨h3, h4⟩ := hs (.int .i64 y.hi)
  rw [flat_setI y R v hr] at h3
  refine ⟨?_, fun B w0 hB hb => h4 B w0 (h2 B w0 hB hb) hb⟩
  unfold OR
  rw [List.length_set]
  exact h3
theorem iv_take {w W : World} {b o n k : Nat} {L : List Iv} (h : Ivs w (some ⟨b, o, none⟩) n L) (hb : Below w.heap.size w W) (hk : k ≤ n) : At W (some ⟨b, o, none⟩) k 2 ((L.take k).flatMap Iv.cells) := by
  have hl := h.len
  refine ⟨by rw [iv_len, List.length_take]; omega, fun hn => ?_⟩
  obtain ⟨b', off, e, hlt, hc⟩ := (At.below h hb).2 (by omega)
  refine ⟨b', off, e, hlt, fun j u hj => hc j u ?_⟩
  rw [flat_take] at hj
  have hjl := (List.getElem?_eq_some_iff.1 hj).1
  rw [List.length_take] at hjl
  rw [List.getElem?_take, if_pos (by omega)] at hj
  exact hj
theorem iv_drop {w W : World} {b o n k q cap : Nat} {L : List Iv} {X : Option Addr} (h : Ivs w (some ⟨b, o, none⟩) n L) (hb : Below w.heap.size w W) (hq : n - (k + 1) = q) (hX : (if cap = k + 1 then some (Addr.mk b o none) else some ⟨b, o + (k + 1) * 2, none⟩) = X) (hc : n ≤ cap := by omega) : At W X q 2 ((L.drop (k + 1)).flatMap Iv.cells) := by
  have hl := h.len
  refine ⟨by rw [iv_len, List.length_drop]; omega, fun hn => ?_⟩
  obtain ⟨b', off, e, hlt, hcell⟩ := (At.below h hb).2 (by omega)
  injection e with e
  injection e with e1 e2
  subst e1
  subst e2
  refine ⟨b, o + (k + 1) * 2, by rw [← hX, if_neg (by omega)], hlt, fun j u hj => ?_⟩
  rw [flat_drop, List.getElem?_drop] at hj
  rw [Nat.add_assoc]
  exact hcell _ u hj
theorem OR.frame2 {L : TypeId} {X W : World} {b g n c : Nat} {ob : Option Nat} {R : List Iv} (h : OR L X b (.slice (some ⟨g, 0, none⟩) n c) R) (hg : X.grownBy W ob) (hne : ob ≠ some g) : OR L W b (.slice (some ⟨g, 0, none⟩) n c) R := by
  refine ⟨h.1, ?_⟩
  rcases h.2 with h1 | ⟨g', cap, cur, e, hbg, hh, h2⟩
  · exact .inl h1
  · refine .inr ⟨g', cap, cur, e, hbg, (hg.block g' (show Blk X g' L cur from hh).lt ?_).trans hh, h2⟩
    injection e with e1 _ _
    injection e1 with e1
    injection e1 with e1
    rw [← e1]
    exact Ne.symm hne
theorem Blk.grown2 {X W : World} {g t : Nat} {cs : Array Value} {ob : Option Nat} (h : Blk X g t cs) (hg : X.grownBy W ob) (hne : ob ≠ some g) : Blk W g t cs := (hg.block g h.lt (Ne.symm hne)).trans h
set_option maxRecDepth 100000 in
set_option maxHeartbeats 4000000 in
theorem RPropagate_any (A : Option Addr) (n cap : Nat) (Cs : List Cn) (D : Option Addr) (m cap2 : Nat) (R : List Iv) (w : World) (h : Cns w A n Cs) (h2 : Ivs w D m R) (hn : n ≤ 1000) (hm : m ≤ 64) (hC : ∀ x ∈ Cs, x.ok m) (hcp : ∀ x ∈ Cs, x.n ≤ x.cap ∧ x.cap ≤ 9223372036854775807) (hR : ∀ d ∈ R, d.bd 4294967296) :
    Calls Try.prog 28 #[.slice A n cap, .slice D m cap2] w fun e w' => PrR w w' e (propM Cs R) ∧ Below w.heap.size w w' := by
  obtain ⟨i0, hi, hz0, hz1, hz2⟩ := info_parts Try.info42
  obtain ⟨j0, hj, hj0', hj1, hj2⟩ := info_parts Try.info61
  obtain ⟨res, hres⟩ : ∃ res, propM Cs R = res := ⟨_, rfl⟩
  rw [hres]
  have HRES := Lib.hid hres
  have HL := Lib.hid h.len
  have HA := Lib.hid h.at
  have HI := Lib.hid h.2
  have HCO := Lib.hid hC
  have HCP := Lib.hid hcp
  have HD := Lib.hid h2
  have HR0 := Lib.hid (show R.length = m ∧ ∀ d ∈ R, d.bd 4294967296 from ⟨h2.len, hR⟩)
  have HO6 := Lib.hid (show (w.alloc (.cells #[] 42)).ownsRow w.heap.size 42 2 (.slice (some ⟨w.heap.size, 0, none⟩) 0 0) 0 [] from ⟨rfl, .inr ⟨w.heap.size, 0, #[], rfl, Nat.le_refl _, heap_alloc_new w _, Nat.le_refl _, Nat.zero_le _, rfl, rfl⟩⟩)
  have HS6 := Lib.hid (At.src (P := Try.prog) (c := cap2) Try.underlying22 (At.alloc h2 (.cells #[] 42)) (ivs_one R) (by decide))
  have hb6 : Below w.heap.size w (w.alloc (.cells #[] 42)) := (Below.refl _ w).alloc (Nat.le_refl _) _
  have HB6 := Lib.hid hb6
  have hsz6 : w.heap.size ≤ (w.alloc (.cells #[] 42)).heap.size := hb6.size
  clear h h2 hC hR hres hb6 hcp
  go_enter Try.func28, Try.ntmps28
  go_wp2_with (at_builtin; go_loud (refine wpList_append_src _ rfl _ _ 22 22 rfl w.heap.size 42 i0 _ 2 16 Try.underlying22 hi hz0 hz1 hz2 rfl _ 0 [] rfl HO6.out _ m (R.flatMap Iv.cells) rfl HS6.out ?c1 ?c2 hsz6 ?_))
  case c1 => unfold maxLen; omega
  case c2 => omega
  intro v6 w1 own' hg _
  have HB1 := Lib.hid (HB6.out.grown hg hsz6 (fun j hj => (HO6.out.lt j hj).1))
  have HO1 := Lib.hid (show OR 42 w1 w.heap.size v6 R by unfold OR; rw [HR0.out.1]; simpa using own')
  obtain ⟨Av, cv, ev, hI1, -, -⟩ := HO1.out.ivs
  rw [HR0.out.1] at ev hI1
  subst ev
  have HV1 := Lib.hid hI1
  clear own' hg HO6 HS6 HB6 hsz6 hI1
  go_wp2
  go_loopw [7] (fun s7 wr => ∃ (k : Nat), s7 = .int .i64 (k : Int) ∧ k ≤ m ∧ (R.take k).any Iv.emp = false ∧ Below w1.heap.size w1 wr) (fun s7 _ => m - (intOf s7).toNat)
  case atStart => exact ⟨0, rfl, Nat.zero_le _, by simp, Below.refl _ _⟩
  case round =>
    obtain ⟨wz, rfl⟩ : ∃ x, x = wr := ⟨_, rfl⟩
    obtain ⟨k, rfl, hkn, hE, hB⟩ := hrel
    have HE := Lib.hid hE
    have HBZ := Lib.hid hB
    have HBW := Lib.hid (HB1.out.trans (hB.mono HB1.out.size))
    clear hE hB
    by_cases hlt : k < m
    · have hki : (k : Int) < m := by omega
      have hk0 : (0 : Int) ≤ (k : Int) := by omega
      obtain ⟨b, off, rfl, hbl, hc⟩ := HV1.out.at (by omega)
      have hi' : k < R.length := by rw [HR0.out.1]; exact hlt
      obtain ⟨c0, c1⟩ := hc wz HBZ.out k hi'
      have HT := Lib.hid (any_step Iv.emp R k hi')
      have HY := Lib.hid (show Iv.emp R[k] = true → R.any Iv.emp = true from fun h => any_true _ R k hi' h)
      clear hc hbl
      generalize R[k] = x at *
      obtain ⟨x0, x1⟩ := x
      simp only at c0 c1
      by_cases he : x1 < x0
      · have HEN := Lib.hid (show none = res by rw [← HRES.out]; unfold propM; rw [if_pos (HY.out (by unfold Iv.emp; simpa using he))])
        go_upto_region 5 with fail
        go_quiet (fail)
        go_wp2
        go_ret2
        rw [← HEN.out]
        exact ⟨rfl, by first | exact HBW.out | exact below_drewN HBW.out | exact below_drew HBW.out⟩
      · have HQ := Lib.hid (show (R.take (k + 1)).any Iv.emp = false by rw [HT.out, HE.out]; unfold Iv.emp; simpa using he)
        go_upto_region 5 with fail
        go_quiet (fail)
        go_wp2
        go_roundw
        case rel => exact ⟨k + 1, by go_num, hlt, HQ.out, by first | exact HBZ.out | exact below_drewN HBZ.out | exact below_drew HBZ.out⟩
        case measure => simp only [intOf]; omega
    · obtain rfl : k = m := by omega
      have hlt2 : ¬ ((k : Int) < (k : Int)) := by omega
      have hAny : R.any Iv.emp = false := any_false _ R k (by rw [HR0.out.1]; exact Nat.le_refl _) HE.out
      have HRM := Lib.hid (show roundsM Cs 32 R = res by have h := HRES.out; unfold propM at h; rwa [hAny, if_neg (by decide)] at h)
      have HNE0 := Lib.hid (show Ne R from fun d hd => by
        rw [Bool.eq_false_iff]
        intro he
        rw [List.any_eq_true.2 ⟨d, hd, he⟩] at hAny
        cases hAny)
      have HO2 := Lib.hid (HO1.out.below HBZ.out)
      clear hAny
      obtain ⟨m, rfl⟩ : ∃ x, x = k := ⟨_, rfl⟩
      go_wp2
      go_loopw [8] (fun s8 wr => ∃ (k : Nat) (R' : List Iv), s8 = .int .i64 (k : Int) ∧ k ≤ 32 ∧ roundsM Cs (32 - k) R' = res ∧ OR 42 wr w.heap.size (.slice Av m cv) R' ∧ (R'.length = m ∧ ∀ d ∈ R', d.bd 4294967296) ∧ Ne R' ∧ Below w.heap.size w wr) (fun s8 _ => 32 - (intOf s8).toNat)
      case atStart => exact ⟨0, R, rfl, Nat.zero_le _, HRM.out, HO2.out, HR0.out, HNE0.out, HBW.out⟩
      case round =>
        obtain ⟨wq, rfl⟩ : ∃ x, x = wr := ⟨_, rfl⟩
        clear HO2 HBW HBZ HRM HE HNE0 HR0 HV1 HO1 HB1
        obtain ⟨k, R', rfl, hkn, hE, hO, hR', hN, hB⟩ := hrel
        have HE := Lib.hid hE
        have HO := Lib.hid hO
        have HR' := Lib.hid hR'
        have HN' := Lib.hid hN
        have HB := Lib.hid hB
        clear hE hO hR' hN hB
        by_cases hlk : k < 32
        · have hki : (k : Int) < 32 := by omega
          have hk0 : (0 : Int) ≤ (k : Int) := by omega
          have HSTR := Lib.hid (show (match onceM Cs R' with | none => none | some R'' => if R' = R'' then some R'' else roundsM Cs (32 - (k + 1)) R'') = res by
            have h := HE.out
            rw [show 32 - k = (32 - (k + 1)) + 1 by omega] at h
            exact h)
          clear HE
          go_wp2
          go_loopw [9, 10] (fun s9 s10 wr => ∃ (j : Nat) (S : List Iv) (ch : Bool), s9 = .bool ch ∧ s10 = .int .i64 (j : Int) ∧ j ≤ n ∧ onceM (Cs.drop j) S = onceM Cs R' ∧ OR 42 wr w.heap.size (.slice Av m cv) S ∧ (S.length = m ∧ ∀ d ∈ S, d.bd 4294967296) ∧ Ne S ∧ Chg ch S R' ∧ Below w.heap.size w wr) (fun _ s10 _ => n - (intOf s10).toNat)
          case atStart => exact ⟨0, R', false, rfl, rfl, Nat.zero_le _, rfl, HO.out, HR'.out, HN'.out, chg_start R', HB.out⟩
          case round =>
            obtain ⟨wo, rfl⟩ : ∃ x, x = wr := ⟨_, rfl⟩
            clear HO HR' HN' HB
            obtain ⟨i, S, ch0, rfl, rfl, hin, hE, hO, hS, hN, hCh, hB⟩ := hrel
            have HE := Lib.hid hE
            have HO := Lib.hid hO
            have HSS := Lib.hid hS
            have HN := Lib.hid hN
            have HCh := Lib.hid hCh
            have BWO := Lib.hid hB
            clear hE hO hS hN hCh hB
            by_cases hli : i < n
            · have hii : (i : Int) < n := by omega
              have hi0 : (0 : Int) ≤ (i : Int) := by omega
              obtain ⟨bc, offc, rfl, hbl, hcc⟩ := HA.out (by omega)
              have hic : i < Cs.length := by rw [HL.out]; exact hli
              have HCN := Lib.hid (fun W hW => hcc W hW i hic)
              have HDR := Lib.hid (show Cs.drop i = Cs[i] :: Cs.drop (i + 1) from (List.drop_eq_getElem_cons hic))
              have HXI := Lib.hid (HI.out _ (List.getElem_mem hic))
              have HXO := Lib.hid (HCO.out _ (List.getElem_mem hic))
              have HXP := Lib.hid (HCP.out _ (List.getElem_mem hic))
              clear hcc hbl
              rw [HDR.out] at HE
              generalize Cs[i] = x at *
              obtain ⟨xc, xA, xn, xcap, xl, xe⟩ := x
              have HXIV := Lib.hid (show Ivs w xA xn xl from HXI.out)
              have HXL := Lib.hid (show xl.length = xn from HXI.out.len)
              have hxn64 : xn ≤ 64 := HXO.out.1
              have hxnc : xn ≤ xcap := HXP.out.1
              have hxcm : xcap ≤ 9223372036854775807 := HXP.out.2
              obtain ⟨nr, hnr⟩ : ∃ z, nwM xc xe xl xn S true = z := ⟨_, rfl⟩
              have HNRS := Lib.hid hnr
              have HE2 := Lib.hid (show (match (if nwE xc xe nr then nr.map Prod.fst else none) with | none => none | some R'' => onceM (Cs.drop (i + 1)) R'') = onceM Cs R' by
                rw [← hnr]
                exact HE.out)
              have HFAIL := Lib.hid (show nr = none → none = res from fun e => by
                have h := HSTR.out
                rw [← HE2.out, e] at h
                exact h)
              have HFAIL2 := Lib.hid (show nwE xc xe nr = false → none = res from fun e => by
                have h := HSTR.out
                rw [← HE2.out, e] at h
                exact h)
              have HNEXT := Lib.hid (show ∀ T b, nr = some (T, b) → nwE xc xe nr = true → onceM (Cs.drop (i + 1)) T = onceM Cs R' from fun T b e1 e2 => by
                have h := HE2.out
                rw [e2, e1] at h
                exact h)
              clear hnr HE HE2 HXI
              obtain ⟨c0, c1, c2⟩ := HCN.out wo BWO.out
              try simp only at c0 c1 c2
              obtain ⟨X, hX⟩ : ∃ W, W = wo.alloc (.cells #[.int .i64 xc, .slice xA xn xcap] 56) := ⟨_, rfl⟩
              have XO := Lib.hid (show OR 42 X w.heap.size (.slice Av m cv) S by rw [hX]; exact HO.out.alloc _)
              have XF := Lib.hid (show Blk X wo.heap.size 56 #[.int .i64 xc, .slice xA xn xcap] by rw [hX]; exact Blk.new _ _ _)
              have XB := Lib.hid (show Below w.heap.size w X by rw [hX]; exact BWO.out.alloc BWO.out.size _)
              obtain ⟨wf, hwf⟩ : ∃ z, wo.heap.size = z := ⟨_, rfl⟩
              have HWOW := Lib.hid (show w.heap.size ≤ wf by rw [← hwf]; exact BWO.out.size)
              go_upto_region 15 with fail
              rw [← hX]
              rw [hwf] at XF
              try rw [hwf]
              clear hX c0 c1 c2 HO hwf
              have HAX := Lib.hid HXIV.out.at
              go_wp2
              go_loopw [9, 12, 13] (fun s9 s12 s13 wr => ∃ (k : Nat) (T : List Iv) (sm ch : Bool), s9 = .bool ch ∧ s12 = .bool sm ∧ s13 = .int .i64 (k : Int) ∧ k ≤ xn ∧ nwM xc xe xl (xn - k) T (!sm) = nr ∧ OR 42 wr w.heap.size (.slice Av m cv) T ∧ (T.length = m ∧ ∀ d ∈ T, d.bd 4294967296) ∧ Ne T ∧ Chg ch T R' ∧ Blk wr wf 56 #[.int .i64 xc, .slice xA xn xcap] ∧ Below w.heap.size w wr) (fun _ _ s13 _ => xn - (intOf s13).toNat)
              case atStart => exact ⟨0, S, false, ch0, rfl, rfl, rfl, Nat.zero_le _, HNRS.out, XO.out, HSS.out, HN.out, HCh.out, XF.out, XB.out⟩
              case round =>
                clear XO HSS HN HCh XF XB HNRS
                obtain ⟨k, T, sm, ch, rfl, rfl, rfl, hkn, hE, hO, hT, hN, hCh, hF, hB⟩ := hrel
                have HE := Lib.hid hE
                have Owr := Lib.hid hO
                have HT := Lib.hid hT
                have HNE := Lib.hid hN
                have HCH := Lib.hid hCh
                have Fwr := Lib.hid hF
                have Bwr := Lib.hid hB
                clear hE hO hT hN hCh hF hB
                by_cases hlt : k < xn
                · have hki : (k : Int) < xn := by omega
                  have hk0 : (0 : Int) ≤ (k : Int) := by omega
                  obtain ⟨ba, offa, rfl, hbl, hcc⟩ := HAX.out (by omega)
                  have hi' : k < xl.length := by rw [HXL.out]; exact hlt
                  have HCC := Lib.hid (fun W hW => hcc W hW k hi')
                  have HX := Lib.hid (HXO.out.2.2 _ (List.getElem_mem hi'))
                  have HST := Lib.hid (nw_step (c := xc) (eq := xe) (R := T) (b := !sm) HXL.out hlt (show xl.getD k ⟨0, 0⟩ = xl[k] by simp [List.getD, List.getElem?_eq_getElem hi']))
                  clear hcc hbl
                  generalize xl[k] = y at *
                  obtain ⟨y0, a⟩ := y
                  obtain ⟨v, rfl⟩ : ∃ v : Nat, y0 = (v : Int) := ⟨y0.toNat, by have := HX.out.1.1; simp only at this; omega⟩
                  have hv : v < m := by have := HX.out.1.2; simp only at this; omega
                  have hvi : (v : Int) < m := by omega
                  have hv0 : (0 : Int) ≤ (v : Int) := by omega
                  have hab := HX.out.2
                  simp only at hab
                  obtain ⟨c0, c1⟩ := HCC.out wr Bwr.out
                  try simp only at c0 c1
                  have e0 : wr.cell? ⟨wf, 0, none⟩ = some (.int .i64 xc) := Fwr.out.cell 0
                  have e1 : wr.cell? ⟨wf, 1, none⟩ = some (.slice (some ⟨ba, offa, none⟩) xn xcap) := Fwr.out.cell 1
                  by_cases ha : a = 0
                  · have HE1 := Lib.hid (show nwM xc xe xl (xn - (k + 1)) T (!sm) = nr by have h1 := HE.out; rw [HST.out, if_pos ha] at h1; exact h1)
                    subst ha
                    go_wp2
                    go_roundw
                    case rel => exact ⟨k + 1, T, sm, ch, rfl, rfl, by go_num, hlt, HE1.out, Owr.out, HT.out, HNE.out, HCH.out, Fwr.out, Bwr.out⟩
                    case measure => simp only [intOf]; omega
                  · have haz : (a == 0) = false := by simpa using ha
                    obtain ⟨X, hX⟩ : ∃ W, W = wr.alloc (.cells #[.int .i64 xc, .slice none 0 0] 56) := ⟨_, rfl⟩
                    have hbX : Below wr.heap.size wr X := by rw [hX]; exact (Below.refl _ _).alloc (Nat.le_refl _) _
                    have GX := Lib.hid (show Blk X wr.heap.size 56 #[.int .i64 xc, .slice none 0 0] by rw [hX]; exact Blk.new _ _ _)
                    have OX := Lib.hid (Owr.out.below hbX)
                    have FX := Lib.hid (Fwr.out.below hbX)
                    have BX := Lib.hid (Bwr.out.trans (hbX.mono Bwr.out.size))
                    have hwfX : wf < wr.heap.size := Fwr.out.lt
                    go_upto_region 24 with fail
                    rw [← hX]
                    clear hX e0 e1 c0 c1
                    obtain ⟨gv, rfl, hgv, hgvl⟩ := own_at OX.out HT.out.1 hv
                    try simp only [Int.toNat_natCast] at HST
                    have e0 : X.cell? ⟨wf, 0, none⟩ = some (.int .i64 xc) := FX.out.cell 0
                    have e1 : X.cell? ⟨wf, 1, none⟩ = some (.slice (some ⟨ba, offa, none⟩) xn xcap) := FX.out.cell 1
                    have h0 : X.cell? ⟨wr.heap.size, 0, none⟩ = some (.int .i64 xc) := GX.out.cell 0
                    have h1 : X.cell? ⟨wr.heap.size, 1, none⟩ = some (.slice none 0 0) := GX.out.cell 1
                    have hkn2 : (k : Int) ≤ xcap := by omega
                    have hkn3 : (k : Int) ≤ xn := by omega
                    have hxb : (xn : Int) ≤ xcap := by omega
                    have hy : Below X.heap.size X X.drew := below_drew (Below.refl _ _)
                    refine wp_region_mix 6 (fun w' => Below X.heap.size X w') (by kernel_rfl) (by decide) ?_
                    generalize X.drew = Y at hy ⊢
                    refine wpM_take (i := 0) (oi := ⟨some 78, _, _, _, _, _⟩) (v := ?_) rfl (by decide +kernel) (by decide +kernel) (by decide +kernel) (fun _ _ _ h => h) (Or.inl ⟨by rfl, ?_⟩) hy ?_
                    case refine_2 =>
                      intro w' hSw
                      have e0' := keepcell hSw e0
                      have e1' := keepcell hSw e1
                      have h0' := keepcell hSw h0
                      have h1' := keepcell hSw h1
                      go_simp
                      try (with_reducible rfl)
                    try simp only [Act.put, List.setIfInBounds_toArray, List.set_cons_zero, List.set_cons_succ]
                    refine wpM_take (i := 1) (oi := ⟨some 79, _, _, _, _, _⟩) (v := ?_) rfl (by decide +kernel) (by decide +kernel) (by decide +kernel) (fun _ _ _ h => h) (Or.inl ⟨by rfl, ?_⟩) hy ?_
                    case refine_2 =>
                      intro w' hSw
                      have e0' := keepcell hSw e0
                      have e1' := keepcell hSw e1
                      have h0' := keepcell hSw h0
                      have h1' := keepcell hSw h1
                      go_simp
                      try (with_reducible rfl)
                    try simp only [Act.put, List.setIfInBounds_toArray, List.set_cons_zero, List.set_cons_succ]
                    refine wpM_take (i := 2) (oi := ⟨some 80, _, _, _, _, _⟩) (v := ?_) rfl (by decide +kernel) (by decide +kernel) (by decide +kernel) (fun _ _ _ h => h) (Or.inl ⟨by rfl, ?_⟩) hy ?_
                    case refine_2 =>
                      intro w' hSw
                      have e0' := keepcell hSw e0
                      have e1' := keepcell hSw e1
                      have h0' := keepcell hSw h0
                      have h1' := keepcell hSw h1
                      go_simp
                      try (with_reducible rfl)
                    try simp only [Act.put, List.setIfInBounds_toArray, List.set_cons_zero, List.set_cons_succ]
                    refine wpM_take (i := 3) (oi := ⟨some 81, _, _, _, _, _⟩) (v := ?_) rfl (by decide +kernel) (by decide +kernel) (by decide +kernel) (fun _ _ _ h => h) (Or.inl ⟨by rfl, ?_⟩) hy ?_
                    case refine_2 =>
                      intro w' hSw
                      have e0' := keepcell hSw e0
                      have e1' := keepcell hSw e1
                      have h0' := keepcell hSw h0
                      have h1' := keepcell hSw h1
                      go_simp
                      try (with_reducible rfl)
                    try simp only [Act.put, List.setIfInBounds_toArray, List.set_cons_zero, List.set_cons_succ]
                    refine wpM_take (i := 4) (oi := ⟨some 82, _, _, _, _, _⟩) (v := ?_) rfl (by decide +kernel) (by decide +kernel) (by decide +kernel) (fun _ _ _ h => h) (Or.inl ⟨by rfl, ?_⟩) hy ?_
                    case refine_2 =>
                      intro w' hSw
                      have e0' := keepcell hSw e0
                      have e1' := keepcell hSw e1
                      have h0' := keepcell hSw h0
                      have h1' := keepcell hSw h1
                      go_simp
                      try (with_reducible rfl)
                    try simp only [Act.put, List.setIfInBounds_toArray, List.set_cons_zero, List.set_cons_succ]
                    refine wpM_take (i := 5) (oi := ⟨some 83, _, _, _, _, _⟩) (v := ?_) rfl (by decide +kernel) (by decide +kernel) (by decide +kernel) (fun _ _ _ h => h) (Or.inl ⟨by rfl, ?_⟩) hy ?_
                    case refine_2 =>
                      intro w' hSw
                      have e0' := keepcell hSw e0
                      have e1' := keepcell hSw e1
                      have h0' := keepcell hSw h0
                      have h1' := keepcell hSw h1
                      go_simp
                      try (with_reducible rfl)
                    try simp only [Act.put, List.setIfInBounds_toArray, List.set_cons_zero, List.set_cons_succ]
                    refine wpM_done (by decide +kernel) ?_
                    simp only [List.drop_succ_cons, List.drop_zero]
                    clear e0 e1 h0 h1
                    have hbY : Below X.heap.size X Y := hy
                    have OY := Lib.hid (OX.out.below hbY)
                    have FY := Lib.hid (FX.out.below hbY)
                    have BY := Lib.hid (BX.out.trans (hbY.mono BX.out.size))
                    have GY := Lib.hid (GX.out.below hbY)
                    have hsY := hbY.size
                    have HS1 := Lib.hid (At.src (P := Try.prog) (c := xcap) Try.underlying54 (show At Y (some ⟨ba, offa, none⟩) k 2 ((xl.take k).flatMap Iv.cells) from iv_take HXIV.out BY.out (Nat.le_of_lt hlt)) (ivs_one _) (by decide))
                    go_wp2_with (at_builtin; go_loud (refine wpList_append_src _ rfl _ _ 54 54 rfl X.heap.size 61 j0 _ 2 16 Try.underlying54 hj hj0' hj1 hj2 rfl _ 0 [] rfl (World.ownsRow_nil _ _ _ _) _ k ((xl.take k).flatMap Iv.cells) rfl HS1.out ?c1 ?c2 hsY ?_))
                    case c1 => unfold maxLen; omega
                    case c2 => omega
                    intro v6 P own6 hg6 _
                    have hbP0 : Below X.heap.size X P := hbY.grown hg6 hsY (fun j hj => by simp [Value.ownBlock] at hj)
                    have hbP : Below Y.heap.size Y P := ⟨hg6.os, hg6.tape, hg6.output, hg6.size, fun j hj => hg6.block j hj (by simp [Value.ownBlock])⟩
                    have OP := Lib.hid (OY.out.below hbP)
                    have FP := Lib.hid (FY.out.below hbP)
                    have BP := Lib.hid (BY.out.trans (hbP.mono BY.out.size))
                    have GP := Lib.hid (GY.out.below hbP)
                    have R6 := Lib.hid (show OR 61 P X.heap.size v6 (xl.take k) by unfold OR; rw [List.length_take, HXL.out, Nat.min_eq_left (by omega)]; simpa using own6)
                    obtain ⟨A6, c6, ev6, -, -, -⟩ := R6.out.ivs
                    rw [List.length_take, HXL.out, Nat.min_eq_left (show k ≤ xn by omega)] at ev6
                    subst ev6
                    have N6 := own_blk_ne R6.out GP.out (by decide)
                    have zP : ∀ j, P.frozen? ⟨wr.heap.size, j, none⟩ = false := fun j => Joins.unfrozen_of_block GP.out _
                    have iP : P.cell? ⟨wr.heap.size, 1, none⟩ = some (.slice none 0 0) := GP.out.cell 1
                    obtain ⟨Q, hQ⟩ : ∃ W, W = P.setCell ⟨wr.heap.size, 1, none⟩ (.slice A6 k c6) := ⟨_, rfl⟩
                    have S := store_step GP.out 1 (.slice A6 k c6)
                    rw [← hQ] at S
                    have GQ : Hid (Blk Q wr.heap.size 56 #[.int .i64 xc, (.slice A6 k c6)]) := Lib.hid S.1
                    have FQ := Lib.hid (S.2.1 _ _ _ (by omega) FP.out)
                    have BQ := Lib.hid (S.2.2 _ _ BP.out Bwr.out.size)
                    have OQ := Lib.hid (show OR 42 Q w.heap.size (.slice (some ⟨gv, 0, none⟩) m cv) T by rw [hQ]; exact ownsRow_setCell_other OP.out (own_blk_ne OP.out GP.out (by decide)) _)
                    have RQ := Lib.hid (show OR 61 Q X.heap.size (.slice A6 k c6) (xl.take k) by rw [hQ]; exact ownsRow_setCell_other R6.out N6 _)
                    have hsQ : X.heap.size ≤ Q.heap.size := by rw [hQ]; have := hbP0.size; simpa [World.setCell] using this
                    clear S own6 hg6 hbP hbP0 hbY hy HS1 N6
                    go_upto_region 25 with fail
                    rw [← hQ]
                    clear hQ zP iP
                    have e0 : Q.cell? ⟨wf, 0, none⟩ = some (.int .i64 xc) := FQ.out.cell 0
                    have e1 : Q.cell? ⟨wf, 1, none⟩ = some (.slice (some ⟨ba, offa, none⟩) xn xcap) := FQ.out.cell 1
                    have h0 : Q.cell? ⟨wr.heap.size, 0, none⟩ = some (.int .i64 xc) := GQ.out.cell 0
                    have h1 : Q.cell? ⟨wr.heap.size, 1, none⟩ = some (.slice A6 k c6) := GQ.out.cell 1
                    have hk1 : (k : Int) + 1 ≤ xcap := by omega
                    have hk2 : (k : Int) + 1 ≤ xn := by omega
                    have hk3 : (0 : Int) ≤ (k : Int) + 1 := by omega
                    have hwk : IntKind.i64.wrap ((k : Int) + 1) = (k : Int) + 1 := by rw [IntKind.wrap_i64]; omega
                    have hkt : ((k : Int) + 1).toNat = k + 1 := by omega
                    have hkN : k + 1 ≤ xcap := by omega
                    have hkM : k + 1 ≤ xn := by omega
                    obtain ⟨q, hq⟩ : ∃ q, xn - (k + 1) = q := ⟨_, rfl⟩
                    obtain ⟨Xa, hXa⟩ : ∃ X, (if xcap = k + 1 then some (Addr.mk ba offa none) else some ⟨ba, offa + (k + 1) * 2, none⟩) = X := ⟨_, rfl⟩
                    have hy : Below Q.heap.size Q Q.drew := below_drew (Below.refl _ _)
                    refine wp_region_mix 7 (fun w' => Below Q.heap.size Q w') (by kernel_rfl) (by decide) ?_
                    generalize Q.drew = Y2 at hy ⊢
                    refine wpM_take (i := 0) (oi := ⟨some 86, _, _, _, _, _⟩) (v := ?_) rfl (by decide +kernel) (by decide +kernel) (by decide +kernel) (fun _ _ _ h => h) (Or.inl ⟨by rfl, ?_⟩) hy ?_
                    case refine_2 =>
                      intro w' hSw
                      have e0' := keepcell hSw e0
                      have e1' := keepcell hSw e1
                      have h0' := keepcell hSw h0
                      have h1' := keepcell hSw h1
                      go_simp
                      try (with_reducible rfl)
                    try simp only [Act.put, List.setIfInBounds_toArray, List.set_cons_zero, List.set_cons_succ]
                    refine wpM_take (i := 1) (oi := ⟨some 87, _, _, _, _, _⟩) (v := ?_) rfl (by decide +kernel) (by decide +kernel) (by decide +kernel) (fun _ _ _ h => h) (Or.inl ⟨by rfl, ?_⟩) hy ?_
                    case refine_2 =>
                      intro w' hSw
                      have e0' := keepcell hSw e0
                      have e1' := keepcell hSw e1
                      have h0' := keepcell hSw h0
                      have h1' := keepcell hSw h1
                      go_simp
                      try (with_reducible rfl)
                    try simp only [Act.put, List.setIfInBounds_toArray, List.set_cons_zero, List.set_cons_succ]
                    refine wpM_take (i := 2) (oi := ⟨some 88, _, _, _, _, _⟩) (v := ?_) rfl (by decide +kernel) (by decide +kernel) (by decide +kernel) (fun _ _ _ h => h) (Or.inl ⟨by rfl, ?_⟩) hy ?_
                    case refine_2 =>
                      intro w' hSw
                      have e0' := keepcell hSw e0
                      have e1' := keepcell hSw e1
                      have h0' := keepcell hSw h0
                      have h1' := keepcell hSw h1
                      go_simp
                      try (with_reducible rfl)
                    try simp only [Act.put, List.setIfInBounds_toArray, List.set_cons_zero, List.set_cons_succ]
                    refine wpM_take (i := 3) (oi := ⟨some 89, _, _, _, _, _⟩) (v := ?_) rfl (by decide +kernel) (by decide +kernel) (by decide +kernel) (fun _ _ _ h => h) (Or.inl ⟨by rfl, ?_⟩) hy ?_
                    case refine_2 =>
                      intro w' hSw
                      have e0' := keepcell hSw e0
                      have e1' := keepcell hSw e1
                      have h0' := keepcell hSw h0
                      have h1' := keepcell hSw h1
                      go_simp
                      try (with_reducible rfl)
                    try simp only [Act.put, List.setIfInBounds_toArray, List.set_cons_zero, List.set_cons_succ]
                    refine wpM_take (i := 4) (oi := ⟨some 90, _, _, _, _, _⟩) (v := ?_) rfl (by decide +kernel) (by decide +kernel) (by decide +kernel) (fun _ _ _ h => h) (Or.inl ⟨by rfl, ?_⟩) hy ?_
                    case refine_2 =>
                      intro w' hSw
                      have e0' := keepcell hSw e0
                      have e1' := keepcell hSw e1
                      have h0' := keepcell hSw h0
                      have h1' := keepcell hSw h1
                      go_simp
                      try (with_reducible rfl)
                    try simp only [Act.put, List.setIfInBounds_toArray, List.set_cons_zero, List.set_cons_succ]
                    refine wpM_take (i := 5) (oi := ⟨some 91, _, _, _, _, _⟩) (v := ?_) rfl (by decide +kernel) (by decide +kernel) (by decide +kernel) (fun _ _ _ h => h) (Or.inl ⟨by rfl, ?_⟩) hy ?_
                    case refine_2 =>
                      intro w' hSw
                      have e0' := keepcell hSw e0
                      have e1' := keepcell hSw e1
                      have h0' := keepcell hSw h0
                      have h1' := keepcell hSw h1
                      go_simp
                      try (with_reducible rfl)
                    try simp only [Act.put, List.setIfInBounds_toArray, List.set_cons_zero, List.set_cons_succ]
                    refine wpM_take (i := 6) (oi := ⟨some 92, _, _, _, _, _⟩) (v := ?_) rfl (by decide +kernel) (by decide +kernel) (by decide +kernel) (fun _ _ _ h => h) (Or.inl ⟨by rfl, ?_⟩) hy ?_
                    case refine_2 =>
                      intro w' hSw
                      have e0' := keepcell hSw e0
                      have e1' := keepcell hSw e1
                      have h0' := keepcell hSw h0
                      have h1' := keepcell hSw h1
                      go_simp
                      try (with_reducible rfl)
                    try simp only [Act.put, List.setIfInBounds_toArray, List.set_cons_zero, List.set_cons_succ]
                    refine wpM_done (by decide +kernel) ?_
                    simp only [List.drop_succ_cons, List.drop_zero]
                    clear e0 e1 h0 h1
                    have hbY2 : Below Q.heap.size Q Y2 := hy
                    have OY2 := Lib.hid (OQ.out.below hbY2)
                    have FY2 := Lib.hid (FQ.out.below hbY2)
                    have BY2 := Lib.hid (BQ.out.trans (hbY2.mono BQ.out.size))
                    have GY2 := Lib.hid (GQ.out.below hbY2)
                    have RY2 := Lib.hid (RQ.out.below hbY2)
                    have hsY2 : X.heap.size ≤ Y2.heap.size := Nat.le_trans hsQ hbY2.size
                    have HS2 := Lib.hid (At.src (P := Try.prog) (c := xcap - (k + 1)) Try.underlying54 (show At Y2 Xa q 2 ((xl.drop (k + 1)).flatMap Iv.cells) from iv_drop HXIV.out BY2.out hq hXa) (ivs_one _) (by decide))
                    have HTK := Lib.hid (show (xl.take k).length = k by rw [List.length_take, HXL.out]; omega)
                    have HO6 := Lib.hid (show Y2.ownsRow X.heap.size 61 2 (.slice A6 k c6) k ((xl.take k).flatMap Iv.cells) by have h := RY2.out; unfold OR at h; rwa [HTK.out] at h)
                    go_wp2_with (at_builtin; go_loud (refine wpList_append_src _ rfl _ _ 54 54 rfl X.heap.size 61 j0 _ 2 16 Try.underlying54 hj hj0' hj1 hj2 rfl _ k _ rfl HO6.out _ q ((xl.drop (k + 1)).flatMap Iv.cells) rfl HS2.out ?c3 ?c4 hsY2 ?_))
                    case c3 => unfold maxLen; omega
                    case c4 => omega
                    intro v8 P2 own8 hg8 _
                    have HNB := Lib.hid (fun j (hj : (Value.slice A6 k c6).ownBlock = some j) => (HO6.out.lt j hj).1)
                    have hgO : ∀ j, w.heap.size ≤ j → j < X.heap.size → (Value.slice A6 k c6).ownBlock ≠ some j := fun j _ hj e => by have := HNB.out j e; omega
                    have OP2 := Lib.hid (show OR 42 P2 w.heap.size (.slice (some ⟨gv, 0, none⟩) m cv) T from OR.frame2 OY2.out hg8 (fun e => by have h := HNB.out gv e; omega))
                    have FP2 := Lib.hid (show Blk P2 wf 56 #[.int .i64 xc, .slice (some ⟨ba, offa, none⟩) xn xcap] from Blk.grown2 FY2.out hg8 (fun e => by have h := HNB.out wf e; have := hbX.size; omega))
                    have GP2 := Lib.hid (show Blk P2 wr.heap.size 56 #[.int .i64 xc, (.slice A6 k c6)] from Blk.grown2 GY2.out hg8 (own_blk_ne HO6.out GY2.out (by decide)))
                    have BP2 := Lib.hid (BY2.out.grown hg8 BY2.out.size (fun j hj => Nat.le_trans (Nat.le_trans Bwr.out.size hbX.size) (HNB.out j hj)))
                    have hER : xl.take k ++ xl.drop (k + 1) = xl.eraseIdx k := (List.eraseIdx_eq_take_drop_succ xl k).symm
                    have hEL : (xl.eraseIdx k).length = xn - 1 := by rw [List.length_eraseIdx, if_pos hi', HXL.out]
                    have R8 := Lib.hid (show OR 61 P2 X.heap.size v8 (xl.eraseIdx k) by
                      unfold OR
                      rw [hEL, ← hER, List.flatMap_append, show xn - 1 = k + q by omega]
                      exact own8)
                    obtain ⟨A8, c8, ev8, -, -, -⟩ := R8.out.ivs
                    rw [hEL] at ev8
                    subst ev8
                    have zP : ∀ j, P2.frozen? ⟨wr.heap.size, j, none⟩ = false := fun j => Joins.unfrozen_of_block GP2.out _
                    have iP : P2.cell? ⟨wr.heap.size, 1, none⟩ = some (.slice A6 k c6) := GP2.out.cell 1
                    obtain ⟨Z, hZ⟩ : ∃ W, W = P2.setCell ⟨wr.heap.size, 1, none⟩ (.slice A8 (xn - 1) c8) := ⟨_, rfl⟩
                    have S := store_step GP2.out 1 (.slice A8 (xn - 1) c8)
                    rw [← hZ] at S
                    have GZ : Hid (Blk Z wr.heap.size 56 #[.int .i64 xc, (.slice A8 (xn - 1) c8)]) := Lib.hid S.1
                    have FZ := Lib.hid (S.2.1 _ _ _ (by omega) FP2.out)
                    have BZ := Lib.hid (S.2.2 _ _ BP2.out Bwr.out.size)
                    have OZ := Lib.hid (show OR 42 Z w.heap.size (.slice (some ⟨gv, 0, none⟩) m cv) T by rw [hZ]; exact ownsRow_setCell_other OP2.out (own_blk_ne OP2.out GP2.out (by decide)) _)
                    have RZ := Lib.hid (show OR 61 Z X.heap.size (.slice A8 (xn - 1) c8) (xl.eraseIdx k) by rw [hZ]; exact ownsRow_setCell_other R8.out (own_blk_ne R8.out GP2.out (by decide)) _)
                    clear S own8 hg8 hbY2 hy HS2 hgO hER
                    go_upto_region 26 with fail
                    rw [← hZ]
                    clear hZ zP iP
                    obtain ⟨A8', c8', ev8, I8, -, -⟩ := RZ.out.ivs
                    rw [hEL] at ev8 I8
                    injection ev8 with ea _ ec
                    subst ea
                    subst ec
                    have h0 : Z.cell? ⟨wr.heap.size, 0, none⟩ = some (.int .i64 xc) := GZ.out.cell 0
                    have h1 : Z.cell? ⟨wr.heap.size, 1, none⟩ = some (.slice A8 (xn - 1) c8) := GZ.out.cell 1
                    have RNG := Lib.hid (RRange_any xc A8 (xn - 1) c8 (xl.eraseIdx k) (some ⟨gv, 0, none⟩) m cv T Z I8
                      (by obtain ⟨A', c', e, hh, -, -⟩ := OZ.out.ivs
                          injection e with e1 e2 e3
                          rw [← e1, ← e2] at hh
                          exact hh) (by omega) hm HXO.out.2.1 (fun x hx => HXO.out.2.2 x (List.mem_of_mem_eraseIdx hx)) HT.out.2)
                    have HRR := Lib.hid (rng_rr T (xl.eraseIdx k) ⟨xc, xc⟩ (fun x _ _ => ne_getD HNE.out _))
                    rw [HRR.out, Option.getD_some] at HST
                    have HNRW := Lib.hid (fun d => rnw_nrw (d := d) (r := rrM T (xl.eraseIdx k) ⟨xc, xc⟩) (eq := xe) ha)
                    have HSUB0 := Lib.hid (fun d => nrw_sub (d := d) (r := rrM T (xl.eraseIdx k) ⟨xc, xc⟩) (a := a) (eq := xe))
                    have HBD0 := Lib.hid (fun he => nrw_bd (d := T.getD v ⟨0, 0⟩) (r := rrM T (xl.eraseIdx k) ⟨xc, xc⟩) (a := a) (eq := xe) (HT.out.2 _ (getD_mem (by rw [HT.out.1]; exact hv))) he)
                    generalize rrM T (xl.eraseIdx k) ⟨xc, xc⟩ = r at *
                    clear I8 HRR
                    go_wp2_with fail
                    refine RNG.out.mono ?_
                    rintro e W10 ⟨rfl, hrb, hbW10⟩
                    have OW10 := Lib.hid (OZ.out.below hbW10)
                    have FW10 := Lib.hid (FZ.out.below hbW10)
                    have BW10 := Lib.hid (BZ.out.trans (hbW10.mono BZ.out.size))
                    have HRB := Lib.hid hrb
                    clear h0 h1 RNG hrb
                    obtain ⟨r0, r1⟩ := r
                    unfold Iv.agg
                    obtain ⟨V17, hV17⟩ : ∃ W, W = W10.alloc (.cells #[.int .i64 r0, .int .i64 r1] 42) := ⟨_, rfl⟩
                    have hbV17 : Below W10.heap.size W10 V17 := by rw [hV17]; exact (Below.refl _ _).alloc (Nat.le_refl _) _
                    have GV17 := Lib.hid (show Blk V17 W10.heap.size 42 #[.int .i64 r0, .int .i64 r1] by rw [hV17]; exact Blk.new _ _ _)
                    have OV17 := Lib.hid (OW10.out.below hbV17)
                    have FV17 := Lib.hid (FW10.out.below hbV17)
                    have BV17 := Lib.hid (BW10.out.trans (hbV17.mono BW10.out.size))
                    go_upto_region 27 with fail
                    rw [← hV17]
                    clear hV17
                    obtain ⟨t0, t1, -⟩ := OV17.out.getL HT.out.1 hv
                    have HGET := Lib.hid (fun W (hW : OR 42 W w.heap.size (.slice (some ⟨gv, 0, none⟩) m cv) T) => hW.getL HT.out.1 hv)
                    have HSB0 := Lib.hid (fun z (hz : Iv.bd z 4294967296) => set_bd (v := v) HT.out hz)
                    obtain ⟨dd, hdd⟩ : ∃ z, T.getD v ⟨0, 0⟩ = z := ⟨_, rfl⟩
                    rw [hdd] at t0 t1 HST HBD0
                    have HTD := Lib.hid hdd
                    have HNR := HNRW.out dd
                    have HSU := HSUB0.out dd
                    clear hdd HNRW HSUB0
                    obtain ⟨d0, d1⟩ := dd
                    try simp only at t0 t1
                    have f0 : V17.cell? ⟨W10.heap.size, 0, none⟩ = some (.int .i64 r0) := GV17.out.cell 0
                    have f1 : V17.cell? ⟨W10.heap.size, 1, none⟩ = some (.int .i64 r1) := GV17.out.cell 1
                    obtain ⟨⟨hr1, hr2⟩, hr3, hr4⟩ := HRB.out
                    simp only at hr1 hr2 hr3 hr4 HNR
                    have NR1 := Lib.hid (fun W => RNarrow_any ⟨d0, d1⟩ a r0 W ha hab ⟨hr1, hr2⟩)
                    have HSBZ := HSB0.out
                    have HZD := Lib.hid (show ∀ z, nrw ⟨d0, d1⟩ a ⟨r0, r1⟩ xe = z → (z.emp = false → (T.set v z).length = m ∧ ∀ d ∈ T.set v z, d.bd 4294967296) ∧ d0 ≤ z.lo ∧ z.hi ≤ d1 from fun z hz => by
                      rw [hz] at HSU HBD0
                      exact ⟨fun he => HSBZ z (HBD0.out he), HSU.1, HSU.2⟩)
                    clear HSBZ HSB0 HSU HBD0
                    generalize hn1 : rnw ⟨d0, d1⟩ a r0 = n1 at *
                    clear hn1
                    obtain ⟨n10, n11⟩ := n1
                    have hy : Below V17.heap.size V17 V17.drew := below_drew (Below.refl _ _)
                    refine wp_region_mix 9 (fun w' => Below V17.heap.size V17 w') (by kernel_rfl) (by decide) ?_
                    generalize V17.drew = Y3 at hy ⊢
                    refine wpM_take (i := 0) (oi := ⟨some 98, _, _, _, _, _⟩) (v := ?_) rfl (by decide +kernel) (by decide +kernel) (by decide +kernel) (fun _ _ _ h => h) (Or.inl ⟨by rfl, ?_⟩) hy ?_
                    case refine_2 =>
                      intro w' hSw
                      have t0' := keepcell hSw t0
                      have t1' := keepcell hSw t1
                      have f0' := keepcell hSw f0
                      have f1' := keepcell hSw f1
                      go_simp
                      try (with_reducible rfl)
                    try simp only [Act.put, List.setIfInBounds_toArray, List.set_cons_zero, List.set_cons_succ]
                    refine wpM_take (i := 1) (oi := ⟨some 99, _, _, _, _, _⟩) (v := ?_) rfl (by decide +kernel) (by decide +kernel) (by decide +kernel) (fun _ _ _ h => h) (Or.inl ⟨by rfl, ?_⟩) hy ?_
                    case refine_2 =>
                      intro w' hSw
                      have t0' := keepcell hSw t0
                      have t1' := keepcell hSw t1
                      have f0' := keepcell hSw f0
                      have f1' := keepcell hSw f1
                      go_simp
                      try (with_reducible rfl)
                    try simp only [Act.put, List.setIfInBounds_toArray, List.set_cons_zero, List.set_cons_succ]
                    refine wpM_take (i := 2) (oi := ⟨some 100, _, _, _, _, _⟩) (v := ?_) rfl (by decide +kernel) (by decide +kernel) (by decide +kernel) (fun _ _ _ h => h) (Or.inl ⟨by rfl, ?_⟩) hy ?_
                    case refine_2 =>
                      intro w' hSw
                      have t0' := keepcell hSw t0
                      have t1' := keepcell hSw t1
                      have f0' := keepcell hSw f0
                      have f1' := keepcell hSw f1
                      go_simp
                      try (with_reducible rfl)
                    try simp only [Act.put, List.setIfInBounds_toArray, List.set_cons_zero, List.set_cons_succ]
                    refine wpM_take (i := 3) (oi := ⟨some 101, _, _, _, _, _⟩) (v := ?_) rfl (by decide +kernel) (by decide +kernel) (by decide +kernel) (fun _ _ _ h => h) (Or.inl ⟨by rfl, ?_⟩) hy ?_
                    case refine_2 =>
                      intro w' hSw
                      have t0' := keepcell hSw t0
                      have t1' := keepcell hSw t1
                      have f0' := keepcell hSw f0
                      have f1' := keepcell hSw f1
                      go_simp
                      try (with_reducible rfl)
                    try simp only [Act.put, List.setIfInBounds_toArray, List.set_cons_zero, List.set_cons_succ]
                    refine wpM_take (i := 4) (oi := ⟨some 102, _, _, _, _, _⟩) (v := ?_) rfl (by decide +kernel) (by decide +kernel) (by decide +kernel) (fun _ _ _ h => h) (Or.inl ⟨by rfl, ?_⟩) hy ?_
                    case refine_2 =>
                      intro w' hSw
                      have t0' := keepcell hSw t0
                      have t1' := keepcell hSw t1
                      have f0' := keepcell hSw f0
                      have f1' := keepcell hSw f1
                      go_simp
                      try (with_reducible rfl)
                    try simp only [Act.put, List.setIfInBounds_toArray, List.set_cons_zero, List.set_cons_succ]
                    refine wpM_take (i := 5) (oi := ⟨some 103, _, _, _, _, _⟩) (v := ?_) rfl (by decide +kernel) (by decide +kernel) (by decide +kernel) (fun _ _ _ h => h) (Or.inl ⟨by rfl, ?_⟩) hy ?_
                    case refine_2 =>
                      intro w' hSw
                      have t0' := keepcell hSw t0
                      have t1' := keepcell hSw t1
                      have f0' := keepcell hSw f0
                      have f1' := keepcell hSw f1
                      go_simp
                      try (with_reducible rfl)
                    try simp only [Act.put, List.setIfInBounds_toArray, List.set_cons_zero, List.set_cons_succ]
                    refine wpM_take (i := 6) (oi := ⟨some 104, _, _, _, _, _⟩) (v := ?_) rfl (by decide +kernel) (by decide +kernel) (by decide +kernel) (fun _ _ _ h => h) (Or.inl ⟨by rfl, ?_⟩) hy ?_
                    case refine_2 =>
                      intro w' hSw
                      have t0' := keepcell hSw t0
                      have t1' := keepcell hSw t1
                      have f0' := keepcell hSw f0
                      have f1' := keepcell hSw f1
                      go_simp
                      try (with_reducible rfl)
                    try simp only [Act.put, List.setIfInBounds_toArray, List.set_cons_zero, List.set_cons_succ]
                    refine wpM_inv (fun i => if i = 8 then 18 else 98 + i) [7, 8] (NJ 7 8 V17 (.agg #[.int .i64 n10, .int .i64 n11])) (by decide +kernel) (fun d vs w h => h.1) (NJ.none_ hy) ?_ ?_
                    · refine List.forall_mem_cons.2 ⟨?_, List.forall_mem_cons.2 ⟨?_, List.forall_mem_nil _⟩⟩
                      · refine ⟨⟨some 105, _, _, _, _, _⟩, rfl, rfl, fun d vs W K hI hdi hd hK => ?_⟩
                        simp only [puts, List.foldl_cons, List.foldl_nil, Act.put, Nat.reduceAdd, Nat.reduceEqDiff, if_true, if_false, ↓reduceIte, List.setIfInBounds_toArray, List.set_cons_zero, List.set_cons_succ] at hK ⊢
                        go_simp
                        refine (NR1.out W).mono ?_
                        rintro e w2 ⟨rfl, hb⟩
                        exact hK _ _ (hI.si (by decide) hb)
                      · refine ⟨⟨some 18, _, _, _, _, _⟩, rfl, rfl, fun d vs W K hI hdi hd hK => ?_⟩
                        simp only [puts, List.foldl_cons, List.foldl_nil, Act.put, Nat.reduceAdd, Nat.reduceEqDiff, if_true, if_false, ↓reduceIte, List.setIfInBounds_toArray, List.set_cons_zero, List.set_cons_succ] at hK ⊢
                        go_simp
                        exact hK _ _ (hI.sj (by decide))
                    · intro d vs Y4 hd hI
                      simp only [puts, List.foldl_cons, List.foldl_nil, Act.put, Nat.reduceAdd, Nat.reduceEqDiff, if_true, if_false, ↓reduceIte, List.setIfInBounds_toArray, List.set_cons_zero, List.set_cons_succ]
                      obtain ⟨hbY4, hV1, hP1⟩ := hI
                      have HV1 := hV1 (hd 7 (by decide))
                      obtain ⟨g18, HP1, hg18, hK18⟩ := hP1 (hd 8 (by decide))
                      clear hd hV1 hP1
                      rw [HV1, HP1]
                      clear HV1 HP1
                      simp only [List.drop_succ_cons, List.drop_zero]
                      have OY4 := Lib.hid (OV17.out.below hbY4)
                      have FY4 := Lib.hid (FV17.out.below hbY4)
                      have BY4 := Lib.hid (BV17.out.trans (hbY4.mono BV17.out.size))
                      have GY4 := Lib.hid (GV17.out.below hbY4)
                      have K18 := Lib.hid hK18
                      have i0 : Y4.cell? ⟨g18, 0, none⟩ = some (.int .i64 0) := hK18.cell 0
                      have i1 : Y4.cell? ⟨g18, 1, none⟩ = some (.int .i64 0) := hK18.cell 1
                      have z9 : ∀ j, Y4.frozen? ⟨g18, j, none⟩ = false := fun j => Joins.unfrozen_of_block hK18 _
                      have hgv2 : gv < V17.heap.size := by have := (own_at OV17.out HT.out.1 hv); obtain ⟨g', e, _, h⟩ := this; injection e with e; injection e with e; omega
                      have N9 : (Value.slice (some ⟨gv, 0, none⟩) m cv).ownBlock ≠ some g18 := by simp [Value.ownBlock]; omega
                      have hwf2 : wf < V17.heap.size := FV17.out.lt
                      have h10 : W10.heap.size < V17.heap.size := GV17.out.lt
                      obtain ⟨Z2, hZ2⟩ : ∃ W, W = (Y4.setCell ⟨g18, 0, none⟩ (.int .i64 n10)).setCell ⟨g18, 1, none⟩ (.int .i64 n11) := ⟨_, rfl⟩
                      have S1 := store_step K18.out 0 (.int .i64 n10)
                      have S2 := store_step S1.1 1 (.int .i64 n11)
                      have DZ2' : Hid (Blk Z2 g18 42 #[.int .i64 n10, .int .i64 n11]) := Lib.hid (by rw [hZ2]; exact S2.1)
                      have OZ2 := Lib.hid (show OR 42 Z2 w.heap.size (.slice (some ⟨gv, 0, none⟩) m cv) T by rw [hZ2]; exact ownsRow_setCell_other (ownsRow_setCell_other OY4.out N9 _) N9 _)
                      have FZ2 := Lib.hid (show Blk Z2 wf 56 #[.int .i64 xc, .slice (some ⟨ba, offa, none⟩) xn xcap] by rw [hZ2]; exact (FY4.out.other (by omega)).other (by omega))
                      have GZ2 := Lib.hid (show Blk Z2 W10.heap.size 42 #[.int .i64 r0, .int .i64 r1] by rw [hZ2]; exact (GY4.out.other (by omega)).other (by omega))
                      have BZ2 := Lib.hid (show Below w.heap.size w Z2 by rw [hZ2]; exact S2.2.2 _ _ (S1.2.2 _ _ BY4.out (Nat.le_trans BV17.out.size hg18)) (Nat.le_trans BV17.out.size hg18))
                      clear S1 S2 t0 t1 f0 f1 hy hK18
                      go_upto_region 28 with fail
                      rw [← hZ2]
                      clear hZ2 i0 i1 z9
                      obtain ⟨-, -, x2⟩ := HCN.out Z2 BZ2.out
                      try simp only at x2
                      cases xe
                      · simp only [Bool.false_eq_true, if_false] at HNR
                        obtain ⟨HZ0, hsu⟩ := HZD.out _ HNR.symm
                        have HSB := Lib.hid HZ0
                        have HSUB := Lib.hid (show (T.getD v ⟨0, 0⟩).lo ≤ n10 ∧ n11 ≤ (T.getD v ⟨0, 0⟩).hi by rw [HTD.out]; exact hsu)
                        rw [← HNR] at HST
                        obtain ⟨z0, rfl⟩ : ∃ z, z = n10 := ⟨_, rfl⟩
                        obtain ⟨z1, rfl⟩ : ∃ z, z = n11 := ⟨_, rfl⟩
                        have DZ2 := DZ2'
                        clear HNR HZD HZ0 hsu
                        go_upto_region 30 with fail
                        clear x2
                        have g0 : Z2.cell? ⟨g18, 0, none⟩ = some (.int .i64 z0) := DZ2.out.cell 0
                        have g1 : Z2.cell? ⟨g18, 1, none⟩ = some (.int .i64 z1) := DZ2.out.cell 1
                        by_cases hemp : z1 < z0
                        · have HEN := Lib.hid (show none = res by
                            have h1 := HE.out
                            rw [HST.out, if_neg ha, if_pos (by unfold Iv.emp; simpa using hemp)] at h1
                            exact HFAIL.out h1.symm)
                          go_wp2
                          go_ret2
                          rw [← HEN.out]
                          exact ⟨rfl, BZ2.out⟩
                        · have hze : Iv.emp ⟨z0, z1⟩ = false := by unfold Iv.emp; simpa using hemp
                          have HE1 := Lib.hid (show nwM xc false xl (xn - (k + 1)) (T.set v ⟨z0, z1⟩) false = nr by
                            have h1 := HE.out
                            rw [HST.out, if_neg ha, if_neg (by rw [hze]; decide)] at h1
                            exact h1)
                          have HT2 := Lib.hid (HSB.out hze)
                          have HNE2 := Lib.hid (ne_set (v := v) HNE.out hze)
                          obtain ⟨t0, t1, hfz⟩ := OZ2.out.getL HT.out.1 hv
                          rw [HTD.out] at t0 t1
                          try simp only at t0 t1
                          go_upto_region 32 with fail
                          cases h0 : (z0 == d0)
                          · have hne : ¬ (Iv.mk d0 d1) = ⟨z0, z1⟩ := fun e => by injection e with e _; subst e; simp at h0
                            have HCH2 := Lib.hid (chg_new HCH.out (show (T.getD v ⟨0, 0⟩).lo ≤ (Iv.mk z0 z1).lo from HSUB.out.1) HSUB.out.2 (by rw [HTD.out]; exact hne) (by rw [HT.out.1]; exact hv))
                            have g0q : ∀ d os, (Go.Sort.grow (redrawn Z2 d) os).cell? ⟨g18, 0, none⟩ = some (.int .i64 z0) := fun d os => cell_regrown g0 d os
                            have g1q : ∀ d os, (Go.Sort.grow (redrawn Z2 d) os).cell? ⟨g18, 1, none⟩ = some (.int .i64 z1) := fun d os => cell_regrown g1 d os
                            have t0q : ∀ d os, (Go.Sort.grow (redrawn Z2 d) os).cell? ⟨gv, v * 2, none⟩ = some (.int .i64 d0) := fun d os => cell_regrown t0 d os
                            have t1q : ∀ d os, (Go.Sort.grow (redrawn Z2 d) os).cell? ⟨gv, v * 2 + 1, none⟩ = some (.int .i64 d1) := fun d os => cell_regrown t1 d os
                            refine wp_region_quiet_below (by kernel_rfl) (by kernel_rfl) ?_
                            repeat (first | go_big_quiet_step (fail) | quiet_step (fail))
                            refine wpQuiet_nil ?_
                            intro _ hw'
                            obtain ⟨⟨dq, osq⟩, hw''⟩ := hw'
                            subst hw''
                            have hbV : Below Z2.heap.size Z2 (Go.Sort.grow (redrawn Z2 dq) osq) := below_regrown Z2 dq osq
                            clear g0q g1q t0q t1q
                            generalize (Go.Sort.grow (redrawn Z2 dq) osq) = V at *
                            have OV := Lib.hid (OZ2.out.below hbV)
                            have FV := Lib.hid (FZ2.out.below hbV)
                            have BV := Lib.hid (BZ2.out.trans (hbV.mono BZ2.out.size))
                            have DV := Lib.hid (DZ2.out.below hbV)
                            clear g0 g1 t0 t1 hfz
                            have g0 : V.cell? ⟨g18, 0, none⟩ = some (.int .i64 z0) := DV.out.cell 0
                            have g1 : V.cell? ⟨g18, 1, none⟩ = some (.int .i64 z1) := DV.out.cell 1
                            obtain ⟨t0, t1, hfz⟩ := OV.out.getL HT.out.1 hv
                            obtain ⟨p1, p2⟩ := OV.out.putL HT.out.1 hv ⟨z0, z1⟩
                            have hgf := own_blk_ne OV.out FV.out (by decide)
                            obtain ⟨U, hU⟩ : ∃ W, W = (V.setCell ⟨gv, v * 2, none⟩ (.int .i64 z0)).setCell ⟨gv, v * 2 + 1, none⟩ (.int .i64 z1) := ⟨_, rfl⟩
                            have OU := Lib.hid (show OR 42 U w.heap.size (.slice (some ⟨gv, 0, none⟩) m cv) (T.set v ⟨z0, z1⟩) by rw [hU]; exact p1)
                            have BU := Lib.hid (show Below w.heap.size w U by rw [hU]; exact p2 _ _ BV.out (Nat.le_refl _))
                            have FU := Lib.hid (show Blk U wf 56 #[.int .i64 xc, .slice (some ⟨ba, offa, none⟩) xn xcap] by rw [hU]; exact (FV.out.other (fun e => hgf (by simp [Value.ownBlock, e]))).other (fun e => hgf (by simp [Value.ownBlock, e])))
                            clear p1 p2
                            go_wp2
                            rw [← hU]
                            clear hU
                            go_roundw
                            case rel => exact ⟨k + 1, T.set v ⟨z0, z1⟩, true, true, rfl, rfl, by go_num, hlt, HE1.out, OU.out, HT2.out, HNE2.out, HCH2.out, FU.out, BU.out⟩
                            case measure => simp only [intOf]; omega
                          · cases h1 : (z1 == d1)
                            · have hne : ¬ (Iv.mk d0 d1) = ⟨z0, z1⟩ := fun e => by injection e with _ e; subst e; simp at h1
                              have HCH2 := Lib.hid (chg_new HCH.out (show (T.getD v ⟨0, 0⟩).lo ≤ (Iv.mk z0 z1).lo from HSUB.out.1) HSUB.out.2 (by rw [HTD.out]; exact hne) (by rw [HT.out.1]; exact hv))
                              have g0q : ∀ d os, (Go.Sort.grow (redrawn Z2 d) os).cell? ⟨g18, 0, none⟩ = some (.int .i64 z0) := fun d os => cell_regrown g0 d os
                              have g1q : ∀ d os, (Go.Sort.grow (redrawn Z2 d) os).cell? ⟨g18, 1, none⟩ = some (.int .i64 z1) := fun d os => cell_regrown g1 d os
                              have t0q : ∀ d os, (Go.Sort.grow (redrawn Z2 d) os).cell? ⟨gv, v * 2, none⟩ = some (.int .i64 d0) := fun d os => cell_regrown t0 d os
                              have t1q : ∀ d os, (Go.Sort.grow (redrawn Z2 d) os).cell? ⟨gv, v * 2 + 1, none⟩ = some (.int .i64 d1) := fun d os => cell_regrown t1 d os
                              refine wp_region_quiet_below (by kernel_rfl) (by kernel_rfl) ?_
                              repeat (first | go_big_quiet_step (fail) | quiet_step (fail))
                              refine wpQuiet_nil ?_
                              intro _ hw'
                              obtain ⟨⟨dq, osq⟩, hw''⟩ := hw'
                              subst hw''
                              have hbV : Below Z2.heap.size Z2 (Go.Sort.grow (redrawn Z2 dq) osq) := below_regrown Z2 dq osq
                              clear g0q g1q t0q t1q
                              generalize (Go.Sort.grow (redrawn Z2 dq) osq) = V at *
                              have OV := Lib.hid (OZ2.out.below hbV)
                              have FV := Lib.hid (FZ2.out.below hbV)
                              have BV := Lib.hid (BZ2.out.trans (hbV.mono BZ2.out.size))
                              have DV := Lib.hid (DZ2.out.below hbV)
                              clear g0 g1 t0 t1 hfz
                              have g0 : V.cell? ⟨g18, 0, none⟩ = some (.int .i64 z0) := DV.out.cell 0
                              have g1 : V.cell? ⟨g18, 1, none⟩ = some (.int .i64 z1) := DV.out.cell 1
                              obtain ⟨t0, t1, hfz⟩ := OV.out.getL HT.out.1 hv
                              obtain ⟨p1, p2⟩ := OV.out.putL HT.out.1 hv ⟨z0, z1⟩
                              have hgf := own_blk_ne OV.out FV.out (by decide)
                              obtain ⟨U, hU⟩ : ∃ W, W = (V.setCell ⟨gv, v * 2, none⟩ (.int .i64 z0)).setCell ⟨gv, v * 2 + 1, none⟩ (.int .i64 z1) := ⟨_, rfl⟩
                              have OU := Lib.hid (show OR 42 U w.heap.size (.slice (some ⟨gv, 0, none⟩) m cv) (T.set v ⟨z0, z1⟩) by rw [hU]; exact p1)
                              have BU := Lib.hid (show Below w.heap.size w U by rw [hU]; exact p2 _ _ BV.out (Nat.le_refl _))
                              have FU := Lib.hid (show Blk U wf 56 #[.int .i64 xc, .slice (some ⟨ba, offa, none⟩) xn xcap] by rw [hU]; exact (FV.out.other (fun e => hgf (by simp [Value.ownBlock, e]))).other (fun e => hgf (by simp [Value.ownBlock, e])))
                              clear p1 p2
                              go_wp2
                              rw [← hU]
                              clear hU
                              go_roundw
                              case rel => exact ⟨k + 1, T.set v ⟨z0, z1⟩, true, true, rfl, rfl, by go_num, hlt, HE1.out, OU.out, HT2.out, HNE2.out, HCH2.out, FU.out, BU.out⟩
                              case measure => simp only [intOf]; omega
                            · have HSM := Lib.hid (show T.getD v ⟨0, 0⟩ = ⟨z0, z1⟩ by rw [HTD.out, show d0 = z0 by simpa using (beq_iff_eq.1 h0).symm, show d1 = z1 by simpa using (beq_iff_eq.1 h1).symm])
                              rw [set_same HSM.out (by rw [HT.out.1]; exact hv)] at HE1
                              go_quiet (fail)
                              go_wp2
                              go_roundw
                              case rel => exact ⟨k + 1, T, true, ch, rfl, rfl, by go_num, hlt, HE1.out, by first | exact OZ2.out | exact OZ2.out.below (below_drewN (Below.refl _ _)) | exact OZ2.out.below (below_drew (Below.refl _ _)), HT.out, HNE.out, HCH.out, by first | exact FZ2.out | exact Blk.below (below_drewN (Below.refl _ _)) FZ2.out | exact FZ2.out.drew, by first | exact BZ2.out | exact below_drewN BZ2.out | exact below_drew BZ2.out⟩
                              case measure => simp only [intOf]; omega
                      · simp only [if_true] at HNR
                        have f0 : Z2.cell? ⟨g18, 0, none⟩ = some (.int .i64 n10) := DZ2'.out.cell 0
                        have f1 : Z2.cell? ⟨g18, 1, none⟩ = some (.int .i64 n11) := DZ2'.out.cell 1
                        have f2 : Z2.cell? ⟨W10.heap.size, 1, none⟩ = some (.int .i64 r1) := GZ2.out.cell 1
                        have hwa : IntKind.i64.wrap (-a) = -a := by rw [IntKind.wrap_i64]; omega
                        have hwr : IntKind.i64.wrap (-r1) = -r1 := by rw [IntKind.wrap_i64]; omega
                        have NR2 := Lib.hid (RNarrow_any ⟨n10, n11⟩ (-a) (-r1) Z2 (by omega) ⟨by omega, by omega⟩ ⟨by omega, by omega⟩)
                        obtain ⟨HZ0, hsu⟩ := HZD.out _ HNR.symm
                        rw [← HNR] at HST
                        generalize rnw ⟨n10, n11⟩ (-a) (-r1) = zz at *
                        obtain ⟨z0, z1⟩ := zz
                        have HSB := Lib.hid HZ0
                        have HSUB := Lib.hid (show (T.getD v ⟨0, 0⟩).lo ≤ z0 ∧ z1 ≤ (T.getD v ⟨0, 0⟩).hi by rw [HTD.out]; exact hsu)
                        clear HZD HZ0 hsu HNR
                        go_wp2_with fail
                        refine NR2.out.mono ?_
                        rintro e Z3 ⟨rfl, hbZ3⟩
                        unfold Iv.agg
                        have OZ3 := Lib.hid (OZ2.out.below hbZ3)
                        have FZ3 := Lib.hid (FZ2.out.below hbZ3)
                        have BZ3 := Lib.hid (BZ2.out.trans (hbZ3.mono BZ2.out.size))
                        have DZ3' := Lib.hid (DZ2'.out.below hbZ3)
                        clear x2 f0 f1 f2
                        have f0 : Z3.cell? ⟨g18, 0, none⟩ = some (.int .i64 n10) := DZ3'.out.cell 0
                        have f1 : Z3.cell? ⟨g18, 1, none⟩ = some (.int .i64 n11) := DZ3'.out.cell 1
                        have z9 : ∀ j, Z3.frozen? ⟨g18, j, none⟩ = false := fun j => Joins.unfrozen_of_block DZ3'.out _
                        obtain ⟨Z4, hZ4⟩ : ∃ W, W = (Z3.setCell ⟨g18, 0, none⟩ (.int .i64 z0)).setCell ⟨g18, 1, none⟩ (.int .i64 z1) := ⟨_, rfl⟩
                        have S1 := store_step DZ3'.out 0 (.int .i64 z0)
                        have S2 := store_step S1.1 1 (.int .i64 z1)
                        have DZ4 : Hid (Blk Z4 g18 42 #[.int .i64 z0, .int .i64 z1]) := Lib.hid (by rw [hZ4]; exact S2.1)
                        have OZ4 := Lib.hid (show OR 42 Z4 w.heap.size (.slice (some ⟨gv, 0, none⟩) m cv) T by rw [hZ4]; exact ownsRow_setCell_other (ownsRow_setCell_other OZ3.out N9 _) N9 _)
                        have FZ4 := Lib.hid (show Blk Z4 wf 56 #[.int .i64 xc, .slice (some ⟨ba, offa, none⟩) xn xcap] by rw [hZ4]; exact (FZ3.out.other (by omega)).other (by omega))
                        have BZ4 := Lib.hid (show Below w.heap.size w Z4 by rw [hZ4]; exact S2.2.2 _ _ (S1.2.2 _ _ BZ3.out (Nat.le_trans BV17.out.size hg18)) (Nat.le_trans BV17.out.size hg18))
                        clear S1 S2
                        go_upto_region 30 with fail
                        rw [← hZ4]
                        clear hZ4 f0 f1 z9
                        have g0 : Z4.cell? ⟨g18, 0, none⟩ = some (.int .i64 z0) := DZ4.out.cell 0
                        have g1 : Z4.cell? ⟨g18, 1, none⟩ = some (.int .i64 z1) := DZ4.out.cell 1
                        by_cases hemp : z1 < z0
                        · have HEN := Lib.hid (show none = res by
                            have h1 := HE.out
                            rw [HST.out, if_neg ha, if_pos (by unfold Iv.emp; simpa using hemp)] at h1
                            exact HFAIL.out h1.symm)
                          go_wp2
                          go_ret2
                          rw [← HEN.out]
                          exact ⟨rfl, BZ4.out⟩
                        · have hze : Iv.emp ⟨z0, z1⟩ = false := by unfold Iv.emp; simpa using hemp
                          have HE1 := Lib.hid (show nwM xc true xl (xn - (k + 1)) (T.set v ⟨z0, z1⟩) false = nr by
                            have h1 := HE.out
                            rw [HST.out, if_neg ha, if_neg (by rw [hze]; decide)] at h1
                            exact h1)
                          have HT2 := Lib.hid (HSB.out hze)
                          have HNE2 := Lib.hid (ne_set (v := v) HNE.out hze)
                          obtain ⟨t0, t1, hfz⟩ := OZ4.out.getL HT.out.1 hv
                          rw [HTD.out] at t0 t1
                          try simp only at t0 t1
                          go_upto_region 32 with fail
                          cases h0 : (z0 == d0)
                          · have hne : ¬ (Iv.mk d0 d1) = ⟨z0, z1⟩ := fun e => by injection e with e _; subst e; simp at h0
                            have HCH2 := Lib.hid (chg_new HCH.out (show (T.getD v ⟨0, 0⟩).lo ≤ (Iv.mk z0 z1).lo from HSUB.out.1) HSUB.out.2 (by rw [HTD.out]; exact hne) (by rw [HT.out.1]; exact hv))
                            have g0q : ∀ d os, (Go.Sort.grow (redrawn Z4 d) os).cell? ⟨g18, 0, none⟩ = some (.int .i64 z0) := fun d os => cell_regrown g0 d os
                            have g1q : ∀ d os, (Go.Sort.grow (redrawn Z4 d) os).cell? ⟨g18, 1, none⟩ = some (.int .i64 z1) := fun d os => cell_regrown g1 d os
                            have t0q : ∀ d os, (Go.Sort.grow (redrawn Z4 d) os).cell? ⟨gv, v * 2, none⟩ = some (.int .i64 d0) := fun d os => cell_regrown t0 d os
                            have t1q : ∀ d os, (Go.Sort.grow (redrawn Z4 d) os).cell? ⟨gv, v * 2 + 1, none⟩ = some (.int .i64 d1) := fun d os => cell_regrown t1 d os
                            refine wp_region_quiet_below (by kernel_rfl) (by kernel_rfl) ?_
                            repeat (first | go_big_quiet_step (fail) | quiet_step (fail))
                            refine wpQuiet_nil ?_
                            intro _ hw'
                            obtain ⟨⟨dq, osq⟩, hw''⟩ := hw'
                            subst hw''
                            have hbV : Below Z4.heap.size Z4 (Go.Sort.grow (redrawn Z4 dq) osq) := below_regrown Z4 dq osq
                            clear g0q g1q t0q t1q
                            generalize (Go.Sort.grow (redrawn Z4 dq) osq) = V at *
                            have OV := Lib.hid (OZ4.out.below hbV)
                            have FV := Lib.hid (FZ4.out.below hbV)
                            have BV := Lib.hid (BZ4.out.trans (hbV.mono BZ4.out.size))
                            have DV := Lib.hid (DZ4.out.below hbV)
                            clear g0 g1 t0 t1 hfz
                            have g0 : V.cell? ⟨g18, 0, none⟩ = some (.int .i64 z0) := DV.out.cell 0
                            have g1 : V.cell? ⟨g18, 1, none⟩ = some (.int .i64 z1) := DV.out.cell 1
                            obtain ⟨t0, t1, hfz⟩ := OV.out.getL HT.out.1 hv
                            obtain ⟨p1, p2⟩ := OV.out.putL HT.out.1 hv ⟨z0, z1⟩
                            have hgf := own_blk_ne OV.out FV.out (by decide)
                            obtain ⟨U, hU⟩ : ∃ W, W = (V.setCell ⟨gv, v * 2, none⟩ (.int .i64 z0)).setCell ⟨gv, v * 2 + 1, none⟩ (.int .i64 z1) := ⟨_, rfl⟩
                            have OU := Lib.hid (show OR 42 U w.heap.size (.slice (some ⟨gv, 0, none⟩) m cv) (T.set v ⟨z0, z1⟩) by rw [hU]; exact p1)
                            have BU := Lib.hid (show Below w.heap.size w U by rw [hU]; exact p2 _ _ BV.out (Nat.le_refl _))
                            have FU := Lib.hid (show Blk U wf 56 #[.int .i64 xc, .slice (some ⟨ba, offa, none⟩) xn xcap] by rw [hU]; exact (FV.out.other (fun e => hgf (by simp [Value.ownBlock, e]))).other (fun e => hgf (by simp [Value.ownBlock, e])))
                            clear p1 p2
                            go_wp2
                            rw [← hU]
                            clear hU
                            go_roundw
                            case rel => exact ⟨k + 1, T.set v ⟨z0, z1⟩, true, true, rfl, rfl, by go_num, hlt, HE1.out, OU.out, HT2.out, HNE2.out, HCH2.out, FU.out, BU.out⟩
                            case measure => simp only [intOf]; omega
                          · cases h1 : (z1 == d1)
                            · have hne : ¬ (Iv.mk d0 d1) = ⟨z0, z1⟩ := fun e => by injection e with _ e; subst e; simp at h1
                              have HCH2 := Lib.hid (chg_new HCH.out (show (T.getD v ⟨0, 0⟩).lo ≤ (Iv.mk z0 z1).lo from HSUB.out.1) HSUB.out.2 (by rw [HTD.out]; exact hne) (by rw [HT.out.1]; exact hv))
                              have g0q : ∀ d os, (Go.Sort.grow (redrawn Z4 d) os).cell? ⟨g18, 0, none⟩ = some (.int .i64 z0) := fun d os => cell_regrown g0 d os
                              have g1q : ∀ d os, (Go.Sort.grow (redrawn Z4 d) os).cell? ⟨g18, 1, none⟩ = some (.int .i64 z1) := fun d os => cell_regrown g1 d os
                              have t0q : ∀ d os, (Go.Sort.grow (redrawn Z4 d) os).cell? ⟨gv, v * 2, none⟩ = some (.int .i64 d0) := fun d os => cell_regrown t0 d os
                              have t1q : ∀ d os, (Go.Sort.grow (redrawn Z4 d) os).cell? ⟨gv, v * 2 + 1, none⟩ = some (.int .i64 d1) := fun d os => cell_regrown t1 d os
                              refine wp_region_quiet_below (by kernel_rfl) (by kernel_rfl) ?_
                              repeat (first | go_big_quiet_step (fail) | quiet_step (fail))
                              refine wpQuiet_nil ?_
                              intro _ hw'
                              obtain ⟨⟨dq, osq⟩, hw''⟩ := hw'
                              subst hw''
                              have hbV : Below Z4.heap.size Z4 (Go.Sort.grow (redrawn Z4 dq) osq) := below_regrown Z4 dq osq
                              clear g0q g1q t0q t1q
                              generalize (Go.Sort.grow (redrawn Z4 dq) osq) = V at *
                              have OV := Lib.hid (OZ4.out.below hbV)
                              have FV := Lib.hid (FZ4.out.below hbV)
                              have BV := Lib.hid (BZ4.out.trans (hbV.mono BZ4.out.size))
                              have DV := Lib.hid (DZ4.out.below hbV)
                              clear g0 g1 t0 t1 hfz
                              have g0 : V.cell? ⟨g18, 0, none⟩ = some (.int .i64 z0) := DV.out.cell 0
                              have g1 : V.cell? ⟨g18, 1, none⟩ = some (.int .i64 z1) := DV.out.cell 1
                              obtain ⟨t0, t1, hfz⟩ := OV.out.getL HT.out.1 hv
                              obtain ⟨p1, p2⟩ := OV.out.putL HT.out.1 hv ⟨z0, z1⟩
                              have hgf := own_blk_ne OV.out FV.out (by decide)
                              obtain ⟨U, hU⟩ : ∃ W, W = (V.setCell ⟨gv, v * 2, none⟩ (.int .i64 z0)).setCell ⟨gv, v * 2 + 1, none⟩ (.int .i64 z1) := ⟨_, rfl⟩
                              have OU := Lib.hid (show OR 42 U w.heap.size (.slice (some ⟨gv, 0, none⟩) m cv) (T.set v ⟨z0, z1⟩) by rw [hU]; exact p1)
                              have BU := Lib.hid (show Below w.heap.size w U by rw [hU]; exact p2 _ _ BV.out (Nat.le_refl _))
                              have FU := Lib.hid (show Blk U wf 56 #[.int .i64 xc, .slice (some ⟨ba, offa, none⟩) xn xcap] by rw [hU]; exact (FV.out.other (fun e => hgf (by simp [Value.ownBlock, e]))).other (fun e => hgf (by simp [Value.ownBlock, e])))
                              clear p1 p2
                              go_wp2
                              rw [← hU]
                              clear hU
                              go_roundw
                              case rel => exact ⟨k + 1, T.set v ⟨z0, z1⟩, true, true, rfl, rfl, by go_num, hlt, HE1.out, OU.out, HT2.out, HNE2.out, HCH2.out, FU.out, BU.out⟩
                              case measure => simp only [intOf]; omega
                            · have HSM := Lib.hid (show T.getD v ⟨0, 0⟩ = ⟨z0, z1⟩ by rw [HTD.out, show d0 = z0 by simpa using (beq_iff_eq.1 h0).symm, show d1 = z1 by simpa using (beq_iff_eq.1 h1).symm])
                              rw [set_same HSM.out (by rw [HT.out.1]; exact hv)] at HE1
                              go_quiet (fail)
                              go_wp2
                              go_roundw
                              case rel => exact ⟨k + 1, T, true, ch, rfl, rfl, by go_num, hlt, HE1.out, by first | exact OZ4.out | exact OZ4.out.below (below_drewN (Below.refl _ _)) | exact OZ4.out.below (below_drew (Below.refl _ _)), HT.out, HNE.out, HCH.out, by first | exact FZ4.out | exact Blk.below (below_drewN (Below.refl _ _)) FZ4.out | exact FZ4.out.drew, by first | exact BZ4.out | exact below_drewN BZ4.out | exact below_drew BZ4.out⟩
                              case measure => simp only [intOf]; omega
                · obtain rfl : k = xn := by omega
                  have hlt2 : ¬ ((k : Int) < (k : Int)) := by omega
                  have HNR := Lib.hid (show nr = some (T, !sm) by have h := HE.out; rw [Nat.sub_self] at h; exact h.symm)
                  have e0 : wr.cell? ⟨wf, 0, none⟩ = some (.int .i64 xc) := Fwr.out.cell 0
                  have e1 : wr.cell? ⟨wf, 1, none⟩ = some (.slice xA k xcap) := Fwr.out.cell 1
                  obtain ⟨-, -, x2⟩ := HCN.out wr Bwr.out
                  try simp only at x2
                  cases sm
                  · by_cases hc1 : 0 < xc
                    · have HEN := Lib.hid (HFAIL2.out (by rw [HNR.out]; unfold nwE; simp; omega))
                      go_wp2
                      go_ret2
                      rw [← HEN.out]
                      exact ⟨rfl, Bwr.out⟩
                    · by_cases hc2 : xc = 0
                      · have HQ := Lib.hid (HNEXT.out T true HNR.out (by rw [HNR.out, hc2]; rfl))
                        have hcz : (xc == 0) = true := by simpa using hc2
                        have hcn : (xc != 0) = false := by simpa using hc2
                        clear hc2
                        cases xe <;>
                        · go_wp2
                          go_roundw
                          case rel => exact ⟨i + 1, T, ch, rfl, by go_num, hli, HQ.out, Owr.out, HT.out, HNE.out, HCH.out, Bwr.out⟩
                          case measure => simp only [intOf]; omega
                      · have hcz : (xc == 0) = false := by simpa using hc2
                        have hcn : (xc != 0) = true := by simpa using hc2
                        cases xe
                        · have HQ := Lib.hid (HNEXT.out T true HNR.out (by rw [HNR.out]; unfold nwE; simp; omega))
                          clear hc2
                          go_wp2
                          go_roundw
                          case rel => exact ⟨i + 1, T, ch, rfl, by go_num, hli, HQ.out, Owr.out, HT.out, HNE.out, HCH.out, Bwr.out⟩
                          case measure => simp only [intOf]; omega
                        · have HEN := Lib.hid (HFAIL2.out (by rw [HNR.out]; unfold nwE; simp; omega))
                          clear hc2
                          go_wp2
                          go_ret2
                          rw [← HEN.out]
                          exact ⟨rfl, Bwr.out⟩
                  · have HQ := Lib.hid (HNEXT.out T false HNR.out (by rw [HNR.out]; rfl))
                    go_wp2
                    go_roundw
                    case rel => exact ⟨i + 1, T, ch, rfl, by go_num, hli, HQ.out, Owr.out, HT.out, HNE.out, HCH.out, Bwr.out⟩
                    case measure => simp only [intOf]; omega
            · obtain rfl : i = n := by omega
              have hlt2 : ¬ ((i : Int) < (i : Int)) := by omega
              have HE3 := Lib.hid (show some S = onceM Cs R' by have h := HE.out; rwa [List.drop_eq_nil_of_le (by rw [HL.out]; exact Nat.le_refl _)] at h)
              have HST2 := Lib.hid (show (if R' = S then some S else roundsM Cs (32 - (k + 1)) S) = res by have h := HSTR.out; rw [← HE3.out] at h; exact h)
              cases ch0
              · have HEN := Lib.hid (show some S = res by
                  have h := HST2.out
                  rw [if_pos (HCh.out.2.1 rfl).symm] at h
                  exact h)
                go_wp2
                go_ret2
                rw [← HEN.out]
                exact ⟨⟨_, rfl, HO.out⟩, BWO.out⟩
              · have HEN := Lib.hid (show roundsM Cs (32 - (k + 1)) S = res by
                  have h := HST2.out
                  rw [if_neg (fun e => by have := HCh.out.2.2 e.symm; cases this)] at h
                  exact h)
                go_wp2
                go_roundw
                case rel => exact ⟨k + 1, S, by go_num, hlk, HEN.out, HO.out, HSS.out, HN.out, BWO.out⟩
                case measure => simp only [intOf]; omega
        · obtain rfl : k = 32 := by omega
          have HEN := Lib.hid (show some R' = res by have h := HE.out; rwa [Nat.sub_self] at h)
          have hlt2 : ¬ (((32 : Nat) : Int) < 32) := by omega
          go_wp2
          go_ret2
          rw [← HEN.out]
          exact ⟨⟨_, rfl, HO.out⟩, HB.out⟩
end Go.Proofs.Ytnoddkbpdfimmaa
