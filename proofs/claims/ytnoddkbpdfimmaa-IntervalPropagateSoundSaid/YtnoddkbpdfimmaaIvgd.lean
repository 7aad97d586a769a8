/- Good: which problems propagation is asked. -/
import Derived.Test.YtnoddkbpdfimmaaIvrr
import Derived.Test.YtnoddkbpdfimmaaIvm
namespace Go.Proofs.Ytnoddkbpdfimmaa
open Go.ChangeShapes Go.WideShapes Go.ChangeAt Go.RowKit Go.ChangeMaps

def GdP (e : Ending) (Q : Prop) : Prop := ∃ g : Bool, e = .returned (.bool g) ∧ (g = true → Q)
/-- The first k coefficients ascend and are within bounds. -/
def CoG (m : Nat) (L : List Iv) (k : Nat) : Prop := ∀ j (hj : j < L.length), j < k → (j : Int) ≤ L[j].lo ∧ L[j].lo < m ∧ -1048576 ≤ L[j].hi ∧ L[j].hi ≤ 1048576
theorem coG_zero (m : Nat) (L : List Iv) : CoG m L 0 := fun j _ h => by omega
theorem coG_step {m k : Nat} {L : List Iv} (h : CoG m L k) (hk : k < L.length) (h1 : (k : Int) ≤ L[k].lo) (h2 : L[k].lo < m) (h3 : -1048576 ≤ L[k].hi ∧ L[k].hi ≤ 1048576) : CoG m L (k + 1) := fun j hj hjk => by
  by_cases e : j = k
  · subst e
    exact ⟨h1, h2, h3⟩
  · exact h j hj (by omega)
theorem coG_le {m k : Nat} {L : List Iv} (h : CoG m L k) (hk : k ≤ L.length) : k ≤ m := by
  rcases k with _ | p
  · omega
  · have := h p (by omega) (Nat.lt_succ_self p)
    omega
theorem coG_ok {m : Nat} {L : List Iv} (h : CoG m L L.length) : ∀ y ∈ L, CfOk m y := fun y hy => by
  obtain ⟨j, hj, rfl⟩ := List.getElem_of_mem hy
  obtain ⟨h1, h2, h3⟩ := h j hj hj
  exact ⟨⟨by omega, h2⟩, h3⟩
def GoodP (Cs : List Cn) (R : List Iv) : Prop := R.length ≤ 64 ∧ (∀ d ∈ R, d.bd 4294967296) ∧ ∀ x ∈ Cs, x.ok R.length
set_option maxRecDepth 100000 in
set_option maxHeartbeats 2000000 in
theorem RGood_any (A : Option Addr) (n cap : Nat) (Cs : List Cn) (D : Option Addr) (m cap2 : Nat) (R : List Iv) (w : World) (h : Cns w A n Cs) (h2 : Ivs w D m R) (hn : n ≤ 1000) :
    Calls Try.prog 41 #[.slice A n cap, .slice D m cap2] w fun e w' => GdP e (GoodP Cs R) ∧ Below w.heap.size w w' := by
  have HL := Lib.hid h.len
  have HA := Lib.hid h.at
  have HI := Lib.hid h.2
  have HM := Lib.hid h2.len
  have HD := Lib.hid h2.at
  clear h h2
  by_cases hm : (m : Int) ≤ 64
  · have hmN : m ≤ 64 := by omega
    go_enter Try.func41, Try.ntmps41
    go_wp2
    go_loopw [5] (fun s5 wr => ∃ (k : Nat), s5 = .int .i64 (k : Int) ∧ k ≤ m ∧ (∀ d ∈ R.take k, d.bd 4294967296) ∧ Below w.heap.size w wr) (fun s5 _ => m - (intOf s5).toNat)
    case atStart => exact ⟨0, rfl, Nat.zero_le _, by simp, Below.refl _ _⟩
    case round =>
      obtain ⟨wq, rfl⟩ : ∃ x, x = wr := ⟨_, rfl⟩
      obtain ⟨k, rfl, hkn, hE, hB⟩ := hrel
      have HE := Lib.hid hE
      have HB := Lib.hid hB
      clear hE hB
      by_cases hlt : k < m
      · have hki : (k : Int) < m := by omega
        have hk0 : (0 : Int) ≤ (k : Int) := by omega
        obtain ⟨b, off, rfl, hbl, hc⟩ := HD.out (by omega)
        have hi' : k < R.length := by rw [HM.out]; exact hlt
        obtain ⟨c0, c1⟩ := hc wq HB.out k hi'
        obtain ⟨x, hxe⟩ : ∃ x, R[k] = x := ⟨_, rfl⟩
        have HXE := Lib.hid hxe
        rw [hxe] at c0 c1
        clear hc hbl hxe
        obtain ⟨x0, x1⟩ := x
        simp only at c0 c1
        obtain ⟨X, hX⟩ : ∃ W, W = wq.alloc (.cells #[.int .i64 x0, .int .i64 x1] 42) := ⟨_, rfl⟩
        have X7 := Lib.hid (show Blk X wq.heap.size 42 #[.int .i64 x0, .int .i64 x1] by rw [hX]; exact Blk.new _ _ _)
        have XB := Lib.hid (show Below w.heap.size w X by rw [hX]; exact HB.out.alloc HB.out.size _)
        have g0 : X.cell? ⟨wq.heap.size, 0, none⟩ = some (.int .i64 x0) := X7.out.cell 0
        have g1 : X.cell? ⟨wq.heap.size, 1, none⟩ = some (.int .i64 x1) := X7.out.cell 1
        go_upto_region 7 with fail
        rw [← hX]
        clear hX c0 c1
        by_cases q0 : x0 < -4294967296
        · go_wp2
          go_ret
          exact ⟨⟨_, rfl, nofun⟩, by first | exact XB.out | exact below_drew XB.out | exact XB.out.drewN _ | exact below_drewN XB.out⟩
        · by_cases q1 : 4294967296 < x0
          · go_wp2
            go_ret
            exact ⟨⟨_, rfl, nofun⟩, by first | exact XB.out | exact below_drew XB.out | exact XB.out.drewN _ | exact below_drewN XB.out⟩
          · by_cases q2 : x1 < -4294967296
            · go_wp2
              go_ret
              exact ⟨⟨_, rfl, nofun⟩, by first | exact XB.out | exact below_drew XB.out | exact XB.out.drewN _ | exact below_drewN XB.out⟩
            · by_cases q3 : 4294967296 < x1
              · go_wp2
                go_ret
                exact ⟨⟨_, rfl, nofun⟩, by first | exact XB.out | exact below_drew XB.out | exact XB.out.drewN _ | exact below_drewN XB.out⟩
              · have HQ := Lib.hid (show ∀ d ∈ R.take (k + 1), d.bd 4294967296 from fun d hd => by
                  rcases (mem_take_succ hi').1 hd with h | h
                  · exact HE.out d h
                  · rw [h, HXE.out]
                    exact ⟨⟨by show -4294967296 ≤ x0; omega, by show x0 ≤ 4294967296; omega⟩, by show -4294967296 ≤ x1; omega, by show x1 ≤ 4294967296; omega⟩)
                go_wp2
                go_roundw
                case rel => exact ⟨k + 1, by go_num, hlt, HQ.out, XB.out⟩
                case measure => simp only [intOf]; omega
      · obtain rfl : k = m := by omega
        have hlt2 : ¬ ((k : Int) < (k : Int)) := by omega
        have HRB := Lib.hid (show ∀ d ∈ R, d.bd 4294967296 by have h := HE.out; rwa [List.take_of_length_le (by rw [HM.out]; exact Nat.le_refl _)] at h)
        go_wp2
        go_loopw [7] (fun s7 wr => ∃ (i : Nat), s7 = .int .i64 (i : Int) ∧ i ≤ n ∧ (∀ x ∈ Cs.take i, x.ok k) ∧ Below w.heap.size w wr) (fun s7 _ => n - (intOf s7).toNat)
        case atStart => exact ⟨0, rfl, Nat.zero_le _, by simp, HB.out⟩
        case round =>
          obtain ⟨wo, rfl⟩ : ∃ x, x = wr := ⟨_, rfl⟩
          clear HB HE
          obtain ⟨i, rfl, hin, hE, hB⟩ := hrel
          have HE := Lib.hid hE
          have HB := Lib.hid hB
          clear hE hB
          by_cases hli : i < n
          · have hki : (i : Int) < n := by omega
            have hk0 : (0 : Int) ≤ (i : Int) := by omega
            obtain ⟨b, off, rfl, hbl, hc⟩ := HA.out (by omega)
            have hic : i < Cs.length := by rw [HL.out]; exact hli
            obtain ⟨c0, c1, c2⟩ := hc wo HB.out i hic
            obtain ⟨x, hxe⟩ : ∃ x, Cs[i] = x := ⟨_, rfl⟩
            have HXE := Lib.hid hxe
            have HXI := Lib.hid (HI.out x (by rw [← hxe]; exact List.getElem_mem hic))
            rw [hxe] at c0 c1 c2
            clear hc hbl hxe
            obtain ⟨cc, AA, nn, cp, L, ee⟩ := x
            simp only at c0 c1 c2
            have HIX := Lib.hid (show Ivs w AA nn L from HXI.out)
            have HLL := Lib.hid (show L.length = nn from HXI.out.len)
            obtain ⟨X, hX⟩ : ∃ W, W = wo.alloc (.cells #[.int .i64 cc, .slice AA nn cp] 56) := ⟨_, rfl⟩
            have X8 := Lib.hid (show Blk X wo.heap.size 56 #[.int .i64 cc, .slice AA nn cp] by rw [hX]; exact Blk.new _ _ _)
            have XB := Lib.hid (show Below w.heap.size w X by rw [hX]; exact HB.out.alloc HB.out.size _)
            have g0 : X.cell? ⟨wo.heap.size, 0, none⟩ = some (.int .i64 cc) := X8.out.cell 0
            have g1 : X.cell? ⟨wo.heap.size, 1, none⟩ = some (.slice AA nn cp) := X8.out.cell 1
            go_upto_region 13 with fail
            rw [← hX]
            clear hX c0 c1 c2
            by_cases q0 : cc < -1099511627776
            · go_wp2
              go_ret
              exact ⟨⟨_, rfl, nofun⟩, by first | exact XB.out | exact below_drew XB.out | exact XB.out.drewN _ | exact below_drewN XB.out⟩
            · by_cases q1 : 1099511627776 < cc
              · go_wp2
                go_ret
                exact ⟨⟨_, rfl, nofun⟩, by first | exact XB.out | exact below_drew XB.out | exact XB.out.drewN _ | exact below_drewN XB.out⟩
              · go_wp2
                clear g0 g1
                go_loopw [9] (fun s9 wr => ∃ (j : Nat), s9 = .int .i64 (j : Int) ∧ j ≤ nn ∧ CoG k L j ∧ Blk wr wo.heap.size 56 #[.int .i64 cc, .slice AA nn cp] ∧ Below w.heap.size w wr) (fun s9 _ => nn - (intOf s9).toNat)
                case atStart => exact ⟨0, rfl, Nat.zero_le _, coG_zero _ _, X8.out, XB.out⟩
                case round =>
                  obtain ⟨j, rfl, hjn, hG, hK, hB⟩ := hrel
                  have HG := Lib.hid hG
                  have HK := Lib.hid hK
                  have HBJ := Lib.hid hB
                  have hjm : j ≤ k := coG_le hG (by rw [HLL.out]; exact hjn)
                  have g0 : wr.cell? ⟨wo.heap.size, 0, none⟩ = some (.int .i64 cc) := hK.cell 0
                  have g1 : wr.cell? ⟨wo.heap.size, 1, none⟩ = some (.slice AA nn cp) := hK.cell 1
                  clear hG hK hB X8 XB
                  by_cases hlt : j < nn
                  · have hkj : (j : Int) < nn := by omega
                    have hj0 : (0 : Int) ≤ (j : Int) := by omega
                    obtain ⟨ba, offa, rfl, hbl, hc⟩ := HIX.out.at (by omega)
                    have hi' : j < L.length := by rw [HLL.out]; exact hlt
                    obtain ⟨c0, c1⟩ := hc wr HBJ.out j hi'
                    have HCC := Lib.hid hc
                    obtain ⟨y, hye⟩ : ∃ y, L[j] = y := ⟨_, rfl⟩
                    have HYE := Lib.hid hye
                    rw [hye] at c0 c1
                    clear hc hbl hye
                    obtain ⟨y0, y1⟩ := y
                    simp only at c0 c1
                    obtain ⟨Y, hY⟩ : ∃ W, W = wr.alloc (.cells #[.int .i64 y0, .int .i64 y1] 61) := ⟨_, rfl⟩
                    have Y8 := Lib.hid (show Blk Y wr.heap.size 61 #[.int .i64 y0, .int .i64 y1] by rw [hY]; exact Blk.new _ _ _)
                    have YK := Lib.hid (show Blk Y wo.heap.size 56 #[.int .i64 cc, .slice (some ⟨ba, offa, none⟩) nn cp] by rw [hY]; exact HK.out.alloc _)
                    have YB := Lib.hid (show Below w.heap.size w Y by rw [hY]; exact HBJ.out.alloc HBJ.out.size _)
                    go_upto_region 19 with fail
                    rw [← hY]
                    clear hY g0 g1 c0 c1
                    have g0 : Y.cell? ⟨wo.heap.size, 0, none⟩ = some (.int .i64 cc) := YK.out.cell 0
                    have g1 : Y.cell? ⟨wo.heap.size, 1, none⟩ = some (.slice (some ⟨ba, offa, none⟩) nn cp) := YK.out.cell 1
                    have g2 : Y.cell? ⟨wr.heap.size, 0, none⟩ = some (.int .i64 y0) := Y8.out.cell 0
                    have g3 : Y.cell? ⟨wr.heap.size, 1, none⟩ = some (.int .i64 y1) := Y8.out.cell 1
                    rcases j with _ | p
                    · by_cases q2 : y0 < 0
                      · go_quiet (fail)
                        go_wp2
                        go_ret
                        exact ⟨⟨_, rfl, nofun⟩, by first | exact YB.out | exact below_drew YB.out | exact YB.out.drewN _ | exact below_drewN YB.out⟩
                      · by_cases q3 : (k : Int) ≤ y0
                        · go_quiet (fail)
                          go_wp2
                          go_ret
                          exact ⟨⟨_, rfl, nofun⟩, by first | exact YB.out | exact below_drew YB.out | exact YB.out.drewN _ | exact below_drewN YB.out⟩
                        · by_cases q5 : y1 < -1048576
                          · go_quiet (fail)
                            go_wp2
                            go_ret
                            exact ⟨⟨_, rfl, nofun⟩, by first | exact YB.out | exact below_drew YB.out | exact YB.out.drewN _ | exact below_drewN YB.out⟩
                          · by_cases q6 : 1048576 < y1
                            · go_quiet (fail)
                              go_wp2
                              go_ret
                              exact ⟨⟨_, rfl, nofun⟩, by first | exact YB.out | exact below_drew YB.out | exact YB.out.drewN _ | exact below_drewN YB.out⟩
                            · have HQ := Lib.hid (coG_step HG.out hi' (by rw [HYE.out]; show ((0 : Nat) : Int) ≤ y0; omega) (by rw [HYE.out]; show y0 < k; omega) (by rw [HYE.out]; show -1048576 ≤ y1 ∧ y1 ≤ 1048576; omega))
                              go_quiet (fail)
                              go_wp2
                              go_roundw
                              case rel => exact ⟨0 + 1, by go_num, hlt, HQ.out, by first | exact YK.out | exact YK.out.drew | exact Blk.below (below_drew (Below.refl _ _)) YK.out | exact Blk.below (below_drewN (Below.refl _ _)) YK.out, by first | exact YB.out | exact below_drew YB.out | exact YB.out.drewN _ | exact below_drewN YB.out⟩
                              case measure => simp only [intOf]; omega
                    · have hp1 : (0 : Int) < (p : Int) + 1 := by omega
                      have hp0 : (0 : Int) ≤ (p : Int) := by omega
                      have hpn : (p : Int) < nn := by omega
                      have hpb : (p : Int) ≤ 64 := by omega
                      obtain ⟨pc, -⟩ := HCC.out Y YB.out p (by omega)
                      obtain ⟨pe, hpe⟩ : ∃ y, L[p]'(by omega) = y := ⟨_, rfl⟩
                      have HPE := Lib.hid hpe
                      rw [hpe] at pc
                      clear hpe
                      obtain ⟨p0, p1⟩ := pe
                      simp only at pc
                      by_cases q2 : y0 < 0
                      · go_quiet (fail)
                        go_wp2
                        go_ret
                        exact ⟨⟨_, rfl, nofun⟩, by first | exact YB.out | exact below_drew YB.out | exact YB.out.drewN _ | exact below_drewN YB.out⟩
                      · by_cases q3 : (k : Int) ≤ y0
                        · go_quiet (fail)
                          go_wp2
                          go_ret
                          exact ⟨⟨_, rfl, nofun⟩, by first | exact YB.out | exact below_drew YB.out | exact YB.out.drewN _ | exact below_drewN YB.out⟩
                        · by_cases q4 : y0 ≤ p0
                          · go_quiet (fail)
                            go_wp2
                            go_ret
                            exact ⟨⟨_, rfl, nofun⟩, by first | exact YB.out | exact below_drew YB.out | exact YB.out.drewN _ | exact below_drewN YB.out⟩
                          · by_cases q5 : y1 < -1048576
                            · go_quiet (fail)
                              go_wp2
                              go_ret
                              exact ⟨⟨_, rfl, nofun⟩, by first | exact YB.out | exact below_drew YB.out | exact YB.out.drewN _ | exact below_drewN YB.out⟩
                            · by_cases q6 : 1048576 < y1
                              · go_quiet (fail)
                                go_wp2
                                go_ret
                                exact ⟨⟨_, rfl, nofun⟩, by first | exact YB.out | exact below_drew YB.out | exact YB.out.drewN _ | exact below_drewN YB.out⟩
                              · have HQ := Lib.hid (coG_step HG.out hi' (by rw [HYE.out]; show ((p + 1 : Nat) : Int) ≤ y0; have h := (HG.out p (by omega) (Nat.lt_succ_self p)).1; rw [HPE.out] at h; simp only at h; omega) (by rw [HYE.out]; show y0 < k; omega) (by rw [HYE.out]; show -1048576 ≤ y1 ∧ y1 ≤ 1048576; omega))
                                go_quiet (fail)
                                go_wp2
                                go_roundw
                                case rel => exact ⟨p + 1 + 1, by go_num, hlt, HQ.out, by first | exact YK.out | exact YK.out.drew | exact Blk.below (below_drew (Below.refl _ _)) YK.out | exact Blk.below (below_drewN (Below.refl _ _)) YK.out, by first | exact YB.out | exact below_drew YB.out | exact YB.out.drewN _ | exact below_drewN YB.out⟩
                                case measure => simp only [intOf]; omega
                  · obtain rfl : j = nn := by omega
                    have hlt2 : ¬ ((j : Int) < (j : Int)) := by omega
                    have HQ := Lib.hid (show ∀ x ∈ Cs.take (i + 1), x.ok k from fun x hx => by
                      rw [List.take_succ_eq_append_getElem hic, List.mem_append, List.mem_singleton] at hx
                      rcases hx with h | h
                      · exact HE.out x h
                      · rw [h, HXE.out]
                        refine ⟨?_, ⟨?_, ?_⟩, ?_⟩
                        · show j ≤ 64; omega
                        · show -1099511627776 ≤ cc; omega
                        · show cc ≤ 1099511627776; omega
                        · show ∀ y ∈ L, CfOk k y
                          refine coG_ok ?_
                          rw [HLL.out]
                          exact HG.out)
                    go_wp2
                    go_roundw
                    case rel => exact ⟨i + 1, by go_num, hli, HQ.out, HBJ.out⟩
                    case measure => simp only [intOf]; omega
          · obtain rfl : i = n := by omega
            have hlt2 : ¬ ((i : Int) < (i : Int)) := by omega
            have HF := Lib.hid (show GoodP Cs R by
              have h := HE.out
              rw [List.take_of_length_le (by rw [HL.out]; exact Nat.le_refl _)] at h
              exact ⟨by rw [HM.out]; exact hmN, HRB.out, by rw [HM.out]; exact h⟩)
            go_wp2
            go_ret
            exact ⟨⟨_, rfl, fun _ => HF.out⟩, HB.out⟩
  · have hm2 : (64 : Int) < m := by omega
    go_enter Try.func41, Try.ntmps41
    go_wp2
    go_ret
    exact ⟨⟨_, rfl, nofun⟩, Below.refl _ _⟩
set_option maxRecDepth 100000 in
set_option maxHeartbeats 2000000 in
theorem good_any (A : Option Addr) (n cap : Nat) (Cs : List Cn) (D : Option Addr) (m cap2 : Nat) (R : List Iv) (w : World) (h : Cns w A n Cs) (h2 : Ivs w D m R) :
    Calls Try.prog 26 #[.agg #[.slice A n cap, .slice D m cap2]] w fun e w' => GdP e (n ≤ 20 ∧ GoodP Cs R) ∧ Below w.heap.size w w' := by
  obtain ⟨X, hX⟩ : ∃ W, W = w.alloc (.cells #[.slice A n cap, .slice D m cap2] 45) := ⟨_, rfl⟩
  have XK := Lib.hid (show Blk X w.heap.size 45 #[.slice A n cap, .slice D m cap2] by rw [hX]; exact Blk.new _ _ _)
  have hb : Below w.heap.size w X := by rw [hX]; exact (Below.refl _ w).alloc (Nat.le_refl _) _
  have XB := Lib.hid hb
  have HC := Lib.hid (show Cns X A n Cs from ⟨At.below h.1 hb, fun x hx => (h.2 x hx).below hb⟩)
  have HD := Lib.hid (h2.below hb)
  clear h h2 hb
  have g0 : X.cell? ⟨w.heap.size, 0, none⟩ = some (.slice A n cap) := XK.out.cell 0
  have g1 : X.cell? ⟨w.heap.size, 1, none⟩ = some (.slice D m cap2) := XK.out.cell 1
  by_cases hn : (n : Int) ≤ 20
  · have CG := Lib.hid (RGood_any A n cap Cs D m cap2 R X HC.out HD.out (by omega))
    go_enter Try.func26, Try.ntmps26
    go_upto_region 1 with fail
    rw [← hX]
    clear hX
    go_wp2_with fail
    refine CG.out.mono ?_
    rintro e w2 ⟨⟨g, rfl, hg⟩, hb⟩
    have HG := Lib.hid hg
    have HB := Lib.hid (XB.out.trans (hb.mono XB.out.size))
    clear hg hb CG
    go_wp2
    go_ret
    exact ⟨⟨_, rfl, fun e => ⟨by omega, HG.out e⟩⟩, HB.out⟩
  · go_enter Try.func26, Try.ntmps26
    go_upto_region 1 with fail
    rw [← hX]
    clear hX
    go_wp2
    go_ret
    exact ⟨⟨_, rfl, nofun⟩, XB.out⟩
end Go.Proofs.Ytnoddkbpdfimmaa
