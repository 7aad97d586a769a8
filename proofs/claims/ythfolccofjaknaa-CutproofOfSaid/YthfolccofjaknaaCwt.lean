/- How much a proof weighs: what the laws call a small proof. -/
import Derived.Test.YthfolccofjaknaaCbs
namespace Go.Proofs.Ythfolccofjaknaa
open Go.ChangeShapes Go.WideShapes Go.ChangeAt Go.RowKit Go.ChangeMaps

inductive PfR (w : World) (N : Nat) : Pf → Prop
  | mk {sA sn sc S fA fn fc F b kA kn kc K} (h1 : At w sA sn 3 (S.flatMap Sp.cells)) (h2 : ∀ s ∈ S, s.ok w N) (h3 : Bigs w fA fn F N) (h4 : b.ok w N) (h5 : At w kA kn 5 (K.flatMap Pf.cells)) (h7 : sn ≤ 9223372036854775807 ∧ kn ≤ 9223372036854775807) (h6 : ∀ k ∈ K, PfR w N k) : PfR w N (.mk sA sn sc S fA fn fc F b kA kn kc K)
theorem PfR.keep {w w' : World} {N : Nat} (hb : Below w.heap.size w w') {p : Pf} (h : PfR w N p) : PfR w' N p := by
  induction h with
  | mk h1 h2 h3 h4 h5 h7 h6 ih => exact .mk (At.below h1 hb) (fun s hs => (h2 s hs).below hb) (h3.below hb) (h4.below hb) (At.below h5 hb) h7 ih
inductive PfSm : Pf → Prop
  | mk {sA sn sc S fA fn fc F b kA kn kc K} (h1 : smB F = true) (h2 : b.n ≤ 4) (h3 : ∀ s ∈ S, smU s.U s.d = true) (h4 : ∀ k ∈ K, PfSm k) : PfSm (.mk sA sn sc S fA fn fc F b kA kn kc K)
def pfN : Pf → Nat
  | .mk _ _ _ S _ _ _ _ _ _ _ _ K => 1 + S.length + (K.attach.map fun k => pfN k.1).sum
decreasing_by
  have := List.sizeOf_lt_of_mem k.2
  simp only [Pf.mk.sizeOf_spec]
  omega
theorem pfN_eq (sA : Option Addr) (sn sc : Nat) (S : List Sp) (fA : Option Addr) (fn fc : Nat) (F : List Bg) (b : Bg) (kA : Option Addr) (kn kc : Nat) (K : List Pf) : pfN (.mk sA sn sc S fA fn fc F b kA kn kc K) = 1 + S.length + (K.map pfN).sum := by
  rw [pfN]
  congr 1
  rw [List.map_attach_eq_pmap]
  simp
theorem Bigs.small {w : World} {A : Option Addr} {n N : Nat} {L : List Bg} (h : Bigs w A n L N) (hs : smB L = true) : Bigs w A n L 4 ∧ n ≤ 6 := by
  unfold smB at hs
  simp only [Bool.and_eq_true, List.all_eq_true, decide_eq_true_eq] at hs
  exact ⟨⟨h.1, h.2.1, fun b hb => (h.2.2 b hb).small (hs.1 b hb)⟩, by have := h.len; omega⟩
theorem Sp.ok.small {w : World} {N : Nat} {s : Sp} (h : s.ok w N) (hs : smU s.U s.d = true) : s.ok w 4 ∧ s.n ≤ 12 := by
  unfold smU at hs
  simp only [Bool.and_eq_true, List.all_eq_true, decide_eq_true_eq] at hs
  exact ⟨⟨⟨h.1.1, h.1.2.1, fun u hu => (h.1.2.2 u hu).small (hs.1 u hu)⟩, h.2.small hs.2.2⟩, by have := h.1.len; omega⟩
theorem Ineqs.small {w : World} {A : Option Addr} {n N : Nat} {Q : List Iq} (h : Ineqs w A n Q N) (hs : smQ Q = true) : Ineqs w A n Q 4 ∧ n ≤ 12 ∧ ∀ q ∈ Q, q.n ≤ 6 := by
  unfold smQ at hs
  simp only [Bool.and_eq_true, List.all_eq_true, decide_eq_true_eq] at hs
  refine ⟨⟨h.1, h.2.1, fun q hq => ?_⟩, by have := h.len; omega, fun q hq => ?_⟩
  · exact ⟨((h.2.2 q hq).1.small (hs.1 q hq).1).1, (h.2.2 q hq).2.small (hs.1 q hq).2⟩
  · exact ((h.2.2 q hq).1.small (hs.1 q hq).1).2
theorem PfR.small {w : World} {N : Nat} {p : Pf} (h : PfR w N p) (hs : PfSm p) : p.ok w 4 := by
  induction h with
  | mk h1 h2 h3 h4 h5 h7 h6 ih =>
    cases hs with
    | mk g1 g2 g3 g4 =>
      exact .mk h1 (fun s hs => ((h2 s hs).small (g3 s hs)).1) (h3.small g1).1 (h4.small g2) h5 ⟨h7.1, h7.2, by have := (h3.small g1).2; omega, fun s hs => by have := ((h2 s hs).small (g3 s hs)).2; omega⟩ (fun k hk => ih k hk (g4 k hk))
def WtP (w : World) (p : Pf) (e : Ending) (w' : World) : Prop := ∃ k : Nat, e = .returned (.int .i64 (k : Int)) ∧ k ≤ 101 * pfN p ∧ (k ≤ 100 → PfSm p ∧ sizeP p.m ≤ k) ∧ Below w.heap.size w w'
theorem pf_lt' {sA : Option Addr} {sn sc : Nat} {S : List Sp} {fA : Option Addr} {fn fc : Nat} {F : List Bg} {b : Bg} {kA : Option Addr} {kn kc : Nat} {K : List Pf} {k : Pf} (hk : k ∈ K) : SizeOf.sizeOf k < SizeOf.sizeOf (Pf.mk sA sn sc S fA fn fc F b kA kn kc K) := by
  have := List.sizeOf_lt_of_mem hk
  simp only [Pf.mk.sizeOf_spec]
  omega
set_option maxRecDepth 100000 in
set_option maxHeartbeats 4000000 in
theorem weight_upto : ∀ (M : Nat) (p : Pf), SizeOf.sizeOf p ≤ M → ∀ (w : World) (N : Nat), PfR w N p → pfN p ≤ 1048576 → Calls Try.prog 55 #[p.val] w (WtP w p) := by
  intro M
  induction M with
  | zero => intro p hp; cases p; simp only [Pf.mk.sizeOf_spec] at hp; omega
  | succ M ih =>
    intro p hp w N hok hsz
    cases hok with
    | @mk sA sn sc S fA fn fc F b kA kn kc K h1 h2 h3 h4 h5 h7 h6 =>
      rw [pfN_eq] at hsz
      have hSl : S.length = sn := by
        have := h1.1
        rw [flat_len Sp.cells 3 (fun _ => rfl)] at this
        omega
      have hKl := kids_len h5
      have HSL := Lib.hid hSl
      have HKL := Lib.hid hKl
      rw [hSl] at hsz
      obtain ⟨tot, htot⟩ : ∃ t, (K.map pfN).sum = t := ⟨_, rfl⟩
      have HTOT := Lib.hid htot
      rw [htot] at hsz
      have HPN := Lib.hid (show pfN (.mk sA sn sc S fA fn fc F b kA kn kc K) = 1 + sn + tot by rw [pfN_eq, hSl, htot])
      have HIH := Lib.hid (show ∀ k ∈ K, ∀ (W : World), Below w.heap.size w W → Calls Try.prog 55 #[k.val] W (WtP W k) from fun k hk W hW => ih k (by have := pf_lt' (sA := sA) (sn := sn) (sc := sc) (S := S) (fA := fA) (fn := fn) (fc := fc) (F := F) (b := b) (kA := kA) (kn := kn) (kc := kc) hk; omega) W N ((h6 k hk).keep hW) (by
        have : pfN k ≤ (K.map pfN).sum := mem_sum pfN K k hk
        omega))
      have HS := Lib.hid h1
      have HSO := Lib.hid h2
      have HF := Lib.hid h3
      have HK := Lib.hid h5
      have hkn := h7.2
      have hsn := h7.1
      unfold Pf.val Pf.cells
      dsimp only
      obtain ⟨pr, hpr⟩ : ∃ x, x = Pf.mk sA sn sc S fA fn fc F b kA kn kc K := ⟨_, rfl⟩
      rw [← hpr] at HPN ⊢
      have HPR := Lib.hid hpr
      have HFIN := Lib.hid (show smB F = true → b.n ≤ 4 → (∀ s ∈ S, smU s.U s.d = true) → (∀ k ∈ K, PfSm k) → ∀ c, 1 + sn + (K.map (sizeP ∘ Pf.m)).sum ≤ c → PfSm pr ∧ sizeP pr.m ≤ c from fun g1 g2 g3 g4 c hc => by
        rw [hpr]
        refine ⟨.mk g1 g2 g3 g4, ?_⟩
        rw [Pf.m_eq, sizeP_eq, List.length_map, List.length_map, List.map_map, hSl]
        split <;> omega)
      clear hpr
      obtain ⟨kx, hkx⟩ : ∃ kx, kx = w.heap.size := ⟨_, rfl⟩
      obtain ⟨W1, hW1⟩ : ∃ W1, W1 = w.alloc (.cells #[.slice sA sn sc, .slice fA fn fc, .bool b.neg, .slice b.A b.n b.c, .slice kA kn kc] 52) := ⟨_, rfl⟩
      have HB1 := Lib.hid (show Below w.heap.size w W1 by rw [hW1]; exact (Below.refl _ _).alloc (Nat.le_refl _) _)
      have KX := Lib.hid (show Blk W1 kx 52 #[.slice sA sn sc, .slice fA fn fc, .bool b.neg, .slice b.A b.n b.c, .slice kA kn kc] by rw [hW1]; exact Blk.new_ hkx rfl)
      have c0 : W1.cell? ⟨kx, 0, none⟩ = some (.slice sA sn sc) := KX.out.cell 0
      have c1 : W1.cell? ⟨kx, 1, none⟩ = some (.slice fA fn fc) := KX.out.cell 1
      have CS := Lib.hid (bigs_any W1 fA fn fc F N (HF.out.below HB1.out))
      obtain ⟨sb, hsb⟩ : ∃ y, smB F = y := ⟨_, rfl⟩
      rw [hsb] at CS
      have HSB := Lib.hid hsb
      have hw1 : IntKind.i64.wrap (1 + (sn : Int)) = 1 + (sn : Int) := IntWalk.i64_in _ (by omega)
      clear h1 h2 h3 h4 h5 h6 h7 hp ih htot hsb
      go_enter Try.func55, Try.ntmps55
      go_upto_region 1 with fail
      rw [← hkx, ← hW1]
      clear hkx hW1
      go_wp2_with fail
      clear c0 c1
      refine CS.out.mono ?_
      rintro e2 w2 ⟨rfl, hb2⟩
      have HB2 := Lib.hid (HB1.out.trans (hb2.mono HB1.out.size))
      have KX2 := Lib.hid (KX.out.below hb2)
      clear hb2 CS KX HB1
      have H101 := Lib.hid (show (101 : Nat) ≤ 101 * pfN pr by rw [HPN.out]; omega)
      cases sb with
      | false =>
        clear hw1
        go_wp2
        go_ret
        exact ⟨101, rfl, H101.out, fun h => absurd h (by decide), HB2.out⟩
      | true =>
        have c3 : w2.cell? ⟨kx, 3, none⟩ = some (.slice b.A b.n b.c) := KX2.out.cell 3
        by_cases hb4 : b.n ≤ 4
        case neg =>
          have h4i : (b.n : Int) > 4 := by omega
          go_wp2
          go_ret
          exact ⟨101, rfl, H101.out, fun h => absurd h (by decide), HB2.out⟩
        have h4i : ¬ ((b.n : Int) > 4) := by omega
        have HB4 := Lib.hid hb4
        have c0 : w2.cell? ⟨kx, 0, none⟩ = some (.slice sA sn sc) := KX2.out.cell 0
        have c4 : w2.cell? ⟨kx, 4, none⟩ = some (.slice kA kn kc) := KX2.out.cell 4
        clear hb4
        by_cases h100 : 1 + sn ≤ 100
        case neg =>
          have h1i : ¬ (1 + (sn : Int) ≤ 100) := by omega
          have HSN := Lib.hid (show 1 + sn ≤ 101 * pfN pr by rw [HPN.out]; omega)
          have HBIG := Lib.hid h100
          have h0s : (0 : Int) < (sn : Int) := by omega
          clear h100
          go_wp2
          clear c3 h4i
          go_loopw [4] (fun s4 wr => s4 = .int .i64 0 ∧ wr = w2) (fun _ _ => 0)
          case atStart => exact ⟨rfl, rfl⟩
          case round =>
            obtain ⟨rfl, hwr⟩ := hrel
            replace hwr := hwr.symm
            subst hwr
            go_wp2
            go_loopw [3, 5] (fun s3 s5 wr => s3 = .int .i64 (1 + (sn : Int)) ∧ s5 = .int .i64 0 ∧ wr = w2) (fun _ _ _ => 0)
            case atStart => exact ⟨rfl, rfl, rfl⟩
            case round =>
              obtain ⟨rfl, rfl, hwr⟩ := hrel
              replace hwr := hwr.symm
              subst hwr
              by_cases hk0 : kn = 0
              · have hk1 : ¬ ((0 : Int) < (kn : Int)) := by omega
                clear hk0
                go_wp2
                go_ret
                exact ⟨1 + sn, by go_num, HSN.out, fun h => absurd h HBIG.out, HB2.out⟩
              · have hk1 : (0 : Int) < (kn : Int) := by omega
                clear hk0
                go_wp2
                go_ret
                exact ⟨1 + sn, by go_num, HSN.out, fun h => absurd h HBIG.out, HB2.out⟩
        have h1i : 1 + (sn : Int) ≤ 100 := by omega
        have HN := Lib.hid h100
        clear h100
        go_wp2
        clear c3 h4i c0 c4 hw1
        go_loopw [4] (fun s4 wr => ∃ k : Nat, s4 = .int .i64 (k : Int) ∧ k ≤ sn ∧ (∀ s ∈ S.take k, smU s.U s.d = true) ∧ Below w2.heap.size w2 wr) (fun s4 _ => sn - (intOf s4).toNat)
        case atStart => exact ⟨0, rfl, Nat.zero_le _, fun s hs => (by simp at hs), Below.refl _ _⟩
        case round =>
          obtain ⟨k, rfl, hkn', hall, hB⟩ := hrel
          generalize wr = X0 at *
          have HALL := Lib.hid hall
          have HBX := Lib.hid hB
          have HB := Lib.hid (HB2.out.trans (hB.mono HB2.out.size))
          have c0 : X0.cell? ⟨kx, 0, none⟩ = some (.slice sA sn sc) := (KX2.out.below hB).cell 0
          clear hall hB
          by_cases hlt : k < sn
          · have hki : (k : Int) < (sn : Int) := by omega
            have hk0 : (0 : Int) ≤ (k : Int) := by omega
            have hkL : k < S.length := by rw [HSL.out]; exact hlt
            obtain ⟨bA, off, rfl, -, hc⟩ := at3 (fun _ => rfl) HS.out (show 0 < sn by omega)
            obtain ⟨d0, d1, d2⟩ := hc X0 HB.out k hkL _ _ _ rfl
            have HST := Lib.hid (show S.take (k + 1) = S.take k ++ [S[k]] from List.take_succ_eq_append_getElem hkL)
            have CS := Lib.hid (SmallStep_any X0 S[k] N ((HSO.out _ (List.getElem_mem hkL)).below HB.out))
            clear hc
            generalize S[k] = x at *
            obtain ⟨sb, hsb⟩ : ∃ y, smU x.U x.d = y := ⟨_, rfl⟩
            rw [hsb] at CS
            have HSM := Lib.hid hsb
            unfold Sp.val at CS
            clear hsb
            go_wp2_with fail
            clear d0 d1 d2 c0
            refine CS.out.mono ?_
            rintro e3 w3 ⟨rfl, hb3⟩
            have HB3 := Lib.hid (HB.out.trans (hb3.mono HB.out.size))
            have HBX3 := Lib.hid (HBX.out.trans (hb3.mono HBX.out.size))
            clear hb3 CS
            cases sb with
            | false =>
              go_wp2
              go_ret
              exact ⟨101, rfl, H101.out, fun h => absurd h (by decide), HB3.out⟩
            | true =>
              go_wp2
              go_roundw
              case rel => exact ⟨k + 1, by go_num, hlt, fun s hs => by
                rw [HST.out] at hs
                rcases List.mem_append.1 hs with hs | hs
                · exact HALL.out s hs
                · rw [List.mem_singleton.1 hs]; exact HSM.out, HBX3.out⟩
              case measure => simp [intOf]; omega
          · obtain rfl : k = sn := by omega
            have hlt2 : ¬ ((k : Int) < (k : Int)) := by omega
            have HALLS := Lib.hid (show ∀ s ∈ S, smU s.U s.d = true by
              have := HALL.out
              rw [List.take_of_length_le (by rw [HSL.out]; exact Nat.le_refl _)] at this
              exact this)
            have KX3 := Lib.hid (KX2.out.below HBX.out)
            clear HALL
            go_wp2
            clear c0
            go_loopw [3, 5] (fun s3 s5 wr => ∃ (j c : Nat), s3 = .int .i64 (c : Int) ∧ s5 = .int .i64 (j : Int) ∧ j ≤ kn ∧ c ≤ 101 * (1 + k + ((K.map pfN).take j).sum) ∧ (c ≤ 100 → (∀ x ∈ K.take j, PfSm x) ∧ 1 + k + ((K.map (sizeP ∘ Pf.m)).take j).sum ≤ c) ∧ Below X0.heap.size X0 wr) (fun _ s5 _ => kn - (intOf s5).toNat)
            case atStart => exact ⟨0, 1 + k, by go_num, rfl, Nat.zero_le _, by simp; omega, fun _ => ⟨fun x hx => by simp at hx, by simp⟩, Below.refl _ _⟩
            case round =>
              obtain ⟨j, c, rfl, rfl, hjk, hcb, hcs, hB⟩ := hrel
              generalize wr = Y0 at *
              have HCS := Lib.hid hcs
              have HBY := Lib.hid hB
              have HB5 := Lib.hid (HB.out.trans (hB.mono HB.out.size))
              have c4 : Y0.cell? ⟨kx, 4, none⟩ = some (.slice kA kn kc) := (KX3.out.below hB).cell 4
              have hle := sum_le pfN K j
              rw [HTOT.out] at hle
              have HCB := Lib.hid hcb
              have hcM : c ≤ 110000000 := by omega
              have HCT := Lib.hid (show c ≤ 101 * pfN pr by rw [HPN.out]; omega)
              clear hcs hB hcb hle
              by_cases hlt : j < kn
              · have hji : (j : Int) < (kn : Int) := by omega
                by_cases hc1 : c ≤ 100
                · have hci : (c : Int) ≤ 100 := by omega
                  have hj0 : (0 : Int) ≤ (j : Int) := by omega
                  have hjL : j < K.length := by rw [HKL.out]; exact hlt
                  obtain ⟨bA, off, rfl, -, hc⟩ := at5 Pf.cells_len HK.out (show 0 < kn by omega)
                  have HST := Lib.hid (sum_take (sizeP ∘ Pf.m) hjL)
                  have HSP := Lib.hid (sum_take pfN hjL)
                  have hle := sum_le pfN K (j + 1)
                  rw [HTOT.out, HSP.out] at hle
                  have HLE := Lib.hid hle
                  have HTK := Lib.hid (show K.take (j + 1) = K.take j ++ [K[j]] from List.take_succ_eq_append_getElem hjL)
                  have HC := Lib.hid (HIH.out K[j] (List.getElem_mem hjL))
                  have HCC := Lib.hid (fun x0 x1 x2 x3 x4 => hc Y0 HB5.out j hjL x0 x1 x2 x3 x4)
                  clear hc hle
                  generalize K[j] = ch at *
                  have HCH := Lib.hid (HC.out Y0 HB5.out)
                  obtain ⟨x0, x1, x2, x3, x4, hx⟩ : ∃ x0 x1 x2 x3 x4, ch.cells = [x0, x1, x2, x3, x4] := by cases ch; exact ⟨_, _, _, _, _, rfl⟩
                  unfold Pf.val at HCH
                  rw [hx] at HCH
                  obtain ⟨e0, e1, e2, e3, e4⟩ := HCC.out _ _ _ _ _ hx
                  have HC1 := Lib.hid hc1
                  clear hx HC HCC hc1
                  go_wp2_with fail
                  clear e0 e1 e2 e3 e4 c4
                  refine HCH.out.mono ?_
                  rintro e6 w6 ⟨d, rfl, hd1, hd2, hb6⟩
                  have HB6 := Lib.hid (HB5.out.trans (hb6.mono HB5.out.size))
                  have HBY6 := Lib.hid (HBY.out.trans (hb6.mono HBY.out.size))
                  have HD1 := Lib.hid hd1
                  have HD2 := Lib.hid hd2
                  have hdM : d ≤ 110000000 := by have := HLE.out; omega
                  have hws : IntKind.i64.wrap ((c : Int) + (d : Int)) = (c : Int) + (d : Int) := IntWalk.i64_in _ (by omega)
                  clear hb6 hd1 hd2 HCH
                  go_wp2
                  go_roundw
                  case rel => exact ⟨j + 1, c + d, by go_num, by go_num, hlt, by rw [HSP.out]; have h1 := HCB.out; have h2 := HD1.out; omega, fun hcd => by
                    obtain ⟨g1, g2⟩ := HCS.out (by omega)
                    obtain ⟨g3, g4⟩ := HD2.out (by omega)
                    refine ⟨fun x hx => ?_, by rw [HST.out]; simp only [Function.comp] at g2 ⊢; omega⟩
                    rw [HTK.out] at hx
                    rcases List.mem_append.1 hx with hx | hx
                    · exact g1 x hx
                    · rw [List.mem_singleton.1 hx]; exact g3, HBY6.out⟩
                  case measure => simp [intOf]; omega
                · have hci : ¬ ((c : Int) ≤ 100) := by omega
                  have HBIG := Lib.hid hc1
                  clear hc1
                  go_wp2
                  go_ret
                  exact ⟨c, rfl, HCT.out, fun h => absurd h HBIG.out, HB5.out⟩
              · obtain rfl : j = kn := by omega
                have hlt3 : ¬ ((j : Int) < (j : Int)) := by omega
                go_wp2
                go_ret
                exact ⟨c, rfl, HCT.out, fun h => by
                  obtain ⟨g1, g2⟩ := HCS.out h
                  rw [List.take_of_length_le (by rw [HKL.out]; exact Nat.le_refl _)] at g1
                  rw [List.take_of_length_le (by rw [List.length_map, HKL.out]; exact Nat.le_refl _)] at g2
                  exact HFIN.out HSB.out HB4.out HALLS.out g1 c g2, HB5.out⟩
theorem weight_any (w : World) (p : Pf) (N : Nat) (h : PfR w N p) (hs : pfN p ≤ 1048576) : Calls Try.prog 55 #[p.val] w (WtP w p) := weight_upto _ p (Nat.le_refl _) w N h hs
def SmPf (w : World) (p : Pf) (e : Ending) (w' : World) : Prop := ∃ r : Bool, e = .returned (.bool r) ∧ (r = true → PfSm p ∧ sizeP p.m ≤ 40) ∧ Below w.heap.size w w'
set_option maxRecDepth 100000 in
set_option maxHeartbeats 2000000 in
theorem SmallProof_any (w : World) (p : Pf) (N : Nat) (h : PfR w N p) (hs : pfN p ≤ 1048576) : Calls Try.prog 22 #[p.val] w (SmPf w p) := by
  obtain ⟨x0, x1, x2, x3, x4, hx⟩ : ∃ x0 x1 x2 x3 x4, p.cells = [x0, x1, x2, x3, x4] := by cases p; exact ⟨_, _, _, _, _, rfl⟩
  have h1c : ∀ x ∈ p.cells, x.oneCell' = true := by
    cases p
    unfold Pf.cells
    intro x hx
    simp only [List.mem_cons, List.not_mem_nil, or_false] at hx
    rcases hx with rfl | rfl | rfl | rfl | rfl <;> rfl
  rw [hx] at h1c
  have HONE := Lib.hid h1c
  obtain ⟨kx, hkx⟩ : ∃ kx, kx = w.heap.size := ⟨_, rfl⟩
  obtain ⟨W1, hW1⟩ : ∃ W1, W1 = w.alloc (.cells #[x0, x1, x2, x3, x4] 52) := ⟨_, rfl⟩
  have HB1 := Lib.hid (show Below w.heap.size w W1 by rw [hW1]; exact (Below.refl _ _).alloc (Nat.le_refl _) _)
  have KX := Lib.hid (show Blk W1 kx 52 #[x0, x1, x2, x3, x4] by rw [hW1]; exact Blk.new_ hkx rfl)
  have CS := Lib.hid (weight_any W1 p N (h.keep HB1.out) hs)
  have HM := Lib.hid hs
  unfold Pf.val at CS ⊢
  rw [hx] at CS ⊢
  clear h hs hx h1c
  have c0 : W1.cell? ⟨kx, 0, none⟩ = some x0 := KX.out.cell 0
  have c1 : W1.cell? ⟨kx, 1, none⟩ = some x1 := KX.out.cell 1
  have c2 : W1.cell? ⟨kx, 2, none⟩ = some x2 := KX.out.cell 2
  have c3 : W1.cell? ⟨kx, 3, none⟩ = some x3 := KX.out.cell 3
  have c4 : W1.cell? ⟨kx, 4, none⟩ = some x4 := KX.out.cell 4
  go_enter Try.func22, Try.ntmps22
  go_upto_region 1 with fail
  rw [← hkx, ← hW1]
  clear hkx hW1
  go_wp2_with fail
  clear c0 c1 c2 c3 c4
  refine CS.out.mono ?_
  rintro e2 w2 ⟨k, rfl, -, hk, hb⟩
  have HB2 := Lib.hid (HB1.out.trans (hb.mono HB1.out.size))
  have HK := Lib.hid hk
  clear hk hb CS
  by_cases h40 : k ≤ 40
  · have h40i : (k : Int) ≤ 40 := by omega
    have H40 := Lib.hid h40
    clear h40
    go_wp2
    go_ret
    exact ⟨true, rfl, fun _ => by have h4 := H40.out; obtain ⟨g1, g2⟩ := HK.out (by omega); exact ⟨g1, by omega⟩, HB2.out⟩
  · have h40i : ¬ ((k : Int) ≤ 40) := by omega
    clear h40
    go_wp2
    go_ret
    exact ⟨false, by show Ending.returned (.bool (decide ((k : Int) ≤ 40))) = _; rw [decide_eq_false (by omega)], fun h => absurd h (by decide), HB2.out⟩
end Go.Proofs.Ythfolccofjaknaa
