/- Bound, where there is a solution: the walk. -/
import Derived.Test.YtbmofagaammgmaaDbh
import Derived.Test.YtbmofagaammgmaaDsw
import Derived.Test.YtbmofagaammgmaaDsa
namespace Go.Proofs.Ytbmofagaammgmaa
open Go.ChangeShapes Go.WideShapes Go.ChangeAt Go.RowKit Go.ChangeMaps

def bdA (o : Option Int) : Value := .tuple #[.int .i64 (o.getD 0), .bool o.isSome]
def BdP (s : St) (w : World) (i j : Nat) (e : Ending) (w' : World) : Prop := ∃ F, IsB s.c s.prs j F ∧ e = .returned (bdA (F i)) ∧ Below w.heap.size w w'
theorem zero2 (w : World) : (zeroValue 2).run Try.prog w = .ok (.int .i64 0) w := by kernel_rfl
theorem mg_look {w : World} {b n s : Nat} {F : Nat → Option Int} (h : MG IK w b n s (mpF F)) {v : Nat} (hv : v ≤ 1000) : (Instr.lookup 67 (.map (some b)) (.int .i64 (v : Int)) true).run Try.prog w = .ok (bdA (F v)) w := by
  have hl := h.look_ok Try.underlying67 (zero2 w) (a := (v : Int)) (w64_of (by omega) (by omega))
  rw [mpF_at] at hl
  refine hl.trans ?_
  cases F v <;> rfl
theorem wpList_put67 {b n : Nat} {F : Nat → Option Int} {ops : Array Oper} {rest : List Oper} {o : Oper} {a : Act} {Q : Exit → Act → World → Prop} (w : World) (hg : o.guard = none) (m x v : Operand) (hop : o.op = Op.mapUpdate 67 m x v)
    (hm : a.eval m = .map (some b)) (h : MG IK w b n n (mpF F)) (hn : n < maxLen) (z : Nat) (hz : z ≤ 1000) (hx : a.eval x = .int .i64 (z : Int)) (y : Int) (hv : a.eval v = .int .i64 y) (s' : Nat) (hs : s' = if (F z).isSome then n else n + 1)
    (hK : ∀ w', MG IK w' b s' s' (mpF (pt F z y)) → w.grownBy w' (some b) → wpList Try.prog ops Q rest (a.put o.dst undef) w') :
    wpList Try.prog ops Q (o :: rest) a w := by
  refine wpList_gput (V := IK) w hg m x v hop Try.underlying67 hm h hn (z : Int) (w64_of (by omega) (by omega)) hx _ hv (fun w' h1 h2 => hK w' ?_ h2)
  rw [mpF_put, mpF_at, Option.isSome_map, ← hs] at h1
  exact h1.tight
/-- What stands in a round of Bound. -/
structure BQ (w W : World) (B g n : Nat) (s : St) (mb : Nat) (F : Nat → Option Int) : Prop where
  map : MG IK W mb (sm one F (n + 1)) (sm one F (n + 1)) (mpF F)
  bel : Below w.heap.size w W
theorem BQ.below {w W W' : World} {B g n : Nat} {s : St} {mb : Nat} {F : Nat → Option Int} (h : BQ w W B g n s mb F) (hb : Below W.heap.size W W') : BQ w W' B g n s mb F := ⟨h.map.below hb, h.bel.trans (hb.mono h.bel.size)⟩
set_option maxRecDepth 100000 in
set_option maxHeartbeats 4000000 in
theorem Bound_sat (w : World) (B g n : Nat) (s : St) (h : MX w B g n s) (hsat : Sat s n) (i j : Nat) (hi : i ≤ n) (hj : j ≤ n) : Calls Try.prog 16 #[.pointer (some ⟨g, 0, none⟩), .int .i64 (i : Int), .int .i64 (j : Int)] w (BdP s w i j) := by
  have HMX := Lib.hid h
  obtain ⟨bm, v, M, z, h1, -, -, h4, -, h6⟩ := h.all
  have HMP := Lib.hid h4
  have hn64 := h.n
  have HI := Lib.hid (has_any w g n _ _ _ h1 i)
  have HJ := Lib.hid (has_any w g n _ _ _ h1 j)
  rw [show (decide (0 ≤ (i : Int)) && decide ((i : Int) ≤ (n : Int))) = true by simp; omega] at HI
  rw [show (decide (0 ≤ (j : Int)) && decide ((j : Int) ≤ (n : Int))) = true by simp; omega] at HJ
  have CS := Lib.hid (Sat_sat w B g n s h hsat)
  have HP := Lib.hid (show ∀ p ∈ s.prs, p.1 < n + 1 ∧ p.2 < n + 1 from fun p hp => by
    obtain ⟨q, hq, rfl⟩ := List.mem_map.1 hp
    obtain ⟨⟨a1, a2⟩, a3, a4⟩ := h.ok q hq
    dsimp only
    omega)
  have HC := Lib.hid (show ∀ p ∈ s.prs, -1125899906842624 ≤ s.c p ∧ s.c p ≤ 1125899906842624 from fun p hp => by
    unfold St.c
    cases hf : s.f ((p.1 : Int), (p.2 : Int)) with
    | none => simp
    | some q => have := h.lim _ q hf; exact ⟨this.1, this.2.1⟩)
  have HY := Lib.hid (show ∃ Y : Nat → Int, (∀ v, v < n + 1 → -72057594037927936 ≤ Y v ∧ Y v ≤ 0) ∧ ∀ p ∈ s.prs, Y p.1 ≤ Y p.2 + s.c p from by
    obtain ⟨r, hr, hall⟩ := hsat
    refine ⟨fun v => (xsk s.c s.prs (n + 1) r).getD v 0, fun v hv => ?_, fun p hp => ?_⟩
    · have := xsk_bd HP.out HC.out r v hv
      dsimp only
      omega
    · have h1 := (xsk_ri (c := s.c) HP.out r).bd p hp
      have h2 := hall p.1 (HP.out p hp).1
      have h3 : (xsk s.c s.prs (n + 1) (r + 1)).getD p.1 0 ≤ (xsk s.c s.prs (n + 1) r).getD p.2 0 + s.c p := h1
      dsimp only
      omega)
  obtain ⟨Ap, cp, rfl, hAp, -, -⟩ := At.of_own h6
  have HPR := Lib.hid (show Cfs w Ap s.P.length s.P from hAp)
  have hPl : s.P.length ≤ 100000 := by have := h.len; have := h.a; omega
  have HG := Lib.hid h1
  clear hAp h h1 h4 h6 hsat
  go_enter Try.func16, Try.ntmps16
  go_wp2_with fail
  refine HI.out.mono ?_
  rintro e w1 ⟨rfl, hx⟩
  subst w1
  go_wp2_with fail
  refine HJ.out.mono ?_
  rintro e w1 ⟨rfl, hx⟩
  subst w1
  go_wp2_with fail
  refine CS.out.mono ?_
  rintro e w2 ⟨rfl, hb⟩
  have HB2 := Lib.hid hb
  have hmbw : w.heap.size ≤ w2.heap.size := hb.size
  have HMK := Lib.hid (MG.made (V := IK) w2)
  have HBW2 := Lib.hid (show Below w.heap.size w (w2.alloc (.map #[] 0)) from hb.alloc hb.size _)
  have hjok : IK.ok (j : Int) := w64_of (by omega) (by omega)
  clear hb CS HI HJ
  have hmm := @run_makeMap Try.prog
  go_wp2_with (refine wpList_gins (V := IK) _ rfl _ _ _ rfl Try.underlying67 rfl HMK.out (by unfold maxLen; omega) (j : Int) hjok rfl _ rfl ?_)
  intro w3 hm3 hg3
  rw [mpF_one] at hm3
  have HQ := Lib.hid (show BQ w w3 B g n s w2.heap.size (pt (fun _ => none) j 0) from ⟨by
    have e1 := sm_put (g := one) (F := fun _ => none) (a := 0) (show j < n + 1 by omega)
    have e2 : ∀ N, sm one (fun _ => none) N = 0 := fun N => by
      induction N with
      | zero => rfl
      | succ N ih => unfold sm; rw [ih]; rfl
    rw [e2] at e1
    have e3 : sm one (pt (fun _ => none) j 0) (n + 1) = 1 := e1
    rw [e3]
    exact hm3, HBW2.out.grown hg3 HBW2.out.size (fun k hk => by injection hk with hk; omega)⟩)
  have hmbN : w2.heap.size < w3.heap.size := hm3.lt
  clear hm3 hg3 HMK HBW2 HB2 hmm hjok
  generalize w2.heap.size = mb at *
  have HBR := Lib.hid (show BR w s.c s.prs (n + 1) j mb (sm wt (pt (fun _ => none) j 0) (n + 1) + 1) (.bool true) w3 from ⟨_, true, rfl, BI.start (by omega), HQ.out.map, fun e => (by cases e), Nat.le_refl _, HQ.out.bel⟩)
  clear HQ
  go_wp2
  go_loopw [9] (fun s9 wr => ∃ k, BR w s.c s.prs (n + 1) j mb k s9 wr) (fun s9 wr => leastK (fun k => BR w s.c s.prs (n + 1) j mb k s9 wr))
  case atStart => exact ⟨_, HBR.out⟩
  case round =>
    obtain ⟨k0, hR⟩ := hrel
    have hR := leastK_at (R := fun k => BR w s.c s.prs (n + 1) j mb k _ _) hR
    obtain ⟨F, b, rfl, hBI, hM, hfix, hmu, hbw⟩ := hR
    obtain ⟨kk, hkk⟩ : ∃ kk, leastK (fun k => BR w s.c s.prs (n + 1) j mb k (.bool b) wr) = kk := ⟨_, rfl⟩
    rw [hkk] at hmu
    have HKK := Lib.hid hkk
    have HBI := Lib.hid hBI
    have HQ := Lib.hid (show BQ w wr B g n s mb F from ⟨hM, hbw⟩)
    have hmb1 : mb < wr.heap.size := hM.lt
    clear hkk hR k0 hBI hM hbw
    cases b
    · have HF := Lib.hid (show IsB s.c s.prs j F from HBI.out.isB (hfix rfl))
      have hl := mg_look HQ.out.map (v := i) (by omega)
      unfold bdA at hl
      clear hfix hmu HKK
      have HFIN := Lib.hid (show BdP s w i j (.returned (bdA (F i))) wr from ⟨F, HF.out, rfl, HQ.out.bel⟩)
      unfold bdA at HFIN
      obtain ⟨rv, hrv⟩ : ∃ rv, (F i).getD 0 = rv := ⟨_, rfl⟩
      obtain ⟨ro, hro⟩ : ∃ ro, (F i).isSome = ro := ⟨_, rfl⟩
      rw [hrv, hro] at hl HFIN
      clear hrv hro
      go_wp2
      go_ret2
      exact HFIN.out
    · clear hfix
      have hmu : sm wt F (n + 1) + 1 ≤ kk := hmu
      have HMU := Lib.hid hmu
      have c2 : wr.cell? ⟨g, 2, none⟩ = some (.slice Ap s.P.length cp) := (HG.out.below HQ.out.bel).cell 2
      clear hmu
      generalize wr = W at *
      go_upto_region 8 with fail
      clear c2
      go_loopw [9, 43] (fun s9 s43 wr => ∃ (q : Nat) (st : (Nat → Option Int) × Bool), s43 = .int .i64 (q : Int) ∧ s9 = .bool st.2 ∧ q ≤ s.P.length ∧ (s.prs.take q).foldl (bstp s.c) (F, false) = st ∧ BI s.c s.prs (n + 1) j st.1 ∧ sm wt st.1 (n + 1) + (if st.2 then 1 else 0) ≤ sm wt F (n + 1) ∧ BQ w wr B g n s mb st.1) (fun _ s43 _ => s.P.length - (intOf s43).toNat)
      case atStart => exact ⟨0, (F, false), rfl, rfl, Nat.zero_le _, rfl, HBI.out, Nat.le_refl _, HQ.out⟩
      case round =>
        obtain ⟨q, st, rfl, rfl, hqP, hst, hBI, hmu, hQ⟩ := hrel
        generalize wr = W4 at *
        have HST := Lib.hid hst
        have HBI4 := Lib.hid hBI
        have HMU4 := Lib.hid hmu
        have HQ4 := Lib.hid hQ
        have hmb4 : mb < W4.heap.size := hQ.map.lt
        clear hst hBI hmu hQ
        by_cases hltq : q < s.P.length
        · have hki : (q : Int) < s.P.length := by omega
          have hk0 : (0 : Int) ≤ (q : Int) := by omega
          have hmem := List.getElem_mem hltq
          obtain ⟨⟨a1, a2⟩, a3, a4⟩ := HMX.out.ok _ hmem
          obtain ⟨bo, hbo⟩ := Option.isSome_iff_exists.1 ((HMX.out.dom _).2 hmem)
          obtain ⟨bp, offp, rfl, hbl, hc⟩ := HPR.out.at (by omega)
          obtain ⟨c0, c1⟩ := hc W4 HQ4.out.bel q hltq
          have hprs : s.prs[q]? = some (s.P[q].1.toNat, s.P[q].2.toNat) := by unfold St.prs; rw [List.getElem?_map, List.getElem?_eq_getElem hltq]; rfl
          clear hc hbl hmem
          generalize s.P[q] = pr at *
          obtain ⟨pi, pj⟩ := pr
          dsimp only at *
          obtain ⟨a, rfl⟩ : ∃ a : Nat, pi = (a : Int) := ⟨pi.toNat, by omega⟩
          obtain ⟨b, rfl⟩ : ∃ b : Nat, pj = (b : Int) := ⟨pj.toNat, by omega⟩
          simp only [Int.toNat_natCast] at hprs
          obtain ⟨cc, pos⟩ := bo
          have HFS := Lib.hid (show (s.prs.take (q + 1)).foldl (bstp s.c) (F, false) = bstp s.c st (a, b) by
            have hq : q < s.prs.length := (List.getElem?_eq_some_iff.1 hprs).1
            have he : s.prs[q] = (a, b) := by have := List.getElem?_eq_getElem hq; rw [hprs] at this; injection this with this; exact this.symm
            rw [List.take_succ_eq_append_getElem hq, List.foldl_append, HST.out, he]
            rfl)
          have HPM := Lib.hid (show (a, b) ∈ s.prs from List.mem_of_getElem? hprs)
          have HCC := Lib.hid (show s.c (a, b) = cc by unfold St.c; rw [hbo]; rfl)
          have hcb := HMX.out.lim _ _ hbo
          dsimp only at hcb
          obtain ⟨kp, hkp⟩ : ∃ kp, kp = W4.heap.size := ⟨_, rfl⟩
          obtain ⟨W5, hW5⟩ : ∃ W5, W5 = W4.alloc (.cells #[.int .i64 (a : Int), .int .i64 (b : Int)] 72) := ⟨_, rfl⟩
          have hb45 : Below W4.heap.size W4 W5 := by rw [hW5]; exact (Below.refl _ _).alloc (Nat.le_refl _) _
          have HQ5 := Lib.hid (HQ4.out.below hb45)
          have KP5 := Lib.hid (show Blk W5 kp 72 #[.int .i64 (a : Int), .int .i64 (b : Int)] by rw [hW5]; exact Blk.new_ hkp rfl)
          have HLK := Lib.hid (show ∀ W', Below W5.heap.size W5 W' → (Instr.lookup 68 (.map (some bm)) (.agg #[.int .i64 (a : Int), .int .i64 (b : Int)]) false).run Try.prog W' = .ok (.agg #[.int .i64 cc, .int .i64 pos]) W' from fun W' hW => by
            have hm := (HMP.out.below HQ5.out.bel).below (hW.mono HQ5.out.bel.size |> fun _ => hW)
            have hl := hm.look Try.underlying68 (z := .agg #[.int .i64 0, .int .i64 0]) (show (zeroValue 74).run Try.prog W' = _ by kernel_rfl) (a := ((a : Int), (b : Int))) ⟨w64_of (by omega) (by omega), w64_of (by omega) (by omega)⟩
            rw [hbo] at hl
            exact hl)
          have hfl : ∀ w', (Instr.field 74 (.agg #[.int .i64 cc, .int .i64 pos]) 0).run Try.prog w' = .ok (.int .i64 cc) w' := fun w' => by kernel_rfl
          have HMW := Lib.hid (show ∀ W', Below w.heap.size w W' → W'.cell? ⟨g, 1, none⟩ = some (.map (some bm)) from fun W' hW => (HG.out.below hW).cell 1)
          have hkm : mb ≠ kp := by omega
          have HKP := Lib.hid hkp
          clear hb45 hprs hbo
          go_upto_region 10 with fail
          rw [← hkp, ← hW5]
          clear hW5 hkp c0 c1
          have d0 : W5.cell? ⟨kp, 0, none⟩ = some (.int .i64 (a : Int)) := KP5.out.cell 0
          have d1 : W5.cell? ⟨kp, 1, none⟩ = some (.int .i64 (b : Int)) := KP5.out.cell 1
          have hl := mg_look HQ5.out.map (v := b) (by omega)
          cases hfb : st.1 b with
          | none =>
            rw [hfb] at hl
            unfold bdA at hl
            dsimp only [Option.getD_none, Option.isSome_none] at hl
            have HFN := Lib.hid (show (s.prs.take (q + 1)).foldl (bstp s.c) (F, false) = st by rw [HFS.out]; unfold bstp; dsimp only; rw [hfb])
            clear hfb
            go_wp2
            go_roundw
            case rel => exact ⟨q + 1, st, by go_num, rfl, hltq, HFN.out, HBI4.out, HMU4.out, HQ5.out⟩
            case measure => simp [intOf]; omega
          | some x =>
            rw [hfb] at hl
            unfold bdA at hl
            dsimp only [Option.getD_some, Option.isSome_some] at hl
            have hxs := HBI4.out.sup _ _ hfb
            have h65 := sm_le one_le st.1 (n + 1)
            have HFB := Lib.hid hfb
            have hwr : IntKind.i64.wrap (x + cc) = x + cc := IntWalk.i64_in _ (by omega)
            clear hxs h65 hfb
            go_upto_region 12 with fail
            clear hl
            have c1 : W5.cell? ⟨g, 1, none⟩ = some (.map (some bm)) := HMW.out W5 HQ5.out.bel
            have hb0 : Below W5.heap.size W5 W5.drew := below_drew (Below.refl _ _)
            refine wp_region_mix 9 (fun w' => Below W5.heap.size W5 w') (by kernel_rfl) (by decide) ?_
            have HQD := Lib.hid (HQ5.out.below hb0)
            have KPD := Lib.hid (KP5.out.below hb0)
            generalize W5.drew = W6 at hb0 HQD KPD ⊢
            refine wpM_take (i := 0) (oi := ⟨some 56, _, _, _, _, _⟩) (v := ?_) rfl (by decide +kernel) (by decide +kernel) (by decide +kernel) (fun _ _ _ h => h) (Or.inl ⟨by rfl, ?_⟩) hb0 ?_
            case refine_2 =>
              intro w' hSw
              have c1' := keepcell hSw c1
              have d0' := keepcell hSw d0
              have d1' := keepcell hSw d1
              go_simp
              try (with_reducible rfl)
            try simp only [Act.put, List.setIfInBounds_toArray, List.set_cons_zero, List.set_cons_succ]
            refine wpM_take (i := 1) (oi := ⟨some 57, _, _, _, _, _⟩) (v := ?_) rfl (by decide +kernel) (by decide +kernel) (by decide +kernel) (fun _ _ _ h => h) (Or.inl ⟨by rfl, ?_⟩) hb0 ?_
            case refine_2 =>
              intro w' hSw
              have c1' := keepcell hSw c1
              have d0' := keepcell hSw d0
              have d1' := keepcell hSw d1
              go_simp
              try (with_reducible rfl)
            try simp only [Act.put, List.setIfInBounds_toArray, List.set_cons_zero, List.set_cons_succ]
            refine wpM_take (i := 2) (oi := ⟨some 58, _, _, _, _, _⟩) (v := ?_) rfl (by decide +kernel) (by decide +kernel) (by decide +kernel) (fun _ _ _ h => h) (Or.inl ⟨by rfl, ?_⟩) hb0 ?_
            case refine_2 =>
              intro w' hSw
              have c1' := keepcell hSw c1
              have d0' := keepcell hSw d0
              have d1' := keepcell hSw d1
              go_simp
              try (with_reducible rfl)
            try simp only [Act.put, List.setIfInBounds_toArray, List.set_cons_zero, List.set_cons_succ]
            refine wpM_take (i := 3) (oi := ⟨some 59, _, _, _, _, _⟩) (v := ?_) rfl (by decide +kernel) (by decide +kernel) (by decide +kernel) (fun _ _ _ h => h) (Or.inl ⟨by rfl, ?_⟩) hb0 ?_
            case refine_2 =>
              intro w' hSw
              have c1' := keepcell hSw c1
              have d0' := keepcell hSw d0
              have d1' := keepcell hSw d1
              go_simp
              try (with_reducible rfl)
            try simp only [Act.put, List.setIfInBounds_toArray, List.set_cons_zero, List.set_cons_succ]
            refine wpM_take (i := 4) (oi := ⟨some 60, _, _, _, _, _⟩) (v := ?_) rfl (by decide +kernel) (by decide +kernel) (by decide +kernel) (fun _ _ _ h => h) (Or.inl ⟨by rfl, ?_⟩) hb0 ?_
            case refine_2 =>
              intro w' hSw
              have c1' := keepcell hSw c1
              have d0' := keepcell hSw d0
              have d1' := keepcell hSw d1
              go_simp
              try (with_reducible rfl)
            try simp only [Act.put, List.setIfInBounds_toArray, List.set_cons_zero, List.set_cons_succ]
            refine wpM_take (i := 5) (oi := ⟨some 61, _, _, _, _, _⟩) (v := ?_) rfl (by decide +kernel) (by decide +kernel) (by decide +kernel) (fun _ _ _ h => h) (Or.inl ⟨by rfl, ?_⟩) hb0 ?_
            case refine_2 =>
              intro w' hSw
              have c1' := keepcell hSw c1
              have d0' := keepcell hSw d0
              have d1' := keepcell hSw d1
              go_simp
              try (with_reducible rfl)
            try simp only [Act.put, List.setIfInBounds_toArray, List.set_cons_zero, List.set_cons_succ]
            refine wpM_take (i := 6) (oi := ⟨some 62, _, _, _, _, _⟩) (v := ?_) rfl (by decide +kernel) (by decide +kernel) (by decide +kernel) (fun _ _ _ h => h) (Or.inl ⟨by rfl, ?_⟩) hb0 ?_
            case refine_2 =>
              intro w' hSw
              have c1' := keepcell hSw c1
              have d0' := keepcell hSw d0
              have d1' := keepcell hSw d1
              have hl := HLK.out w' hSw
              go_simp
              try (with_reducible rfl)
            try simp only [Act.put, List.setIfInBounds_toArray, List.set_cons_zero, List.set_cons_succ]
            refine wpM_take (i := 7) (oi := ⟨some 63, _, _, _, _, _⟩) (v := ?_) rfl (by decide +kernel) (by decide +kernel) (by decide +kernel) (fun _ _ _ h => h) (Or.inl ⟨by rfl, ?_⟩) hb0 ?_
            case refine_2 =>
              intro w' hSw
              have c1' := keepcell hSw c1
              have d0' := keepcell hSw d0
              have d1' := keepcell hSw d1
              go_simp
              try (with_reducible rfl)
            try simp only [Act.put, List.setIfInBounds_toArray, List.set_cons_zero, List.set_cons_succ]
            refine wpM_take (i := 8) (oi := ⟨some 64, _, _, _, _, _⟩) (v := ?_) rfl (by decide +kernel) (by decide +kernel) (by decide +kernel) (fun _ _ _ h => h) (Or.inl ⟨by rfl, ?_⟩) hb0 ?_
            case refine_2 =>
              intro w' hSw
              have c1' := keepcell hSw c1
              have d0' := keepcell hSw d0
              have d1' := keepcell hSw d1
              go_simp
              try (with_reducible rfl)
            try simp only [Act.put, List.setIfInBounds_toArray, List.set_cons_zero, List.set_cons_succ]
            refine wpM_done (by decide +kernel) ?_
            simp only [List.drop_succ_cons, List.drop_zero]
            clear c1 d0 d1 HQ5 KP5 HLK hb0
            have d0 : W6.cell? ⟨kp, 0, none⟩ = some (.int .i64 (a : Int)) := KPD.out.cell 0
            have hl := mg_look HQD.out.map (v := a) (by omega)
            have hMa : sm one st.1 (n + 1) ≤ 65 := by have := sm_le one_le st.1 (n + 1); omega
            have haok : IK.ok (a : Int) := w64_of (by omega) (by omega)
            have HPUT := Lib.hid (fun hnew : st.1 a = none ∨ ∃ o, st.1 a = some o ∧ x + s.c (a, b) < o => HY.out.elim fun Y hY => HBI4.out.put (by omega) (by omega) HP.out HC.out hY.1 hY.2 HPM.out HFB.out hnew)
            rw [HCC.out] at HPUT
            cases hfa : st.1 a with
            | none =>
              rw [hfa] at hl
              unfold bdA at hl
              dsimp only [Option.getD_none, Option.isSome_none] at hl
              have HFN := Lib.hid (show (s.prs.take (q + 1)).foldl (bstp s.c) (F, false) = (pt st.1 a (x + cc), true) by rw [HFS.out]; unfold bstp; dsimp only; rw [HFB.out, hfa]; dsimp only; rw [HCC.out]; rfl)
              have HPT := Lib.hid (HPUT.out (.inl hfa))
              clear hfa HPUT
              go_wp2_with (at_mapUpdate; go_loud (refine wpList_put67 W6 rfl _ _ _ rfl rfl HQD.out.map (by unfold maxLen; omega) a (by omega) rfl (x + cc) rfl _ HPT.out.2.2 ?_))
              intro w11 hm11 hg11
              have HQ9 := Lib.hid (show BQ w w11 B g n s mb (pt st.1 a (x + cc)) from ⟨hm11, HQD.out.bel.grown hg11 HQD.out.bel.size (fun k hk => by injection hk with hk; omega)⟩)
              have HMU9 := Lib.hid (show sm wt (pt st.1 a (x + cc)) (n + 1) + (if true then 1 else 0) ≤ sm wt F (n + 1) by have := HPT.out.2.1; have := HMU4.out; rw [if_pos rfl]; omega)
              clear hm11 hg11 hl
              go_wp2
              go_roundw
              case rel => exact ⟨q + 1, (pt st.1 a (x + cc), true), by go_num, rfl, hltq, HFN.out, HPT.out.1, HMU9.out, HQ9.out⟩
              case measure => simp [intOf]; omega
            | some o =>
              rw [hfa] at hl
              unfold bdA at hl
              dsimp only [Option.getD_some, Option.isSome_some] at hl
              by_cases hlt3 : x + cc < o
              · have HFN := Lib.hid (show (s.prs.take (q + 1)).foldl (bstp s.c) (F, false) = (pt st.1 a (x + cc), true) by rw [HFS.out]; unfold bstp; dsimp only; rw [HFB.out, hfa]; dsimp only; rw [HCC.out, if_pos hlt3]; rfl)
                have HPT := Lib.hid (HPUT.out (.inr ⟨o, hfa, hlt3⟩))
                clear hfa HPUT
                go_wp2_with (at_mapUpdate; go_loud (refine wpList_put67 W6 rfl _ _ _ rfl rfl HQD.out.map (by unfold maxLen; omega) a (by omega) rfl (x + cc) rfl _ HPT.out.2.2 ?_))
                intro w11 hm11 hg11
                have HQ9 := Lib.hid (show BQ w w11 B g n s mb (pt st.1 a (x + cc)) from ⟨hm11, HQD.out.bel.grown hg11 HQD.out.bel.size (fun k hk => by injection hk with hk; omega)⟩)
                have HMU9 := Lib.hid (show sm wt (pt st.1 a (x + cc)) (n + 1) + (if true then 1 else 0) ≤ sm wt F (n + 1) by have := HPT.out.2.1; have := HMU4.out; rw [if_pos rfl]; omega)
                clear hm11 hg11 hl
                go_wp2
                go_roundw
                case rel => exact ⟨q + 1, (pt st.1 a (x + cc), true), by go_num, rfl, hltq, HFN.out, HPT.out.1, HMU9.out, HQ9.out⟩
                case measure => simp [intOf]; omega
              · have HFN := Lib.hid (show (s.prs.take (q + 1)).foldl (bstp s.c) (F, false) = st by rw [HFS.out]; unfold bstp; dsimp only; rw [HFB.out, hfa]; dsimp only; rw [HCC.out, if_neg hlt3])
                clear hfa HPUT
                go_wp2
                go_roundw
                case rel => exact ⟨q + 1, st, by go_num, rfl, hltq, HFN.out, HBI4.out, HMU4.out, HQD.out⟩
                case measure => simp [intOf]; omega
        · obtain rfl : q = s.P.length := by omega
          have hlt4 : ¬ ((s.P.length : Int) < (s.P.length : Int)) := by omega
          have hpl : s.prs.length = s.P.length := by unfold St.prs; rw [List.length_map]
          have hst := HST.out
          rw [List.take_of_length_le (by omega)] at hst
          have HBR2 := Lib.hid (show BR w s.c s.prs (n + 1) j mb (sm wt st.1 (n + 1) + (if st.2 then 1 else 0)) (.bool st.2) W4 from ⟨st.1, st.2, rfl, HBI4.out, HQ4.out.map, fun e => by
            have e0 : (s.prs.foldl (bstp s.c) (F, false)).2 = false := by rw [hst]; exact e
            obtain ⟨e1, e2⟩ := bfold_no s.prs (F, false) e0
            have e3 : st = (F, false) := by rw [← hst]; exact e1
            rw [e3]; exact e0, Nat.le_refl _, HQ4.out.bel⟩)
          have HLT := Lib.hid (show sm wt st.1 (n + 1) + (if st.2 then 1 else 0) < leastK (fun k => BR w s.c s.prs (n + 1) j mb k (.bool true) W) by rw [HKK.out]; have := HMU4.out; have := HMU.out; omega)
          clear hst
          go_wp2
          go_roundw
          case rel => exact ⟨_, HBR2.out⟩
          case measure => exact leastK_lt HBR2.out HLT.out
end Go.Proofs.Ytbmofagaammgmaa
