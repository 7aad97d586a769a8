/- Solve, where every round changes. -/
import Derived.Test.YtbmofagaammgmaaDcw
namespace Go.Proofs.Ytbmofagaammgmaa
open Go.ChangeShapes Go.WideShapes Go.ChangeAt Go.RowKit Go.ChangeMaps

def SuP (s : St) (nd : Nat → Nat) (N : Nat) (w : World) (e : Ending) (w' : World) : Prop := ∃ (A : Option Addr) (m c i j : Nat), e = .returned (.tuple #[.slice none 0 0, .slice A m c]) ∧ A ≠ none ∧ j < i ∧ i ≤ N ∧ nd i = nd j ∧ (∀ a b, j < a → a < b → b ≤ N → nd a ≠ nd b) ∧ m = i - j ∧ At w' A m 1 (ic .i64 ((pthL s nd N (N - j)).drop (N - i))) ∧ Below w.heap.size w w'
/-- The nodes along which what changed last was lowered. -/
def Nds (s : St) (N : Nat) (nd : Nat → Nat) : Prop := (∀ j, j ≤ N → nd j < N) ∧ ∀ j, j < N → (nd (j + 1), nd j) ∈ s.prs ∧ (rnd s.c s.prs (xsk s.c s.prs N j)).2.1.getD (nd (j + 1)) 0 = (nd j : Int) ∧ (xsk s.c s.prs N (j + 1)).getD (nd (j + 1)) 0 = (xsk s.c s.prs N j).getD (nd j) 0 + s.c (nd (j + 1), nd j) ∧ (xsk s.c s.prs N (j + 1)).getD (nd (j + 1)) 0 < (xsk s.c s.prs N j).getD (nd (j + 1)) 0
set_option maxRecDepth 100000 in
set_option maxHeartbeats 4000000 in
theorem solve_uns (w : World) (B g n : Nat) (s : St) (h : MX w B g n s) (hsat : ∀ r, r < n + 1 → ¬ ∀ v, v < n + 1 → (xsk s.c s.prs (n + 1) (r + 1)).getD v 0 = (xsk s.c s.prs (n + 1) r).getD v 0) : Calls Try.prog 27 #[.pointer (some ⟨g, 0, none⟩)] w fun e w' => ∃ nd, Nds s (n + 1) nd ∧ SuP s nd (n + 1) w e w' := by
  have HMX := Lib.hid h
  obtain ⟨bm, v, M, z, h1, -, -, h4, -, h6⟩ := h.all
  have HMP := Lib.hid h4
  have hn64 := h.n
  obtain ⟨N, hN⟩ : ∃ N, N = n + 1 := ⟨_, rfl⟩
  have HP := Lib.hid (show ∀ p ∈ s.prs, p.1 < N ∧ p.2 < N from fun p hp => by
    obtain ⟨q, hq, rfl⟩ := List.mem_map.1 hp
    obtain ⟨⟨a1, a2⟩, a3, a4⟩ := h.ok q hq
    dsimp only
    omega)
  have HC := Lib.hid (show ∀ p ∈ s.prs, -1125899906842624 ≤ s.c p ∧ s.c p ≤ 1125899906842624 from fun p hp => by
    unfold St.c
    cases hf : s.f ((p.1 : Int), (p.2 : Int)) with
    | none => simp
    | some q => have := h.lim _ q hf; exact ⟨this.1, this.2.1⟩)
  obtain ⟨Ap, cp, rfl, hAp, -, -⟩ := At.of_own h6
  have HPR := Lib.hid (show Cfs w Ap s.P.length s.P from hAp)
  have hPl : s.P.length ≤ 100000 := by have := h.len; have := h.a; omega
  have HG := Lib.hid h1
  clear hAp
  have c0 : w.cell? ⟨g, 0, none⟩ = some (.int .i64 (n : Int)) := h1.cell 0
  rw [← hN] at hsat ⊢
  have HSAT := Lib.hid hsat
  have HNN := Lib.hid (show ((n : Int) + 1) = (N : Int) by omega)
  have hN65 : N ≤ 65 := by omega
  have hN1 : 1 ≤ N := by omega
  have hmk := make28 N (by omega)
  have hmk2 := make36 N (by omega)
  have HN := Lib.hid hN
  clear h h1 h4 h6 hsat hN
  go_enter Try.func27, Try.ntmps27
  go_upto_region 2 with fail
  rw [HNN.out]
  clear c0
  go_wp2
  go_loopw [5, 6, 22] (fun s5 s6 s22 wr => ∃ r : Nat, s22 = .int .i64 (r : Int) ∧ r < N ∧ OI w wr s.c s.prs N r s5 s6 ∧ ∀ j, j < r → ¬ ∀ v, v < N → (xsk s.c s.prs N (j + 1)).getD v 0 = (xsk s.c s.prs N j).getD v 0) (fun _ _ s22 _ => N - (intOf s22).toNat)
  case atStart => exact ⟨0, rfl, by omega, ⟨⟨_, _, rfl, RW.made w 2 _, Nat.le_refl _⟩, ⟨[], World.ownsRow_nil _ _ _ _, fun j hj => by omega⟩, (Below.refl _ w).alloc (Nat.le_refl _) _⟩, fun j hj => by omega⟩
  case round =>
    obtain ⟨r, rfl, hrN, hOI, hno⟩ := hrel
    generalize wr = W at *
    have HOI := Lib.hid hOI
    have HNO := Lib.hid hno
    have hri : (r : Int) < N := by omega
    obtain ⟨gx, cx, rfl, hx, hgx⟩ := hOI.x
    have HX := Lib.hid hx
    have hXl : (xsk s.c s.prs N r).length = N := xsk_len HP.out r
    obtain ⟨X, hX⟩ : ∃ X, X = xsk s.c s.prs N r := ⟨_, rfl⟩
    rw [← hX] at HX hXl
    have HXE := Lib.hid hX
    clear hX
    obtain ⟨i0, hi0, hz0, hz1, hz2⟩ := info_parts Try.info2
    have hsrc : At W (some ⟨gx, 0, none⟩) N 1 (ic .i64 X) := by have := HX.out.at; rw [hXl] at this; exact this
    have HSRC := Lib.hid (At.src (P := Try.prog) (c := cx) Try.underlying28 hsrc (i64_one X) (by decide))
    clear hOI hno hx hsrc
    go_wp2_with (at_builtin; go_loud (refine wpList_append_src _ rfl _ _ 28 28 rfl W.heap.size 2 i0 _ 1 8 Try.underlying28 hi0 hz0 hz1 hz2 rfl (.slice none 0 0) 0 [] rfl (World.ownsRow_nil _ _ _ _) _ N (ic .i64 X) rfl HSRC.out (by unfold maxLen; omega) (by omega) (Nat.le_refl _) ?_))
    intro v' W1 own' hg _
    obtain ⟨gy, cy, rfl, hgy, hy, hcy⟩ := RW.own (L := X) own' (by omega)
    have hb1 : Below W.heap.size W W1 := ⟨hg.os, hg.tape, hg.output, hg.size, fun k hk => hg.block k hk (fun e => by cases e)⟩
    obtain ⟨gf, hgf⟩ : ∃ gf, gf = W1.heap.size := ⟨_, rfl⟩
    have HGF := Lib.hid hgf
    have hyf : gy ≠ gf := by have := hy.lt; omega
    have HW2 := Lib.hid (hb1.alloc (o := .cells (ics (List.replicate N 0)) 3) hb1.size)
    have HY2 := Lib.hid (hy.below ((Below.refl _ W1).alloc (Nat.le_refl _) (.cells (ics (List.replicate N 0)) 3)))
    have HF2 := Lib.hid (show RW (W1.alloc (.cells (ics (List.replicate N 0)) 3)) gf 3 (List.replicate N 0) by rw [hgf]; exact RW.made W1 3 _)
    have hWf : W.heap.size ≤ gf := by rw [hgf]; exact hb1.size
    clear own' hg hy hgf hb1
    go_upto_region 9 with fail
    rw [← HGF.out]
    obtain ⟨b0, hb0e⟩ : ∃ b0, b0 = W.heap.size := ⟨_, rfl⟩
    rw [← hb0e] at HW2
    have HB0 := Lib.hid hb0e
    have hbf : b0 ≤ gf := by rw [hb0e]; exact hWf
    have hby : b0 ≤ gy := by rw [hb0e]; exact hgy
    clear hb0e
    go_loopw [30] (fun s30 wr => ∃ k : Nat, s30 = .int .i64 (k : Int) ∧ k ≤ N ∧ RW wr gy 2 X ∧ RW wr gf 3 (List.replicate k (-1) ++ List.replicate (N - k) 0) ∧ Below b0 W wr) (fun s30 _ => N - (intOf s30).toNat)
    case atStart => exact ⟨0, rfl, Nat.zero_le _, HY2.out, HF2.out, HW2.out⟩
    case round =>
      obtain ⟨k, rfl, hkN, hy, hf, hB⟩ := hrel
      by_cases hlt : k < N
      · have hki : (k : Int) < N := by omega
        have hk0 : (0 : Int) ≤ (k : Int) := by omega
        obtain ⟨u, hu⟩ : ∃ u, wr.cell? ⟨gf, k, none⟩ = some u := ⟨_, hf.cell (j := k) (by simp; omega)⟩
        have hfz := hf.free k
        have hf' := hf.set k (-1)
        rw [rep_set N k hlt] at hf'
        have HF' := Lib.hid hf'
        have HY' := Lib.hid (hy.other hyf k (.int .i64 (-1)))
        have HB' := Lib.hid (hB.setCell (p := ⟨gf, k, none⟩) hbf (.int .i64 (-1)))
        clear hy hf hB hf'
        go_wp2
        go_roundw
        case rel => exact ⟨k + 1, by go_num, hlt, HY'.out, HF'.out, HB'.out⟩
        case measure => simp [intOf]; omega
      · obtain rfl : N = k := by omega
        have hlt2 : ¬ ((N : Int) < (N : Int)) := by omega
        have HY3 := Lib.hid hy
        have HF3 := Lib.hid (show RW wr gf 3 (List.replicate N (-1)) by rw [Nat.sub_self, List.replicate_zero, List.append_nil] at hf; exact hf)
        have HB3 := Lib.hid hB
        clear hy hf hB HY2 HF2 HW2
        have HMW := Lib.hid (show ∀ W', Below b0 W W' → Blk W' g 71 #[.int .i64 (n : Int), .map (some bm), .slice Ap s.P.length cp, .int .i64 (s.a : Int)] from fun W' hW => (HG.out.below HOI.out.bel).below (HB0.out ▸ hW))
        have c2 : wr.cell? ⟨g, 2, none⟩ = some (.slice Ap s.P.length cp) := (HMW.out wr HB3.out).cell 2
        go_upto_region 15 with fail
        clear c2
        go_loopw [10, 42] (fun s10 s42 wr => ∃ (q : Nat) (st : List Int × List Int × Int), s42 = .int .i64 (q : Int) ∧ s10 = .int .i64 st.2.2 ∧ q ≤ s.P.length ∧ (s.prs.take q).foldl (stp s.c X) (X, List.replicate N (-1), -1) = st ∧ RW wr gy 2 st.1 ∧ RW wr gf 3 st.2.1 ∧ Below b0 W wr) (fun _ s42 _ => s.P.length - (intOf s42).toNat)
        case atStart => exact ⟨0, _, rfl, rfl, Nat.zero_le _, rfl, HY3.out, HF3.out, HB3.out⟩
        case round =>
          obtain ⟨q, st, rfl, rfl, hqP, hst, hy, hf, hB⟩ := hrel
          generalize wr = W4 at *
          have HST := Lib.hid hst
          have HY4 := Lib.hid hy
          have HF4 := Lib.hid hf
          have HB4 := Lib.hid hB
          have hRI : RI s.c ([] ++ s.prs.take q) N X st := by
            rw [← hst]
            have := RI.all (s.prs.take q) [] _ (RI.start s.c X) (fun p hp => by rw [hXl]; exact (HP.out p (List.mem_of_mem_take hp)).1)
            rw [hXl] at this
            exact this
          have hl1 : st.1.length = N := hRI.len
          have hl2 : st.2.1.length = N := hRI.lenf
          clear hst hy hf hB
          by_cases hltq : q < s.P.length
          · have hki : (q : Int) < s.P.length := by omega
            have hk0 : (0 : Int) ≤ (q : Int) := by omega
            have hmem := List.getElem_mem hltq
            obtain ⟨⟨a1, a2⟩, a3, a4⟩ := HMX.out.ok _ hmem
            obtain ⟨bo, hbo⟩ := Option.isSome_iff_exists.1 ((HMX.out.dom _).2 hmem)
            obtain ⟨bp, offp, rfl, hbl, hc⟩ := HPR.out.at (by omega)
            obtain ⟨c0, c1⟩ := hc W4 (HOI.out.bel.trans ((HB0.out ▸ HB4.out : Below W.heap.size W W4).mono HOI.out.bel.size)) q hltq
            have hprs : s.prs[q]? = some (s.P[q].1.toNat, s.P[q].2.toNat) := by unfold St.prs; rw [List.getElem?_map, List.getElem?_eq_getElem hltq]; rfl
            clear hc hbl hmem
            generalize s.P[q] = pr at *
            obtain ⟨pi, pj⟩ := pr
            dsimp only at *
            obtain ⟨a, rfl⟩ : ∃ a : Nat, pi = (a : Int) := ⟨pi.toNat, by omega⟩
            obtain ⟨b, rfl⟩ : ∃ b : Nat, pj = (b : Int) := ⟨pj.toNat, by omega⟩
            simp only [Int.toNat_natCast] at hprs
            obtain ⟨cc, pos⟩ := bo
            have HFS := Lib.hid (show (s.prs.take (q + 1)).foldl (stp s.c X) (X, List.replicate N (-1), -1) = stp s.c X st (a, b) by
              have hq : q < s.prs.length := (List.getElem?_eq_some_iff.1 hprs).1
              have he : s.prs[q] = (a, b) := by have := List.getElem?_eq_getElem hq; rw [hprs] at this; injection this with this; exact this.symm
              rw [List.take_succ_eq_append_getElem hq, List.foldl_append, HST.out, he]
              rfl)
            have HCC := Lib.hid (show s.c (a, b) = cc by unfold St.c; rw [hbo]; rfl)
            have hcb := HMX.out.lim _ _ hbo
            dsimp only at hcb
            have haN : a < N := by have := HN.out; omega
            have hbN : b < N := by have := HN.out; omega
            have hxb := xsk_bd HP.out HC.out r b hbN
            rw [← HXE.out] at hxb
            obtain ⟨xb, hxbe⟩ : ∃ xb, X.getD b 0 = xb := ⟨_, rfl⟩
            obtain ⟨ya, hya⟩ : ∃ ya, st.1.getD a 0 = ya := ⟨_, rfl⟩
            rw [hxbe] at hxb
            have HSTP := Lib.hid (show stp s.c X st (a, b) = if xb + cc < ya then (st.1.set a (xb + cc), st.2.1.set a (b : Int), (a : Int)) else st by
              unfold stp
              dsimp only
              rw [hxbe, HCC.out, hya])
            have hr65 : (r : Int) ≤ 65 := by omega
            have hwr : IntKind.i64.wrap (xb + cc) = xb + cc := IntWalk.i64_in _ (by omega)
            obtain ⟨kp, hkp⟩ : ∃ kp, kp = W4.heap.size := ⟨_, rfl⟩
            obtain ⟨W5, hW5⟩ : ∃ W5, W5 = W4.alloc (.cells #[.int .i64 (a : Int), .int .i64 (b : Int)] 72) := ⟨_, rfl⟩
            have hb45 : Below W4.heap.size W4 W5 := by rw [hW5]; exact (Below.refl _ _).alloc (Nat.le_refl _) _
            have HB5 := Lib.hid (HB4.out.trans (hb45.mono (by rw [HB0.out]; exact HB4.out.size)))
            have KP5 := Lib.hid (show Blk W5 kp 72 #[.int .i64 (a : Int), .int .i64 (b : Int)] by rw [hW5]; exact Blk.new_ hkp rfl)
            have HY5 := Lib.hid (HY4.out.below hb45)
            have HF5 := Lib.hid (HF4.out.below hb45)
            have hky : gy ≠ kp := by have := HY4.out.lt; omega
            have hkf : gf ≠ kp := by have := HF4.out.lt; omega
            have HX5 := Lib.hid (show ∀ W', Below W5.heap.size W5 W' → W'.cell? ⟨gx, b, none⟩ = some (.int .i64 xb) from fun W' hW => by
              have h1 := (HX.out.below (HB0.out ▸ HB5.out : Below W.heap.size W W5)).below hW
              rw [← hxbe]
              exact h1.cell (by omega))
            have HLK := Lib.hid (show ∀ W', Below W5.heap.size W5 W' → (Instr.lookup 68 (.map (some bm)) (.agg #[.int .i64 (a : Int), .int .i64 (b : Int)]) false).run Try.prog W' = .ok (.agg #[.int .i64 cc, .int .i64 pos]) W' from fun W' hW => by
              have hm := ((HMP.out.below HOI.out.bel).below (HB0.out ▸ HB5.out : Below W.heap.size W W5)).below hW
              have hl := hm.look Try.underlying68 (z := .agg #[.int .i64 0, .int .i64 0]) (show (zeroValue 74).run Try.prog W' = _ by kernel_rfl) (a := ((a : Int), (b : Int))) ⟨w64_of (by omega) (by omega), w64_of (by omega) (by omega)⟩
              rw [hbo] at hl
              exact hl)
            have hfl : ∀ w', (Instr.field 74 (.agg #[.int .i64 cc, .int .i64 pos]) 0).run Try.prog w' = .ok (.int .i64 cc) w' := fun w' => by kernel_rfl
            have c1' := (HMW.out W5 HB5.out).cell 1
            have c1 : W5.cell? ⟨g, 1, none⟩ = some (.map (some bm)) := c1'
            clear c1' hb45 hRI hprs hbo
            have HXB := Lib.hid hxbe
            have HYA := Lib.hid hya
            have HKP := Lib.hid hkp
            clear hxbe hya
            go_upto_region 17 with fail
            rw [← hkp, ← hW5]
            clear hW5 hkp c0
            clear c1
            have c1 : W5.cell? ⟨g, 1, none⟩ = some (.map (some bm)) := (HMW.out W5 HB5.out).cell 1
            have d0 : W5.cell? ⟨kp, 0, none⟩ = some (.int .i64 (a : Int)) := KP5.out.cell 0
            have d1 : W5.cell? ⟨kp, 1, none⟩ = some (.int .i64 (b : Int)) := KP5.out.cell 1
            have hai : (a : Int) < N := by omega
            have hbi : (b : Int) < N := by omega
            have ha0 : (0 : Int) ≤ (a : Int) := by omega
            have hb0' : (0 : Int) ≤ (b : Int) := by omega
            have hb0 : Below W5.heap.size W5 W5.drew := below_drew (Below.refl _ _)
            refine wp_region_mix 13 (fun w' => Below W5.heap.size W5 w') (by kernel_rfl) (by decide) ?_
            have HBD := Lib.hid (HB5.out.trans (hb0.mono (by rw [HB0.out]; exact HB5.out.size)))
            have KPD := Lib.hid (KP5.out.below hb0)
            have HYD := Lib.hid (HY5.out.below hb0)
            have HFD := Lib.hid (HF5.out.below hb0)
            generalize W5.drew = W6 at hb0 HBD KPD HYD HFD ⊢
            refine wpM_take (i := 0) (oi := ⟨some 46, _, _, _, _, _⟩) (v := ?_) rfl (by decide +kernel) (by decide +kernel) (by decide +kernel) (fun _ _ _ h => h) (Or.inl ⟨by rfl, ?_⟩) hb0 ?_
            case refine_2 =>
              intro w' hSw
              have c1' := keepcell hSw c1
              have d0' := keepcell hSw d0
              have d1' := keepcell hSw d1
              have cx0 := HX5.out w' hSw
              go_simp
              try (with_reducible rfl)
            try simp only [Act.put, List.setIfInBounds_toArray, List.set_cons_zero, List.set_cons_succ]
            refine wpM_take (i := 1) (oi := ⟨some 47, _, _, _, _, _⟩) (v := ?_) rfl (by decide +kernel) (by decide +kernel) (by decide +kernel) (fun _ _ _ h => h) (Or.inl ⟨by rfl, ?_⟩) hb0 ?_
            case refine_2 =>
              intro w' hSw
              have c1' := keepcell hSw c1
              have d0' := keepcell hSw d0
              have d1' := keepcell hSw d1
              have cx0 := HX5.out w' hSw
              go_simp
              try (with_reducible rfl)
            try simp only [Act.put, List.setIfInBounds_toArray, List.set_cons_zero, List.set_cons_succ]
            refine wpM_take (i := 2) (oi := ⟨some 48, _, _, _, _, _⟩) (v := ?_) rfl (by decide +kernel) (by decide +kernel) (by decide +kernel) (fun _ _ _ h => h) (Or.inl ⟨by rfl, ?_⟩) hb0 ?_
            case refine_2 =>
              intro w' hSw
              have c1' := keepcell hSw c1
              have d0' := keepcell hSw d0
              have d1' := keepcell hSw d1
              have cx0 := HX5.out w' hSw
              go_simp
              try (with_reducible rfl)
            try simp only [Act.put, List.setIfInBounds_toArray, List.set_cons_zero, List.set_cons_succ]
            refine wpM_take (i := 3) (oi := ⟨some 49, _, _, _, _, _⟩) (v := ?_) rfl (by decide +kernel) (by decide +kernel) (by decide +kernel) (fun _ _ _ h => h) (Or.inl ⟨by rfl, ?_⟩) hb0 ?_
            case refine_2 =>
              intro w' hSw
              have c1' := keepcell hSw c1
              have d0' := keepcell hSw d0
              have d1' := keepcell hSw d1
              have cx0 := HX5.out w' hSw
              go_simp
              try (with_reducible rfl)
            try simp only [Act.put, List.setIfInBounds_toArray, List.set_cons_zero, List.set_cons_succ]
            refine wpM_take (i := 4) (oi := ⟨some 50, _, _, _, _, _⟩) (v := ?_) rfl (by decide +kernel) (by decide +kernel) (by decide +kernel) (fun _ _ _ h => h) (Or.inl ⟨by rfl, ?_⟩) hb0 ?_
            case refine_2 =>
              intro w' hSw
              have c1' := keepcell hSw c1
              have d0' := keepcell hSw d0
              have d1' := keepcell hSw d1
              have cx0 := HX5.out w' hSw
              go_simp
              try (with_reducible rfl)
            try simp only [Act.put, List.setIfInBounds_toArray, List.set_cons_zero, List.set_cons_succ]
            refine wpM_take (i := 5) (oi := ⟨some 51, _, _, _, _, _⟩) (v := ?_) rfl (by decide +kernel) (by decide +kernel) (by decide +kernel) (fun _ _ _ h => h) (Or.inl ⟨by rfl, ?_⟩) hb0 ?_
            case refine_2 =>
              intro w' hSw
              have c1' := keepcell hSw c1
              have d0' := keepcell hSw d0
              have d1' := keepcell hSw d1
              have cx0 := HX5.out w' hSw
              go_simp
              try (with_reducible rfl)
            try simp only [Act.put, List.setIfInBounds_toArray, List.set_cons_zero, List.set_cons_succ]
            refine wpM_take (i := 6) (oi := ⟨some 52, _, _, _, _, _⟩) (v := ?_) rfl (by decide +kernel) (by decide +kernel) (by decide +kernel) (fun _ _ _ h => h) (Or.inl ⟨by rfl, ?_⟩) hb0 ?_
            case refine_2 =>
              intro w' hSw
              have c1' := keepcell hSw c1
              have d0' := keepcell hSw d0
              have d1' := keepcell hSw d1
              have cx0 := HX5.out w' hSw
              go_simp
              try (with_reducible rfl)
            try simp only [Act.put, List.setIfInBounds_toArray, List.set_cons_zero, List.set_cons_succ]
            refine wpM_take (i := 7) (oi := ⟨some 53, _, _, _, _, _⟩) (v := ?_) rfl (by decide +kernel) (by decide +kernel) (by decide +kernel) (fun _ _ _ h => h) (Or.inl ⟨by rfl, ?_⟩) hb0 ?_
            case refine_2 =>
              intro w' hSw
              have c1' := keepcell hSw c1
              have d0' := keepcell hSw d0
              have d1' := keepcell hSw d1
              have cx0 := HX5.out w' hSw
              go_simp
              try (with_reducible rfl)
            try simp only [Act.put, List.setIfInBounds_toArray, List.set_cons_zero, List.set_cons_succ]
            refine wpM_take (i := 8) (oi := ⟨some 54, _, _, _, _, _⟩) (v := ?_) rfl (by decide +kernel) (by decide +kernel) (by decide +kernel) (fun _ _ _ h => h) (Or.inl ⟨by rfl, ?_⟩) hb0 ?_
            case refine_2 =>
              intro w' hSw
              have c1' := keepcell hSw c1
              have d0' := keepcell hSw d0
              have d1' := keepcell hSw d1
              have cx0 := HX5.out w' hSw
              go_simp
              try (with_reducible rfl)
            try simp only [Act.put, List.setIfInBounds_toArray, List.set_cons_zero, List.set_cons_succ]
            refine wpM_take (i := 9) (oi := ⟨some 55, _, _, _, _, _⟩) (v := ?_) rfl (by decide +kernel) (by decide +kernel) (by decide +kernel) (fun _ _ _ h => h) (Or.inl ⟨by rfl, ?_⟩) hb0 ?_
            case refine_2 =>
              intro w' hSw
              have c1' := keepcell hSw c1
              have d0' := keepcell hSw d0
              have d1' := keepcell hSw d1
              have cx0 := HX5.out w' hSw
              go_simp
              try (with_reducible rfl)
            try simp only [Act.put, List.setIfInBounds_toArray, List.set_cons_zero, List.set_cons_succ]
            refine wpM_take (i := 10) (oi := ⟨some 56, _, _, _, _, _⟩) (v := ?_) rfl (by decide +kernel) (by decide +kernel) (by decide +kernel) (fun _ _ _ h => h) (Or.inl ⟨by rfl, ?_⟩) hb0 ?_
            case refine_2 =>
              intro w' hSw
              have c1' := keepcell hSw c1
              have d0' := keepcell hSw d0
              have d1' := keepcell hSw d1
              have cx0 := HX5.out w' hSw
              have hl := HLK.out w' hSw
              go_simp
              try (with_reducible rfl)
            try simp only [Act.put, List.setIfInBounds_toArray, List.set_cons_zero, List.set_cons_succ]
            refine wpM_take (i := 11) (oi := ⟨some 57, _, _, _, _, _⟩) (v := ?_) rfl (by decide +kernel) (by decide +kernel) (by decide +kernel) (fun _ _ _ h => h) (Or.inl ⟨by rfl, ?_⟩) hb0 ?_
            case refine_2 =>
              intro w' hSw
              have c1' := keepcell hSw c1
              have d0' := keepcell hSw d0
              have d1' := keepcell hSw d1
              have cx0 := HX5.out w' hSw
              go_simp
              try (with_reducible rfl)
            try simp only [Act.put, List.setIfInBounds_toArray, List.set_cons_zero, List.set_cons_succ]
            refine wpM_take (i := 12) (oi := ⟨some 58, _, _, _, _, _⟩) (v := ?_) rfl (by decide +kernel) (by decide +kernel) (by decide +kernel) (fun _ _ _ h => h) (Or.inl ⟨by rfl, ?_⟩) hb0 ?_
            case refine_2 =>
              intro w' hSw
              have c1' := keepcell hSw c1
              have d0' := keepcell hSw d0
              have d1' := keepcell hSw d1
              have cx0 := HX5.out w' hSw
              go_simp
              try (with_reducible rfl)
            try simp only [Act.put, List.setIfInBounds_toArray, List.set_cons_zero, List.set_cons_succ]
            refine wpM_done (by decide +kernel) ?_
            simp only [List.drop_succ_cons, List.drop_zero]
            clear c1 d0 d1 HY5 HF5 KP5 HLK HX5
            have d0 : W6.cell? ⟨kp, 0, none⟩ = some (.int .i64 (a : Int)) := KPD.out.cell 0
            have d1 : W6.cell? ⟨kp, 1, none⟩ = some (.int .i64 (b : Int)) := KPD.out.cell 1
            have ey : W6.cell? ⟨gy, a, none⟩ = some (.int .i64 ya) := by rw [← HYA.out]; exact HYD.out.cell (by omega)
            have fy := HYD.out.free a
            have ef : W6.cell? ⟨gf, a, none⟩ = some (.int .i64 (st.2.1.getD a 0)) := HFD.out.cell (by omega)
            have ff := HFD.out.free a
            by_cases hlt3 : xb + cc < ya
            · have HFN := Lib.hid (show (s.prs.take (q + 1)).foldl (stp s.c X) (X, List.replicate N (-1), -1) = (st.1.set a (xb + cc), st.2.1.set a (b : Int), (a : Int)) by rw [HFS.out, HSTP.out, if_pos hlt3])
              clear ef ff
              go_upto_region 19 with fail
              have hb1 : Below W6.heap.size W6 W6.drew := below_drew (Below.refl _ _)
              refine wp_region_mixE (fun w' => w'.cell? ⟨kp, 0, none⟩ = some (.int .i64 (a : Int)) ∧ w'.cell? ⟨kp, 1, none⟩ = some (.int .i64 (b : Int))) (by kernel_rfl) ?_
              have HBE := Lib.hid (HBD.out.trans (hb1.mono (by rw [HB0.out]; exact HBD.out.size)))
              have KPE := Lib.hid (KPD.out.below hb1)
              have HYE := Lib.hid (HYD.out.below hb1)
              have HFE := Lib.hid (HFD.out.below hb1)
              clear ey fy d0 d1
              generalize W6.drew = W7 at hb1 HBE KPE HYE HFE ⊢
              clear hb1
              have hS7 : W7.cell? ⟨kp, 0, none⟩ = some (.int .i64 (a : Int)) ∧ W7.cell? ⟨kp, 1, none⟩ = some (.int .i64 (b : Int)) := ⟨KPE.out.cell 0, KPE.out.cell 1⟩
              refine wpE_take (i := 0) (oi := ⟨some 66, _, _, _, _, _⟩) (v := ?_) rfl (by decide +kernel) (by decide +kernel) (by decide +kernel) (fun _ _ _ h => h) (Or.inl ⟨by rfl, ?_⟩) hS7 ?_
              case refine_2 =>
                intro w' hSw
                obtain ⟨d0, d1⟩ := hSw
                go_simp
                try (with_reducible rfl)
              try simp only [Act.put, List.setIfInBounds_toArray, List.set_cons_zero, List.set_cons_succ]
              refine wpE_take (i := 1) (oi := ⟨some 67, _, _, _, _, _⟩) (v := ?_) rfl (by decide +kernel) (by decide +kernel) (by decide +kernel) (fun _ _ _ h => h) (Or.inl ⟨by rfl, ?_⟩) hS7 ?_
              case refine_2 =>
                intro w' hSw
                obtain ⟨d0, d1⟩ := hSw
                go_simp
                try (with_reducible rfl)
              try simp only [Act.put, List.setIfInBounds_toArray, List.set_cons_zero, List.set_cons_succ]
              refine wpE_take (i := 2) (oi := ⟨some 68, _, _, _, _, _⟩) (v := ?_) rfl (by decide +kernel) (by decide +kernel) (by decide +kernel) (fun _ _ _ h => h) (Or.inl ⟨by rfl, ?_⟩) hS7 ?_
              case refine_2 =>
                intro w' hSw
                obtain ⟨d0, d1⟩ := hSw
                go_simp
                try (with_reducible rfl)
              try simp only [Act.put, List.setIfInBounds_toArray, List.set_cons_zero, List.set_cons_succ]
              refine wpE_take (i := 3) (oi := ⟨some 69, _, _, _, _, _⟩) (v := ?_) rfl (by decide +kernel) (by decide +kernel) (by decide +kernel) (fun _ _ _ h => h) (Or.inl ⟨by rfl, ?_⟩) hS7 ?_
              case refine_2 =>
                intro w' hSw
                obtain ⟨d0, d1⟩ := hSw
                go_simp
                try (with_reducible rfl)
              try simp only [Act.put, List.setIfInBounds_toArray, List.set_cons_zero, List.set_cons_succ]
              refine wpE_take (i := 4) (oi := ⟨some 70, _, _, _, _, _⟩) (v := ?_) rfl (by decide +kernel) (by decide +kernel) (by decide +kernel) (fun _ _ _ h => h) (Or.inl ⟨by rfl, ?_⟩) hS7 ?_
              case refine_2 =>
                intro w' hSw
                obtain ⟨d0, d1⟩ := hSw
                go_simp
                try (with_reducible rfl)
              try simp only [Act.put, List.setIfInBounds_toArray, List.set_cons_zero, List.set_cons_succ]
              refine wpE_take (i := 5) (oi := ⟨some 71, _, _, _, _, _⟩) (v := ?_) rfl (by decide +kernel) (by decide +kernel) (by decide +kernel) (fun _ _ _ h => h) (Or.inl ⟨by rfl, ?_⟩) hS7 ?_
              case refine_2 =>
                intro w' hSw
                obtain ⟨d0, d1⟩ := hSw
                go_simp
                try (with_reducible rfl)
              try simp only [Act.put, List.setIfInBounds_toArray, List.set_cons_zero, List.set_cons_succ]
              refine wpE_take (i := 6) (oi := ⟨some 72, _, _, _, _, _⟩) (v := ?_) rfl (by decide +kernel) (by decide +kernel) (by decide +kernel) (fun _ _ _ h => h) (Or.inl ⟨by rfl, ?_⟩) hS7 ?_
              case refine_2 =>
                intro w' hSw
                obtain ⟨d0, d1⟩ := hSw
                go_simp
                try (with_reducible rfl)
              try simp only [Act.put, List.setIfInBounds_toArray, List.set_cons_zero, List.set_cons_succ]
              refine wpE_take (i := 7) (oi := ⟨some 73, _, _, _, _, _⟩) (v := ?_) rfl (by decide +kernel) (by decide +kernel) (by decide +kernel) (fun _ _ _ h => h) (Or.inl ⟨by rfl, ?_⟩) hS7 ?_
              case refine_2 =>
                intro w' hSw
                obtain ⟨d0, d1⟩ := hSw
                go_simp
                try (with_reducible rfl)
              try simp only [Act.put, List.setIfInBounds_toArray, List.set_cons_zero, List.set_cons_succ]
              refine wpE_take (i := 8) (oi := ⟨some 74, _, _, _, _, _⟩) (v := ?_) rfl (by decide +kernel) (by decide +kernel) (by decide +kernel) (fun _ _ _ h => h) (Or.inl ⟨by rfl, ?_⟩) hS7 ?_
              case refine_2 =>
                intro w' hSw
                obtain ⟨d0, d1⟩ := hSw
                go_simp
                try (with_reducible rfl)
              try simp only [Act.put, List.setIfInBounds_toArray, List.set_cons_zero, List.set_cons_succ]
              refine wpE_take (i := 9) (oi := ⟨some 75, _, _, _, _, _⟩) (v := ?_) rfl (by decide +kernel) (by decide +kernel) (by decide +kernel) (fun _ _ _ h => h) (Or.inl ⟨by rfl, ?_⟩) hS7 ?_
              case refine_2 =>
                intro w' hSw
                obtain ⟨d0, d1⟩ := hSw
                go_simp
                try (with_reducible rfl)
              try simp only [Act.put, List.setIfInBounds_toArray, List.set_cons_zero, List.set_cons_succ]
              have ey : W7.cell? ⟨gy, a, none⟩ = some (.int .i64 ya) := by rw [← HYA.out]; exact HYE.out.cell (by omega)
              have fy := HYE.out.free a
              have HY8 := Lib.hid ((HYE.out.set a (xb + cc)).other (k := gf) hyf a (.int .i64 (b : Int)))
              have HF7 := Lib.hid (HFE.out.other (k := gy) (Ne.symm hyf) a (.int .i64 (xb + cc)))
              have HF8 := Lib.hid (HF7.out.set a (b : Int))
              have ef : (W7.setCell ⟨gy, a, none⟩ (.int .i64 (xb + cc))).cell? ⟨gf, a, none⟩ = some (.int .i64 (st.2.1.getD a 0)) := HF7.out.cell (by omega)
              have ff := HF7.out.free a
              have HB8 := Lib.hid ((HBE.out.setCell (p := ⟨gy, a, none⟩) hby (.int .i64 (xb + cc))).setCell (p := ⟨gf, a, none⟩) hbf (.int .i64 (b : Int)))
              have KP7 := Lib.hid (show Blk (W7.setCell ⟨gy, a, none⟩ (.int .i64 (xb + cc))) kp 72 #[.int .i64 (a : Int), .int .i64 (b : Int)] from ((grown_set W7 gy a _).block kp KPE.out.lt (fun e => by injection e with e; exact hky e.symm)).trans KPE.out)
              have KP8 := Lib.hid (show Blk ((W7.setCell ⟨gy, a, none⟩ (.int .i64 (xb + cc))).setCell ⟨gf, a, none⟩ (.int .i64 (b : Int))) kp 72 #[.int .i64 (a : Int), .int .i64 (b : Int)] from ((grown_set _ gf a _).block kp KP7.out.lt (fun e => by injection e with e; exact hkf e.symm)).trans KP7.out)
              refine wpE_step (i := 10) (o := ⟨none, _, _, _, _, _⟩) rfl (by decide +kernel) (fun K hK => ?_)
              go_simp
              refine hK.out _ _ ⟨KP7.out.cell 0, KP7.out.cell 1⟩ ?_
              clear hK K
              try simp only [Act.put, List.setIfInBounds_toArray, List.set_cons_zero, List.set_cons_succ]
              clear ey fy
              refine wpE_take (i := 11) (oi := ⟨some 76, _, _, _, _, _⟩) (v := ?_) rfl (by decide +kernel) (by decide +kernel) (by decide +kernel) (fun _ _ _ h => h) (Or.inl ⟨by rfl, ?_⟩) ⟨KP7.out.cell 0, KP7.out.cell 1⟩ ?_
              case refine_2 =>
                intro w' hSw
                obtain ⟨d0, d1⟩ := hSw
                go_simp
                try (with_reducible rfl)
              try simp only [Act.put, List.setIfInBounds_toArray, List.set_cons_zero, List.set_cons_succ]
              refine wpE_step (i := 12) (o := ⟨none, _, _, _, _, _⟩) rfl (by decide +kernel) (fun K hK => ?_)
              go_simp
              refine hK.out _ _ ⟨KP8.out.cell 0, KP8.out.cell 1⟩ ?_
              clear hK K
              try simp only [Act.put, List.setIfInBounds_toArray, List.set_cons_zero, List.set_cons_succ]
              refine wpE_done (by decide +kernel) ?_
              clear ef ff
              have d0 : ((W7.setCell ⟨gy, a, none⟩ (.int .i64 (xb + cc))).setCell ⟨gf, a, none⟩ (.int .i64 (b : Int))).cell? ⟨kp, 0, none⟩ = some (.int .i64 (a : Int)) := KP8.out.cell 0
              go_wp2
              go_roundw
              case rel => exact ⟨q + 1, _, by go_num, rfl, hltq, HFN.out, HY8.out, HF8.out, HB8.out⟩
              case measure => simp [intOf]; omega
            · have HFN := Lib.hid (show (s.prs.take (q + 1)).foldl (stp s.c X) (X, List.replicate N (-1), -1) = st by rw [HFS.out, HSTP.out, if_neg hlt3])
              go_wp2
              go_roundw
              case rel => exact ⟨q + 1, st, by go_num, rfl, hltq, HFN.out, HYD.out, HFD.out, HBD.out⟩
              case measure => simp [intOf]; omega
          · obtain rfl : q = s.P.length := by omega
            have hlt4 : ¬ ((s.P.length : Int) < (s.P.length : Int)) := by omega
            have hpl : s.prs.length = s.P.length := by unfold St.prs; rw [List.length_map]
            have hR : RI s.c s.prs N X st := by rw [List.take_of_length_le (by omega)] at hRI; simpa using hRI
            have hrnd : rnd s.c s.prs X = st := by
              have := HST.out
              rw [List.take_of_length_le (by omega)] at this
              unfold rnd
              rw [hXl]
              exact this
            have hxs : xsk s.c s.prs N (r + 1) = st.1 := by
              show (rnd s.c s.prs (xsk s.c s.prs N r)).1 = st.1
              rw [← HXE.out, hrnd]
            have HBW := Lib.hid (show Below w.heap.size w W4 from HOI.out.bel.trans ((HB0.out ▸ HB4.out : Below W.heap.size W W4).mono HOI.out.bel.size))
            have hgyw : w.heap.size ≤ gy := by have := HOI.out.bel.size; omega
            have HPW := hPl
            clear hRI
            rcases hR.ch with ⟨e1, e2⟩ | ⟨u, hu, e1, e2⟩
            · exact absurd (fun v hv => by rw [hxs, e2, HXE.out]) (HSAT.out r hrN)
            · have hu0 : ¬ ((u : Int) < 0) := by omega
              have HNX := Lib.hid (show ∀ j, j < r + 1 → ¬ ∀ v, v < N → (xsk s.c s.prs N (j + 1)).getD v 0 = (xsk s.c s.prs N j).getD v 0 from fun j hj hall => by
                by_cases hjr : j < r
                · exact HNO.out j hjr hall
                · obtain rfl : j = r := by omega
                  have := hall u hu
                  rw [hxs, ← HXE.out] at this
                  omega)
              have HLT := Lib.hid (show st.1.getD u 0 < X.getD u 0 from e2)
              by_cases hrN1 : r + 1 < N
              · have hne : ¬ ((r : Int) + 1 = (N : Int)) := by omega
                obtain ⟨fs, hrow, hfs⟩ := HOI.out.rows
                obtain ⟨i3, hi3, hy0, hy1, hy2⟩ := info_parts Try.info36
                have HB9 : Below W.heap.size W (W4.alloc (.cells #[.slice (some ⟨gf, 0, none⟩) N N] 36)) := by
                  have := (HB0.out ▸ HB4.out : Below W.heap.size W W4)
                  exact this.alloc this.size _
                have hrow9 := own_below hrow HB9
                have HROW9 := Lib.hid hrow9
                have HB9h := Lib.hid HB9
                have HSRC9 := Lib.hid (src_blk (P := Try.prog) (c := 1) (n := 1) (size := 1) (xs := [.slice (some ⟨gf, 0, none⟩) N N]) Try.underlying79 rfl (by simp [Value.oneCell']) (show Blk (W4.alloc (.cells #[.slice (some ⟨gf, 0, none⟩) N N] 36)) W4.heap.size 36 _ from Blk.new _ _ _))
                have HXS := Lib.hid hxs
                have HRN := Lib.hid hrnd
                have HFS9 := Lib.hid hfs
                have HBW9 := Lib.hid (HBW.out.alloc HBW.out.size (.cells #[.slice (some ⟨gf, 0, none⟩) N N] 36))
                rw [e1]
                clear e1 e2 hR hrnd hxs HB9 hrow9 hrow hfs HNO
                go_wp2_with (at_builtin; go_loud (refine wpList_append_src _ rfl _ _ 79 79 rfl w.heap.size 36 i3 _ 1 24 Try.underlying79 hi3 hy0 hy1 hy2 rfl _ r fs rfl HROW9.out _ 1 [.slice (some ⟨gf, 0, none⟩) N N] rfl HSRC9.out (by unfold maxLen; omega) (by omega) HBW9.out.size ?_))
                intro v' W10 own' hg10 _
                have HG10 := Lib.hid (show ∀ (g' : Nat) (T : TypeId) (L : List Int), T ≠ 36 → RW (W4.alloc (.cells #[.slice (some ⟨gf, 0, none⟩) N N] 36)) g' T L → RW W10 g' T L from fun _ _ _ hT h => let ⟨cs, h1, h2⟩ := h; ⟨cs, h1.grown HROW9.out hT hg10, h2⟩)
                have HO10 := Lib.hid own'
                have HBL := Lib.hid (grown_below HBW9.out HBW9.out.size HROW9.out hg10)
                obtain ⟨A', c', rfl, -⟩ := At.of_own own'
                have HOI' := Lib.hid (show OI w W10 s.c s.prs N (r + 1) (.slice (some ⟨gy, 0, none⟩) N cy) (.slice A' (r + 1) c') from by
                  refine ⟨⟨gy, cy, rfl, ?_, hgyw⟩, ⟨_, HO10.out, fun j hj => ?_⟩, HBL.out⟩
                  · rw [HXS.out]
                    exact HG10.out _ _ _ (by decide) (HY4.out.below ((Below.refl _ _).alloc (Nat.le_refl _) _))
                  · by_cases hjr : j < r
                    · obtain ⟨gj, cj, q1, q2⟩ := HFS9.out j hjr
                      refine ⟨gj, cj, ?_, HG10.out _ _ _ (by decide) (q2.below HB9h.out)⟩
                      rw [List.getElem?_append_left (by have := HROW9.out.1; omega)]
                      exact q1
                    · obtain rfl : j = r := by omega
                      refine ⟨gf, N, ?_, HG10.out _ _ _ (by decide) ?_⟩
                      · rw [List.getElem?_append_right (by have := HROW9.out.1; omega)]
                        have := HROW9.out.1
                        rw [show j - fs.length = 0 by omega]
                        rfl
                      · rw [← HXE.out, HRN.out]
                        exact HF4.out.below ((Below.refl _ _).alloc (Nat.le_refl _) _))
                clear own' hg10
                go_wp2
                go_roundw
                case rel => exact ⟨r + 1, by go_num, hrN1, HOI'.out, HNX.out⟩
                case measure => simp [intOf]; omega
              · have hne : ((r : Int) + 1 = (N : Int)) := by omega
                obtain ⟨fs, hrow, hfs⟩ := HOI.out.rows
                obtain ⟨i3, hi3, hy0, hy1, hy2⟩ := info_parts Try.info36
                have HB9 : Below W.heap.size W (W4.alloc (.cells #[.slice (some ⟨gf, 0, none⟩) N N] 36)) := by
                  have := (HB0.out ▸ HB4.out : Below W.heap.size W W4)
                  exact this.alloc this.size _
                have hrow9 := own_below hrow HB9
                have HROW9 := Lib.hid hrow9
                have HB9h := Lib.hid HB9
                have HSRC9 := Lib.hid (src_blk (P := Try.prog) (c := 1) (n := 1) (size := 1) (xs := [.slice (some ⟨gf, 0, none⟩) N N]) Try.underlying79 rfl (by simp [Value.oneCell']) (show Blk (W4.alloc (.cells #[.slice (some ⟨gf, 0, none⟩) N N] 36)) W4.heap.size 36 _ from Blk.new _ _ _))
                have HXS := Lib.hid hxs
                have HRN := Lib.hid hrnd
                have HFS9 := Lib.hid hfs
                have HBW9 := Lib.hid (HBW.out.alloc HBW.out.size (.cells #[.slice (some ⟨gf, 0, none⟩) N N] 36))
                rw [e1]
                clear e1 e2 hR hrnd hxs HB9 hrow9 hrow hfs HNO
                go_wp2_with (at_builtin; go_loud (refine wpList_append_src _ rfl _ _ 79 79 rfl w.heap.size 36 i3 _ 1 24 Try.underlying79 hi3 hy0 hy1 hy2 rfl _ r fs rfl HROW9.out _ 1 [.slice (some ⟨gf, 0, none⟩) N N] rfl HSRC9.out (by unfold maxLen; omega) (by omega) HBW9.out.size ?_))
                intro v' W10 own' hg10 _
                have HG10 := Lib.hid (show ∀ (g' : Nat) (T : TypeId) (L : List Int), T ≠ 36 → RW (W4.alloc (.cells #[.slice (some ⟨gf, 0, none⟩) N N] 36)) g' T L → RW W10 g' T L from fun _ _ _ hT h => let ⟨cs, h1, h2⟩ := h; ⟨cs, h1.grown HROW9.out hT hg10, h2⟩)
                have HO10 := Lib.hid own'
                have HBL := Lib.hid (grown_below HBW9.out HBW9.out.size HROW9.out hg10)
                obtain ⟨A', c', rfl, -⟩ := At.of_own own'
                have HOI' := Lib.hid (show OI w W10 s.c s.prs N (r + 1) (.slice (some ⟨gy, 0, none⟩) N cy) (.slice A' (r + 1) c') from by
                  refine ⟨⟨gy, cy, rfl, ?_, hgyw⟩, ⟨_, HO10.out, fun j hj => ?_⟩, HBL.out⟩
                  · rw [HXS.out]
                    exact HG10.out _ _ _ (by decide) (HY4.out.below ((Below.refl _ _).alloc (Nat.le_refl _) _))
                  · by_cases hjr : j < r
                    · obtain ⟨gj, cj, q1, q2⟩ := HFS9.out j hjr
                      refine ⟨gj, cj, ?_, HG10.out _ _ _ (by decide) (q2.below HB9h.out)⟩
                      rw [List.getElem?_append_left (by have := HROW9.out.1; omega)]
                      exact q1
                    · obtain rfl : j = r := by omega
                      refine ⟨gf, N, ?_, HG10.out _ _ _ (by decide) ?_⟩
                      · rw [List.getElem?_append_right (by have := HROW9.out.1; omega)]
                        have := HROW9.out.1
                        rw [show j - fs.length = 0 by omega]
                        rfl
                      · rw [← HXE.out, HRN.out]
                        exact HF4.out.below ((Below.refl _ _).alloc (Nat.le_refl _) _))
                clear own' hg10
                obtain ⟨nd, hn0, hn1, hn2⟩ := chain_back HP.out r u hu (by rw [HXS.out, ← HXE.out]; exact HLT.out)
                have hrN' : r + 1 = N := by omega
                obtain rfl : nd N = u := by rw [← hrN', hn0]
                have HNDS := Lib.hid (show Nds s N nd from ⟨fun j hj => hn1 j (by omega), fun j hj => hn2 j (by omega)⟩)
                obtain ⟨fs', hrow', hfs'⟩ := HOI'.out.rows
                obtain ⟨A6, c6, e6, hat6, -⟩ := At.of_own hrow'
                injection e6 with e61 e62 e63
                subst e61
                subst e63
                have CY := Lib.hid (cycle_any W10 B g n s (HMX.out.below HBL.out) N HN.out A' c' fs' (fun j => (rnd s.c s.prs (xsk s.c s.prs N j)).2.1) (by rw [← hrN']; exact hat6) (fun j hj => by
                  obtain ⟨gj, cj, q1, q2⟩ := hfs' j (by omega)
                  exact ⟨gj, cj, q1, q2, (xsk_ri (c := s.c) HP.out j).lenf⟩) nd HNDS.out.1 (fun j hj => ⟨(HNDS.out.2 j hj).1, (HNDS.out.2 j hj).2.1⟩))
                clear hrow' hfs' hat6 hn1 hn2 hn0 e62
                go_wp2_with fail
                refine CY.out.mono ?_
                rintro e w9 ⟨A, m, c, i, j, rfl, q1, q2, q3, q4, q5, q6, q7, hb⟩
                have HFI := Lib.hid (show ∃ nd, Nds s N nd ∧ SuP s nd N w (.returned (.tuple #[.slice none 0 0, .slice A m c])) w9 from ⟨nd, HNDS.out, A, m, c, i, j, rfl, q1, q2, q3, q4, q5, q6, q7, HBL.out.trans (hb.mono HBL.out.size)⟩)
                clear q1 q2 q3 q4 q5 q6 q7 hb CY
                go_wp2
                go_ret2
                exact HFI.out
end Go.Proofs.Ytbmofagaammgmaa
