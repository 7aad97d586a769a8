/- The value of an expression: the program. -/
import Derived.Test.YtfhbffgnpedaeaaEvv
import Derived.Test.YtfhbffgnpedaeaaMix
import Derived.Deep.CutRange
namespace Go.Proofs.Ytfhbffgnpedaeaa
open Go.ChangeShapes Go.WideShapes Go.ChangeAt Go.RowKit Go.ChangeMaps

theorem makeV (n : Nat) (hn : n ≤ 1000) (w : World) : (Instr.makeSlice 28 (.int .i64 (n : Int)) (.int .i64 (n : Int))).run Try.prog w = .ok (.slice (some ⟨w.heap.size, 0, none⟩) n n) (w.alloc (.cells (madeCells #[.int .i64 0, .int .i64 0, .string ⟨#[]⟩] (n * 3)) 23)) := by
  obtain ⟨i, hi, hz, hs, hb⟩ := info_parts (show (Try.prog.info? 23).map (fun i => (i.zero, i.size, i.bytes)) = some (some (.agg #[.int .i64 0, .int .i64 0, .string ⟨#[]⟩]), 3, 32) by kernel_rfl)
  have := run_make (P := Try.prog) w 28 23 i _ Try.underlying28 hi hz .i64 .i64 n n (by omega) (Int.le_refl _) (by rw [hb]; omega) (by omega)
  rw [hs] at this
  simp only [Int.toNat_natCast] at this
  rw [this]
  rfl
set_option maxRecDepth 100000 in
set_option maxHeartbeats 4000000 in
theorem Value_any (R : List V3) (x : Ex) : ∀ (w : World) (A : Option Addr) (n c : Nat), ExAt w x → ExSm x → Vls w A n R → n ≤ 9223372036854775807 → (∀ v ∈ R, v.ok) → Calls Try.prog 13 #[x.agg, .slice A n c] w fun e w' => e = .returned (evM R x).agg ∧ Below w.heap.size w w' := by
  refine Ex.ind (p := fun x => ∀ (w : World) (A : Option Addr) (n c : Nat), ExAt w x → ExSm x → Vls w A n R → n ≤ 9223372036854775807 → (∀ v ∈ R, v.ok) → Calls Try.prog 13 #[x.agg, .slice A n c] w fun e w' => e = .returned (evM R x).agg ∧ Below w.heap.size w w') (fun x ih => ?_) x
  intro w A n c h hsm hrow hn hok
  have HIH := Lib.hid (fun y hy W (hW : Below w.heap.size w W) => ih y hy W A n c ((h.arg y hy).keep hW) (hsm.arg y hy) (hrow.below hW) hn hok)
  have HOK := Lib.hid (fun y (hy : y ∈ x.args) => evM_ok R hok y (h.arg y hy))
  have HA := Lib.hid h.at
  have HRA := Lib.hid hrow.at
  have hRl := hrow.len
  have hlen := hsm.len
  obtain ⟨r, hr⟩ : ∃ r, evM R x = r := ⟨_, rfl⟩
  rw [hr]
  rw [evM_eq] at hr
  have HR := Lib.hid hr
  clear hr ih h hsm hrow hok
  unfold Ex.agg V3.agg at *
  obtain ⟨op, hop⟩ : ∃ op, x.op = op := ⟨_, rfl⟩
  rw [hop] at HR ⊢
  clear hop
  have HB0 := Lib.hid (show Below w.heap.size w ((w.alloc (.cells #[.int .i64 op, .string x.tb, .string x.nm, .int .i64 x.ix, .int .i64 x.v.k, .int .i64 x.v.n, .string x.v.s, .slice x.A x.args.length x.c] 26)).alloc (.cells #[.int .i64 0, .int .i64 0, .string ⟨#[]⟩] 23)) from ((Below.refl _ w).alloc (Nat.le_refl _) _).alloc (by simp) _)
  by_cases h1 : op = 1
  · subst h1
    go_enter Try.func13, Try.ntmps13
    go_wp2
    go_returns
    exact ⟨by rw [← HR.out]; rfl, ((Below.refl _ w).alloc (Nat.le_refl _) _).alloc (by simp) _⟩
  have e1 : (op == 1) = false := by simpa using h1
  by_cases h2 : op = 2
  · subst h2
    have HR2 := Lib.hid (show (if x.ix < 0 then nul else R.getD x.ix.toNat nul) = r by rw [← HR.out]; rfl)
    clear HR h1
    obtain ⟨ix, hix⟩ : ∃ ix, x.ix = ix := ⟨_, rfl⟩
    rw [hix] at HR2 HB0 ⊢
    clear hix
    by_cases h3 : ix < 0
    · go_enter Try.func13, Try.ntmps13
      go_wp2
      go_returns
      exact ⟨by rw [← HR2.out, if_pos h3]; rfl, HB0.out⟩
    obtain ⟨i, rfl⟩ : ∃ i : Nat, ix = (i : Int) := ⟨ix.toNat, by omega⟩
    by_cases h4 : i < n
    · obtain ⟨b, off, rfl, hbl, hc⟩ := HRA.out (by omega)
      have hi : i < R.length := by omega
      obtain ⟨c0, c1, c2⟩ := hc w (Below.refl _ _) i hi
      have hbw : b < w.heap.size := hbl
      have HR3 := Lib.hid (show R[i] = r by rw [← HR2.out, if_neg (by omega)]; simp [List.getD, hi])
      have h5 : ¬ (n : Int) ≤ (i : Int) := by omega
      have h6 : (i : Int) < (n : Int) := by omega
      clear hc hbl HRA
      generalize R[i] = y at *
      go_enter Try.func13, Try.ntmps13
      go_wp2
      go_returns
      exact ⟨by rw [← HR3.out], ((Below.refl _ w).alloc (Nat.le_refl _) _).alloc (by simp) _⟩
    · have h5 : (n : Int) ≤ (i : Int) := by omega
      go_enter Try.func13, Try.ntmps13
      go_wp2
      go_returns
      exact ⟨by rw [← HR2.out, if_neg (by omega)]; simp [List.getD, show ¬ i < R.length by omega, nul], HB0.out⟩
  have e2 : (op == 2) = false := by simpa using h2
  have HRC := Lib.hid (show combM op (evL R x.args) = r by rw [← HR.out, if_neg h1, if_neg h2])
  clear HR h1 h2
  have HLM := Lib.hid (evL_map R x.args)
  have hmk := makeV x.args.length hlen
  have HZ := Lib.hid (size_madeCells #[.int .i64 0, .int .i64 0, .string ⟨#[]⟩] (x.args.length * 3))
  obtain ⟨Z, hZ⟩ : ∃ Z, madeCells #[.int .i64 0, .int .i64 0, .string ⟨#[]⟩] (x.args.length * 3) = Z := ⟨_, rfl⟩
  rw [hZ] at HZ
  simp only [hZ] at hmk
  clear hZ
  obtain ⟨W0, hW0⟩ : ∃ W, W = (((w.alloc (.cells #[.int .i64 op, .string x.tb, .string x.nm, .int .i64 x.ix, .int .i64 x.v.k, .int .i64 x.v.n, .string x.v.s, .slice x.A x.args.length x.c] 26)).alloc (.cells #[.int .i64 0, .int .i64 0, .string ⟨#[]⟩] 23)).alloc (.cells Z 23)) := ⟨_, rfl⟩
  have HB1 := Lib.hid (show Below w.heap.size w W0 by rw [hW0]; exact HB0.out.alloc HB0.out.size _)
  have K2 := Lib.hid (show Blk W0 w.heap.size 26 #[.int .i64 op, .string x.tb, .string x.nm, .int .i64 x.ix, .int .i64 x.v.k, .int .i64 x.v.n, .string x.v.s, .slice x.A x.args.length x.c] by rw [hW0]; exact ((Blk.new _ _ _).alloc _).alloc _)
  have K4 := Lib.hid (show Blk W0 (w.heap.size + 1) 23 #[.int .i64 0, .int .i64 0, .string ⟨#[]⟩] by rw [hW0]; exact (Blk.new_ (by simp) rfl : Blk ((w.alloc _).alloc _) _ _ _).alloc _)
  have K5 := Lib.hid (show Blk W0 (w.heap.size + 1 + 1) 23 Z by rw [hW0]; exact Blk.new_ (by simp) rfl)
  go_enter Try.func13, Try.ntmps13
  go_wp2
  rw [← hW0]
  clear hW0 hmk
  go_loopw [39] (fun iv wr => ∃ (i : Nat) (cs : Array Value), iv = .int .i64 (i : Int) ∧ i ≤ x.args.length ∧ ((evL R x.args).take i).any nullB = false ∧ cs.size = x.args.length * 3 ∧ (∀ j (hj : j < (evL R x.args).length), j < i → cs[j * 3]? = some (.int .i64 (evL R x.args)[j].k) ∧ cs[j * 3 + 1]? = some (.int .i64 (evL R x.args)[j].n) ∧ cs[j * 3 + 2]? = some (.string (evL R x.args)[j].s)) ∧ Blk wr w.heap.size 26 #[.int .i64 op, .string x.tb, .string x.nm, .int .i64 x.ix, .int .i64 x.v.k, .int .i64 x.v.n, .string x.v.s, .slice x.A x.args.length x.c] ∧ Blk wr (w.heap.size + 1) 23 #[.int .i64 0, .int .i64 0, .string ⟨#[]⟩] ∧ Blk wr (w.heap.size + 1 + 1) 23 cs ∧ Below w.heap.size w wr) (fun iv _ => x.args.length - (intOf iv).toNat)
  case atStart => exact ⟨0, Z, rfl, Nat.zero_le _, rfl, HZ.out, fun j _ hj => by omega, K2.out, K4.out, K5.out, HB1.out⟩
  case round =>
    obtain ⟨i, cs, rfl, hin, hnn, hcs, hcc, k2, k4, k5, hb⟩ := hrel
    have HB := Lib.hid hb
    have HNN := Lib.hid hnn
    have HCC := Lib.hid hcc
    have HK2 := Lib.hid k2
    have HK4 := Lib.hid k4
    have HK5 := Lib.hid k5
    have HCS := Lib.hid hcs
    clear hb hnn hcc k2 k4 k5 hcs
    by_cases hlt : i < x.args.length
    · have hlti : (i : Int) < x.args.length := by omega
      obtain ⟨b, off, hA, hbl, hc⟩ := HA.out (by omega)
      obtain ⟨c0, c1, c2, c3, c4, c5, c6, c7⟩ := hc wr HB.out i hlt
      have CV := Lib.hid (HIH.out x.args[i] (List.getElem_mem hlt))
      have HLe : (evL R x.args).length = x.args.length := by rw [HLM.out, List.length_map]
      have HGI := Lib.hid (show ∀ (hj : i < (evL R x.args).length), (evL R x.args)[i] = evM R x.args[i] from fun hj => by simp only [HLM.out, List.getElem_map])
      have HYO := Lib.hid (HOK.out x.args[i] (List.getElem_mem hlt))
      clear hc hbl
      have c7' := hA
      rw [hA]
      clear c7' 
      generalize x.args[i] = y at *
      obtain ⟨ev, hev⟩ : ∃ v, evM R y = v := ⟨_, rfl⟩
      rw [hev] at HGI HYO
      simp only [hev] at CV
      clear hev
      go_wp2_with fail
      have hba : Below w.heap.size w (wr.alloc (.cells #[.int .i64 y.op, .string y.tb, .string y.nm, .int .i64 y.ix, .int .i64 y.v.k, .int .i64 y.v.n, .string y.v.s, .slice y.A y.args.length y.c] 26)) := HB.out.alloc HB.out.size _
      refine (CV.out _ hba).mono ?_
      rintro e w2 ⟨rfl, hb⟩
      have K2 := Lib.hid ((HK2.out.alloc (.cells #[.int .i64 y.op, .string y.tb, .string y.nm, .int .i64 y.ix, .int .i64 y.v.k, .int .i64 y.v.n, .string y.v.s, .slice y.A y.args.length y.c] 26)).below hb)
      have K4 := Lib.hid ((HK4.out.alloc (.cells #[.int .i64 y.op, .string y.tb, .string y.nm, .int .i64 y.ix, .int .i64 y.v.k, .int .i64 y.v.n, .string y.v.s, .slice y.A y.args.length y.c] 26)).below hb)
      have K5 := Lib.hid ((HK5.out.alloc (.cells #[.int .i64 y.op, .string y.tb, .string y.nm, .int .i64 y.ix, .int .i64 y.v.k, .int .i64 y.v.n, .string y.v.s, .slice y.A y.args.length y.c] 26)).below hb)
      have HB2 := Lib.hid (hba.trans (hb.mono hba.size))
      clear hb hba HK2 HK4 HK5 HB c0 c1 c2 c3 c4 c5 c6 c7
      obtain ⟨o0, ho0⟩ : ∃ u, cs[i * 3]? = some u := ⟨_, Array.getElem?_eq_getElem (by rw [HCS.out]; omega)⟩
      obtain ⟨o1, ho1⟩ : ∃ u, cs[i * 3 + 1]? = some u := ⟨_, Array.getElem?_eq_getElem (by rw [HCS.out]; omega)⟩
      obtain ⟨o2, ho2⟩ : ∃ u, cs[i * 3 + 2]? = some u := ⟨_, Array.getElem?_eq_getElem (by rw [HCS.out]; omega)⟩
      have d0 : w2.cell? ⟨w.heap.size + 1 + 1, i * 3, none⟩ = some o0 := (K5.out.cell _).trans ho0
      have d1 : w2.cell? ⟨w.heap.size + 1 + 1, i * 3 + 1, none⟩ = some o1 := (K5.out.cell _).trans ho1
      have d2 : w2.cell? ⟨w.heap.size + 1 + 1, i * 3 + 2, none⟩ = some o2 := (K5.out.cell _).trans ho2
      have f0 : w2.frozen? ⟨w.heap.size + 1 + 1, i * 3, none⟩ = false := Joins.unfrozen_of_block K5.out _
      have f1 : w2.frozen? ⟨w.heap.size + 1 + 1, i * 3 + 1, none⟩ = false := Joins.unfrozen_of_block K5.out _
      have f2 : w2.frozen? ⟨w.heap.size + 1 + 1, i * 3 + 2, none⟩ = false := Joins.unfrozen_of_block K5.out _
      go_upto_region 13 with fail
      obtain ⟨w3, hw3⟩ : ∃ W, W = ((w2.setCell ⟨w.heap.size + 1 + 1, i * 3, none⟩ (.int .i64 ev.k)).setCell ⟨w.heap.size + 1 + 1, i * 3 + 1, none⟩ (.int .i64 ev.n)).setCell ⟨w.heap.size + 1 + 1, i * 3 + 2, none⟩ (.string ev.s) := ⟨_, rfl⟩
      rw [← hw3]
      have s1 := store_step K5.out (i * 3) (.int .i64 ev.k)
      have s2 := store_step s1.1 (i * 3 + 1) (.int .i64 ev.n)
      have s3 := store_step s2.1 (i * 3 + 2) (.string ev.s)
      rw [← hw3] at s3
      obtain ⟨ds, hds⟩ : ∃ ds, ds = ((cs.setIfInBounds (i * 3) (.int .i64 ev.k)).setIfInBounds (i * 3 + 1) (.int .i64 ev.n)).setIfInBounds (i * 3 + 2) (.string ev.s) := ⟨_, rfl⟩
      rw [← hds] at s3
      have N5 := Lib.hid s3.1
      have N2 := Lib.hid (s3.2.1 _ _ _ (by omega) (s2.2.1 _ _ _ (by omega) (s1.2.1 _ _ _ (by omega) K2.out)))
      have N4 := Lib.hid (s3.2.1 _ _ _ (by omega) (s2.2.1 _ _ _ (by omega) (s1.2.1 _ _ _ (by omega) K4.out)))
      have HB3 := Lib.hid (s3.2.2 _ _ (s2.2.2 _ _ (s1.2.2 _ _ HB2.out (by omega)) (by omega)) (by omega))
      have NDS := Lib.hid (show ds.size = x.args.length * 3 by rw [hds]; simp [HCS.out])
      have NCC := Lib.hid (show ∀ j (hj : j < (evL R x.args).length), j < i + 1 → ds[j * 3]? = some (.int .i64 (evL R x.args)[j].k) ∧ ds[j * 3 + 1]? = some (.int .i64 (evL R x.args)[j].n) ∧ ds[j * 3 + 2]? = some (.string (evL R x.args)[j].s) from fun j hj hji => by
        rw [hds]
        by_cases hj2 : j = i
        · subst hj2
          have hg := HGI.out hj
          rw [hg]
          have hc := HCS.out
          refine ⟨?_, ?_, ?_⟩
          · rw [Array.getElem?_setIfInBounds_ne (by omega), Array.getElem?_setIfInBounds_ne (by omega), Array.getElem?_setIfInBounds_self_of_lt (by omega)]
          · rw [Array.getElem?_setIfInBounds_ne (by omega), Array.getElem?_setIfInBounds_self_of_lt (by simp; omega)]
          · rw [Array.getElem?_setIfInBounds_self_of_lt (by simp; omega)]
        · obtain ⟨g0, g1, g2⟩ := HCC.out j hj (by omega)
          refine ⟨?_, ?_, ?_⟩
          · rw [Array.getElem?_setIfInBounds_ne (by omega), Array.getElem?_setIfInBounds_ne (by omega), Array.getElem?_setIfInBounds_ne (by omega)]; exact g0
          · rw [Array.getElem?_setIfInBounds_ne (by omega), Array.getElem?_setIfInBounds_ne (by omega), Array.getElem?_setIfInBounds_ne (by omega)]; exact g1
          · rw [Array.getElem?_setIfInBounds_ne (by omega), Array.getElem?_setIfInBounds_ne (by omega), Array.getElem?_setIfInBounds_ne (by omega)]; exact g2)
      clear s1 s2 s3 K2 K4 K5 HB2 d0 d1 d2 f0 f1 f2 ho0 ho1 ho2 hw3 hds HCC HCS
      have hiL : i < (evL R x.args).length := by omega
      have hk0 : w3.cell? ⟨w.heap.size + 1 + 1, i * 3, none⟩ = some (.int .i64 ev.k) := by
        rw [N5.out.cell, (NCC.out i hiL (by omega)).1, HGI.out hiL]
      obtain ⟨kk, hkk⟩ : ∃ k, ev.k = k := ⟨_, rfl⟩
      rw [hkk] at hk0
      have HKK := Lib.hid hkk
      clear hkk
      by_cases hz : kk = 0
      · subst hz
        have HN := Lib.hid (show nul = r by
          rw [← HRC.out]
          unfold combM
          rw [if_pos]
          refine List.any_eq_true.2 ⟨(evL R x.args)[i], List.getElem_mem hiL, ?_⟩
          rw [HGI.out hiL]
          unfold nullB
          rw [HKK.out]
          rfl)
        go_wp2_with ((refine wpList_store_row (o := ⟨none, _, _, _, _, _⟩) rfl 23 _ _ rfl (w.heap.size + 1) #[.int .i64 0, .int .i64 0, .string ⟨#[]⟩] rfl rfl 23 _ N4.out (by kernel_rfl) rfl (by simp [Value.oneCell']) ?_))
        have gr := grown_row w3 (w.heap.size + 1) #[.int .i64 0, .int .i64 0, .string ⟨#[]⟩]
        refine bodyPost_ret (results_c1 rfl _ _ _ (w.heap.size + 1) _ rfl (load23 (N4.out.setRow (ds := #[.int .i64 0, .int .i64 0, .string ⟨#[]⟩])) rfl)) rfl ?_
        exact ⟨by rw [← HN.out]; rfl, HB3.out.grown gr HB3.out.size (fun j hj => by injection hj with hj; omega)⟩
      · have hz1 : (kk == 0) = false := by simpa using hz
        have NNN := Lib.hid (show ((evL R x.args).take (i + 1)).any nullB = false by
          rw [List.take_succ_eq_append_getElem hiL, List.any_append, HNN.out, HGI.out hiL]
          unfold nullB
          simp [HKK.out, hz])
        clear HNN hz
        go_wp2
        go_roundw
        case rel => exact ⟨i + 1, ds, by go_num, hlt, NNN.out, NDS.out, NCC.out, (by rw [← hA]; exact N2.out), N4.out, N5.out, HB3.out⟩
        case measure => simp [intOf]; omega
    · have hi : i = x.args.length := by omega
      subst hi
      have hll : (evL R x.args).length = x.args.length := by rw [HLM.out, List.length_map]
      have HOL := Lib.hid (show ∀ v ∈ evL R x.args, v.ok from fun v hv => by
        rw [HLM.out] at hv
        obtain ⟨y, hy, rfl⟩ := List.mem_map.1 hv
        exact HOK.out y hy)
      have HNA := Lib.hid (show (evL R x.args).any nullB = false by have h := HNN.out; rwa [List.take_of_length_le (by omega)] at h)
      clear HNN HLM HIH HOK HA HRA
      generalize evL R x.args = l at *
      have hc0 : wr.cell? ⟨w.heap.size, 0, none⟩ = some (.int .i64 op) := HK2.out.cell 0
      rcases l with _ | ⟨v0, _ | ⟨v1, _ | ⟨v2, l⟩⟩⟩
      · have m1 : ((x.args.length : Int) == 1) = false := by simp at hll ⊢; omega
        have m2 : ((x.args.length : Int) == 2) = false := by simp at hll ⊢; omega
        have HF := Lib.hid (show nul = r by rw [← HRC.out]; rfl)
        clear hll
        go_wp2_with ((refine wpList_store_row (o := ⟨none, _, _, _, _, _⟩) rfl 23 _ _ rfl (w.heap.size + 1) #[.int .i64 0, .int .i64 0, .string ⟨#[]⟩] rfl rfl 23 _ HK4.out (by kernel_rfl) rfl (by simp [Value.oneCell']) ?_))
        have gr := grown_row wr (w.heap.size + 1) #[.int .i64 0, .int .i64 0, .string ⟨#[]⟩]
        refine bodyPost_ret (results_c1 rfl _ _ _ (w.heap.size + 1) _ rfl (load23 (HK4.out.setRow (ds := #[.int .i64 0, .int .i64 0, .string ⟨#[]⟩])) rfl)) rfl ?_
        exact ⟨by rw [← HF.out]; rfl, HB.out.grown gr HB.out.size (fun j hj => by injection hj with hj; omega)⟩
      · have m1 : ((x.args.length : Int) == 1) = true := by simp at hll ⊢; omega
        have HF := Lib.hid (show unM op v0 = r by rw [← HRC.out]; unfold combM; rw [HNA.out]; rfl)
        obtain ⟨g0, g1, g2⟩ := HCC.out 0 (by simp) (by simp at hll; omega)
        have hv0 := HOL.out v0 (List.mem_cons_self ..)
        have hx1 : 0 < x.args.length := by simp at hll; omega
        clear hll HCC HNA HOL
        simp only [List.getElem_cons_zero, Nat.zero_mul, Nat.zero_add] at g0 g1 g2
        have k0 : wr.cell? ⟨w.heap.size + 1 + 1, 0, none⟩ = some (.int .i64 v0.k) := (HK5.out.cell _).trans g0
        have k1 : wr.cell? ⟨w.heap.size + 1 + 1, 1, none⟩ = some (.int .i64 v0.n) := (HK5.out.cell _).trans g1
        have k2 : wr.cell? ⟨w.heap.size + 1 + 1, 2, none⟩ = some (.string v0.s) := (HK5.out.cell _).trans g2
        have CU := Lib.hid (fun W => unary_any op v0.k v0.n v0.s W (Nat.le_trans hv0.2.2.2.2 (by decide)))
        clear g0 g1 g2 hv0
        obtain ⟨u, hu⟩ : ∃ u, unM op ⟨v0.k, v0.n, v0.s⟩ = u := ⟨_, rfl⟩
        have HU := Lib.hid (show u = r by rw [← hu]; exact HF.out)
        simp only [hu] at CU
        unfold V3.agg at CU
        clear hu HF
        go_wp2_with fail
        have hb : Below wr.heap.size wr wr.drew := below_drew (Below.refl _ _)
        refine wp_region_mix 6 (fun w' => Below wr.heap.size wr w') (by kernel_rfl) (by decide) ?_
        generalize wr.drew = y0 at hb ⊢
        refine wpM_take (i := 0) (oi := ⟨some 62, _, _, _, _, _⟩) (v := ?_) rfl (by decide +kernel) (by decide +kernel) (by decide +kernel) (fun _ _ _ h => h) (Or.inl ⟨by rfl, ?_⟩) hb ?_
        case refine_2 =>
          intro w' hSw
          have hc0' := keepcell hSw hc0
          have k0' := keepcell hSw k0
          have k1' := keepcell hSw k1
          have k2' := keepcell hSw k2
          go_simp
          try (with_reducible rfl)
        try simp only [Act.put, List.setIfInBounds_toArray, List.set_cons_zero, List.set_cons_succ]
        refine wpM_take (i := 1) (oi := ⟨some 63, _, _, _, _, _⟩) (v := ?_) rfl (by decide +kernel) (by decide +kernel) (by decide +kernel) (fun _ _ _ h => h) (Or.inl ⟨by rfl, ?_⟩) hb ?_
        case refine_2 =>
          intro w' hSw
          have hc0' := keepcell hSw hc0
          have k0' := keepcell hSw k0
          have k1' := keepcell hSw k1
          have k2' := keepcell hSw k2
          go_simp
          try (with_reducible rfl)
        try simp only [Act.put, List.setIfInBounds_toArray, List.set_cons_zero, List.set_cons_succ]
        refine wpM_take (i := 2) (oi := ⟨some 64, _, _, _, _, _⟩) (v := ?_) rfl (by decide +kernel) (by decide +kernel) (by decide +kernel) (fun _ _ _ h => h) (Or.inl ⟨by rfl, ?_⟩) hb ?_
        case refine_2 =>
          intro w' hSw
          have hc0' := keepcell hSw hc0
          have k0' := keepcell hSw k0
          have k1' := keepcell hSw k1
          have k2' := keepcell hSw k2
          go_simp
          try (with_reducible rfl)
        try simp only [Act.put, List.setIfInBounds_toArray, List.set_cons_zero, List.set_cons_succ]
        refine wpM_take (i := 3) (oi := ⟨some 65, _, _, _, _, _⟩) (v := ?_) rfl (by decide +kernel) (by decide +kernel) (by decide +kernel) (fun _ _ _ h => h) (Or.inl ⟨by rfl, ?_⟩) hb ?_
        case refine_2 =>
          intro w' hSw
          have hc0' := keepcell hSw hc0
          have k0' := keepcell hSw k0
          have k1' := keepcell hSw k1
          have k2' := keepcell hSw k2
          go_simp
          try (with_reducible rfl)
        try simp only [Act.put, List.setIfInBounds_toArray, List.set_cons_zero, List.set_cons_succ]
        refine wpM_take (i := 4) (oi := ⟨some 66, _, _, _, _, _⟩) (v := ?_) rfl (by decide +kernel) (by decide +kernel) (by decide +kernel) (fun _ _ _ h => h) (Or.inl ⟨by rfl, ?_⟩) hb ?_
        case refine_2 =>
          intro w' hSw
          have hc0' := keepcell hSw hc0
          have k0' := keepcell hSw k0
          have k1' := keepcell hSw k1
          have k2' := keepcell hSw k2
          go_simp
          try (with_reducible rfl)
        try simp only [Act.put, List.setIfInBounds_toArray, List.set_cons_zero, List.set_cons_succ]
        refine wpM_step (i := 5) (o := ⟨some 67, _, _, _, _, _⟩) rfl (by decide +kernel) (by decide) (fun K hK => ?_)
        go_simp
        refine (CU.out _).mono ?_
        rintro e y1 ⟨rfl, hb1⟩
        have hb2 : Below wr.heap.size wr y1 := hb.trans (hb1.mono hb.size)
        refine hK.out _ _ hb2 ?_
        clear hK K
        try simp only [Act.put, List.setIfInBounds_toArray, List.set_cons_zero, List.set_cons_succ]
        refine wpM_done (by decide +kernel) ?_
        simp only [List.drop_succ_cons, List.drop_zero]
        have HBy := Lib.hid (HB.out.trans (hb2.mono HB.out.size))
        have HK4y := Lib.hid (HK4.out.below hb2)
        go_wp2_with ((refine wpList_store_row (o := ⟨none, _, _, _, _, _⟩) rfl 23 _ _ rfl (w.heap.size + 1) #[.int .i64 u.k, .int .i64 u.n, .string u.s] rfl rfl 23 _ HK4y.out (by kernel_rfl) rfl (by simp [Value.oneCell']) ?_))
        have gr := grown_row y1 (w.heap.size + 1) #[.int .i64 u.k, .int .i64 u.n, .string u.s]
        refine bodyPost_ret (results_c1 rfl _ _ _ (w.heap.size + 1) _ rfl (load23 (HK4y.out.setRow (ds := #[.int .i64 u.k, .int .i64 u.n, .string u.s])) rfl)) rfl ?_
        exact ⟨by rw [HU.out], HBy.out.grown gr HBy.out.size (fun j hj => by injection hj with hj; omega)⟩
      · have m1 : ((x.args.length : Int) == 1) = false := by simp at hll ⊢; omega
        have m2 : ((x.args.length : Int) == 2) = true := by simp at hll ⊢; omega
        have HF := Lib.hid (show binM op v0.n v1.n = r by rw [← HRC.out]; unfold combM; rw [HNA.out]; rfl)
        obtain ⟨g0, g1, g2⟩ := HCC.out 0 (by simp) (by simp at hll; omega)
        obtain ⟨j0, j1, j2⟩ := HCC.out 1 (by simp) (by simp at hll; omega)
        have hv0 := HOL.out v0 (List.mem_cons_self ..)
        have hv1 := HOL.out v1 (by simp)
        have hx1 : 0 < x.args.length := by simp at hll; omega
        have hx2 : 1 < x.args.length := by simp at hll; omega
        have hx2i : (1 : Int) < (x.args.length : Int) := by omega
        clear hll HCC HNA HOL
        simp only [List.getElem_cons_zero, List.getElem_cons_succ, Nat.zero_mul, Nat.zero_add, Nat.one_mul, Nat.reduceAdd] at g0 g1 g2 j0 j1 j2
        have k1 : wr.cell? ⟨w.heap.size + 1 + 1, 1, none⟩ = some (.int .i64 v0.n) := (HK5.out.cell _).trans g1
        have k4 : wr.cell? ⟨w.heap.size + 1 + 1, 4, none⟩ = some (.int .i64 v1.n) := (HK5.out.cell _).trans j1
        have CU := Lib.hid (fun W => binary_any op v0.n v1.n W ⟨hv1.2.2.1, hv1.2.2.2.1⟩ ⟨hv0.2.2.1, hv0.2.2.2.1⟩)
        clear g0 g1 g2 j0 j1 j2 hv0 hv1
        obtain ⟨u, hu⟩ : ∃ u, binM op v0.n v1.n = u := ⟨_, rfl⟩
        have HU := Lib.hid (show u = r by rw [← hu]; exact HF.out)
        simp only [hu] at CU
        unfold V3.agg at CU
        clear hu HF
        go_wp2_with fail
        have hb : Below wr.heap.size wr wr.drew := below_drew (Below.refl _ _)
        refine wp_region_mix 11 (fun w' => Below wr.heap.size wr w') (by kernel_rfl) (by decide) ?_
        generalize wr.drew = y0 at hb ⊢
        refine wpM_take (i := 0) (oi := ⟨some 70, _, _, _, _, _⟩) (v := ?_) rfl (by decide +kernel) (by decide +kernel) (by decide +kernel) (fun _ _ _ h => h) (Or.inl ⟨by rfl, ?_⟩) hb ?_
        case refine_2 =>
          intro w' hSw
          have hc0' := keepcell hSw hc0
          have k1' := keepcell hSw k1
          have k4' := keepcell hSw k4
          go_simp
          try (with_reducible rfl)
        try simp only [Act.put, List.setIfInBounds_toArray, List.set_cons_zero, List.set_cons_succ]
        refine wpM_take (i := 1) (oi := ⟨some 71, _, _, _, _, _⟩) (v := ?_) rfl (by decide +kernel) (by decide +kernel) (by decide +kernel) (fun _ _ _ h => h) (Or.inl ⟨by rfl, ?_⟩) hb ?_
        case refine_2 =>
          intro w' hSw
          have hc0' := keepcell hSw hc0
          have k1' := keepcell hSw k1
          have k4' := keepcell hSw k4
          go_simp
          try (with_reducible rfl)
        try simp only [Act.put, List.setIfInBounds_toArray, List.set_cons_zero, List.set_cons_succ]
        refine wpM_take (i := 2) (oi := ⟨some 72, _, _, _, _, _⟩) (v := ?_) rfl (by decide +kernel) (by decide +kernel) (by decide +kernel) (fun _ _ _ h => h) (Or.inl ⟨by rfl, ?_⟩) hb ?_
        case refine_2 =>
          intro w' hSw
          have hc0' := keepcell hSw hc0
          have k1' := keepcell hSw k1
          have k4' := keepcell hSw k4
          go_simp
          try (with_reducible rfl)
        try simp only [Act.put, List.setIfInBounds_toArray, List.set_cons_zero, List.set_cons_succ]
        refine wpM_take (i := 3) (oi := ⟨some 73, _, _, _, _, _⟩) (v := ?_) rfl (by decide +kernel) (by decide +kernel) (by decide +kernel) (fun _ _ _ h => h) (Or.inl ⟨by rfl, ?_⟩) hb ?_
        case refine_2 =>
          intro w' hSw
          have hc0' := keepcell hSw hc0
          have k1' := keepcell hSw k1
          have k4' := keepcell hSw k4
          go_simp
          try (with_reducible rfl)
        try simp only [Act.put, List.setIfInBounds_toArray, List.set_cons_zero, List.set_cons_succ]
        refine wpM_take (i := 4) (oi := ⟨some 74, _, _, _, _, _⟩) (v := ?_) rfl (by decide +kernel) (by decide +kernel) (by decide +kernel) (fun _ _ _ h => h) (Or.inl ⟨by rfl, ?_⟩) hb ?_
        case refine_2 =>
          intro w' hSw
          have hc0' := keepcell hSw hc0
          have k1' := keepcell hSw k1
          have k4' := keepcell hSw k4
          go_simp
          try (with_reducible rfl)
        try simp only [Act.put, List.setIfInBounds_toArray, List.set_cons_zero, List.set_cons_succ]
        refine wpM_take (i := 5) (oi := ⟨some 75, _, _, _, _, _⟩) (v := ?_) rfl (by decide +kernel) (by decide +kernel) (by decide +kernel) (fun _ _ _ h => h) (Or.inl ⟨by rfl, ?_⟩) hb ?_
        case refine_2 =>
          intro w' hSw
          have hc0' := keepcell hSw hc0
          have k1' := keepcell hSw k1
          have k4' := keepcell hSw k4
          go_simp
          try (with_reducible rfl)
        try simp only [Act.put, List.setIfInBounds_toArray, List.set_cons_zero, List.set_cons_succ]
        refine wpM_take (i := 6) (oi := ⟨some 76, _, _, _, _, _⟩) (v := ?_) rfl (by decide +kernel) (by decide +kernel) (by decide +kernel) (fun _ _ _ h => h) (Or.inl ⟨by rfl, ?_⟩) hb ?_
        case refine_2 =>
          intro w' hSw
          have hc0' := keepcell hSw hc0
          have k1' := keepcell hSw k1
          have k4' := keepcell hSw k4
          go_simp
          try (with_reducible rfl)
        try simp only [Act.put, List.setIfInBounds_toArray, List.set_cons_zero, List.set_cons_succ]
        refine wpM_take (i := 7) (oi := ⟨some 77, _, _, _, _, _⟩) (v := ?_) rfl (by decide +kernel) (by decide +kernel) (by decide +kernel) (fun _ _ _ h => h) (Or.inl ⟨by rfl, ?_⟩) hb ?_
        case refine_2 =>
          intro w' hSw
          have hc0' := keepcell hSw hc0
          have k1' := keepcell hSw k1
          have k4' := keepcell hSw k4
          go_simp
          try (with_reducible rfl)
        try simp only [Act.put, List.setIfInBounds_toArray, List.set_cons_zero, List.set_cons_succ]
        refine wpM_take (i := 8) (oi := ⟨some 78, _, _, _, _, _⟩) (v := ?_) rfl (by decide +kernel) (by decide +kernel) (by decide +kernel) (fun _ _ _ h => h) (Or.inl ⟨by rfl, ?_⟩) hb ?_
        case refine_2 =>
          intro w' hSw
          have hc0' := keepcell hSw hc0
          have k1' := keepcell hSw k1
          have k4' := keepcell hSw k4
          go_simp
          try (with_reducible rfl)
        try simp only [Act.put, List.setIfInBounds_toArray, List.set_cons_zero, List.set_cons_succ]
        refine wpM_take (i := 9) (oi := ⟨some 79, _, _, _, _, _⟩) (v := ?_) rfl (by decide +kernel) (by decide +kernel) (by decide +kernel) (fun _ _ _ h => h) (Or.inl ⟨by rfl, ?_⟩) hb ?_
        case refine_2 =>
          intro w' hSw
          have hc0' := keepcell hSw hc0
          have k1' := keepcell hSw k1
          have k4' := keepcell hSw k4
          go_simp
          try (with_reducible rfl)
        try simp only [Act.put, List.setIfInBounds_toArray, List.set_cons_zero, List.set_cons_succ]
        refine wpM_step (i := 10) (o := ⟨some 80, _, _, _, _, _⟩) rfl (by decide +kernel) (by decide) (fun K hK => ?_)
        go_simp
        refine (CU.out _).mono ?_
        rintro e y1 ⟨rfl, hb1⟩
        have hb2 : Below wr.heap.size wr y1 := hb.trans (hb1.mono hb.size)
        refine hK.out _ _ hb2 ?_
        clear hK K
        try simp only [Act.put, List.setIfInBounds_toArray, List.set_cons_zero, List.set_cons_succ]
        refine wpM_done (by decide +kernel) ?_
        simp only [List.drop_succ_cons, List.drop_zero]
        have HBy := Lib.hid (HB.out.trans (hb2.mono HB.out.size))
        have HK4y := Lib.hid (HK4.out.below hb2)
        go_wp2_with ((refine wpList_store_row (o := ⟨none, _, _, _, _, _⟩) rfl 23 _ _ rfl (w.heap.size + 1) #[.int .i64 u.k, .int .i64 u.n, .string u.s] rfl rfl 23 _ HK4y.out (by kernel_rfl) rfl (by simp [Value.oneCell']) ?_))
        have gr := grown_row y1 (w.heap.size + 1) #[.int .i64 u.k, .int .i64 u.n, .string u.s]
        refine bodyPost_ret (results_c1 rfl _ _ _ (w.heap.size + 1) _ rfl (load23 (HK4y.out.setRow (ds := #[.int .i64 u.k, .int .i64 u.n, .string u.s])) rfl)) rfl ?_
        exact ⟨by rw [HU.out], HBy.out.grown gr HBy.out.size (fun j hj => by injection hj with hj; omega)⟩
      · have m1 : ((x.args.length : Int) == 1) = false := by simp at hll ⊢; omega
        have m2 : ((x.args.length : Int) == 2) = false := by simp at hll ⊢; omega
        have HF := Lib.hid (show nul = r by rw [← HRC.out]; unfold combM; rw [HNA.out]; rfl)
        clear hll
        go_wp2_with ((refine wpList_store_row (o := ⟨none, _, _, _, _, _⟩) rfl 23 _ _ rfl (w.heap.size + 1) #[.int .i64 0, .int .i64 0, .string ⟨#[]⟩] rfl rfl 23 _ HK4.out (by kernel_rfl) rfl (by simp [Value.oneCell']) ?_))
        have gr := grown_row wr (w.heap.size + 1) #[.int .i64 0, .int .i64 0, .string ⟨#[]⟩]
        refine bodyPost_ret (results_c1 rfl _ _ _ (w.heap.size + 1) _ rfl (load23 (HK4.out.setRow (ds := #[.int .i64 0, .int .i64 0, .string ⟨#[]⟩])) rfl)) rfl ?_
        exact ⟨by rw [← HF.out]; rfl, HB.out.grown gr HB.out.size (fun j hj => by injection hj with hj; omega)⟩
end Go.Proofs.Ytfhbffgnpedaeaa
