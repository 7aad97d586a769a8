/- The reference's Of. -/
import Derived.Test.YtbmofagaammgmaaDof
import Derived.Test.YtbmofagaammgmaaDaf
import Derived.Test.YtbmofagaammgmaaDlm
import Derived.BigQuiet
namespace Go.Proofs.Ytbmofagaammgmaa
open Go.ChangeShapes Go.WideShapes Go.ChangeAt Go.RowKit Go.ChangeMaps

theorem results_c2 {fn : Func} {p u : Tmp} {ty : TypeId} (h : fn.results = #[.cell p ty, .tmp u]) (tmps : Array Value) (P : Program) (w : World) (g : Nat) (X : Value)
    (hp : tmps.getD p undef = .pointer (some ⟨g, 0, none⟩)) (h1 : (loadVar ty ⟨g, 0, none⟩).run P w = .ok X w) : (results fn tmps).run P w = .ok (.tuple #[X, tmps.getD u undef]) w := by
  have hp' : tmps[p]?.getD undef = .pointer (some ⟨g, 0, none⟩) := by simpa using hp
  simp [results, h, hp', asAddr, h1, Sem.run_bind, Result.andThen]
theorem load41 {w : World} {g : Nat} {cs : Array Value} (h : Blk w g 41 cs) (hs : cs.size = 3) : (loadVar 41 ⟨g, 0, none⟩).run Try.prog w = .ok (.agg cs) w :=
  run_loadVar_row w g 41 41 cs (0, 0) _ h Try.underlying41 rfl (by rw [hs]; kernel_rfl)
theorem store_step {W : World} {g : Nat} {T : TypeId} {cs : Array Value} (h : Blk W g T cs) (j : Nat) (v : Value) : Blk (W.setCell ⟨g, j, none⟩ v) g T (cs.setIfInBounds j v) ∧ (∀ B w0, Below B w0 W → B ≤ g → Below B w0 (W.setCell ⟨g, j, none⟩ v)) := by
  have gs := grown_set W g j v
  exact ⟨Joins.block_setCell h _, fun B w0 hb hg => hb.grown gs (Nat.le_trans hg (Nat.le_of_lt h.lt)) (fun j hj => by injection hj with hj; omega)⟩
theorem store3 {W : World} {g : Nat} {T : TypeId} {a b c : Value} (h : Blk W g T #[a, b, c]) (x y z : Value) : Blk (((W.setCell ⟨g, 0, none⟩ x).setCell ⟨g, 1, none⟩ y).setCell ⟨g, 2, none⟩ z) g T #[x, y, z] ∧ (∀ B w0, Below B w0 W → B ≤ g → Below B w0 (((W.setCell ⟨g, 0, none⟩ x).setCell ⟨g, 1, none⟩ y).setCell ⟨g, 2, none⟩ z)) := by
  have s0 := store_step h 0 x
  have s1 := store_step s0.1 1 y
  have s2 := store_step s1.1 2 z
  exact ⟨s2.1, fun B w0 hb hg => s2.2 _ _ (s1.2 _ _ (s0.2 _ _ hb hg) hg) hg⟩
def rofV : Option (Int × Int × Int) → Value
  | none => .tuple #[.agg #[.int .i64 0, .int .i64 0, .int .i64 0], .bool false]
  | some r => .tuple #[.agg #[.int .i64 r.1, .int .i64 r.2.1, .int .i64 r.2.2], .bool true]
def ROfP (r : Option (Int × Int × Int)) (w : World) (e : Ending) (w' : World) : Prop := e = .returned (rofV r) ∧ Below w.heap.size w w'
set_option maxRecDepth 100000 in
set_option maxHeartbeats 4000000 in
theorem ROf_any (A : Option Addr) (m cap : Nat) (C : List (Int × Int)) (k : Int) (eq : Bool) (n : Int) (w : World) (h : Cfs w A m C) (hm : m ≤ 1000) (hn1 : -9223372036854775808 ≤ n) (hn2 : n ≤ 9223372036854775807) :
    Calls Try.prog 24 #[.agg #[.int .i64 k, .slice A m cap, .bool eq], .int .i64 n] w (ROfP (rofM C k eq n) w) := by
  have HL := Lib.hid h.len
  have HA := Lib.hid h.at
  obtain ⟨r, hr⟩ : ∃ r, rofM C k eq n = r := ⟨_, rfl⟩
  have HE := Lib.hid hr
  rw [hr]
  obtain ⟨k1, hk1⟩ : ∃ k1, k1 = w.heap.size := ⟨_, rfl⟩
  obtain ⟨k2, hk2⟩ : ∃ k2, k2 = k1 + 1 := ⟨_, rfl⟩
  obtain ⟨W1, hW1⟩ : ∃ W1, W1 = (w.alloc (.cells #[.int .i64 k, .slice A m cap, .bool eq] 52)).alloc (.cells #[.int .i64 0, .int .i64 0, .int .i64 0] 41) := ⟨_, rfl⟩
  have HB := Lib.hid (show Below w.heap.size w W1 by rw [hW1]; exact ((Below.refl _ _).alloc (Nat.le_refl _) _).alloc (by simp) _)
  have KA := Lib.hid (show Blk W1 k1 52 #[.int .i64 k, .slice A m cap, .bool eq] by rw [hW1, hk1]; exact (Blk.new _ _ _).alloc _)
  have KB := Lib.hid (show Blk W1 k2 41 #[.int .i64 0, .int .i64 0, .int .i64 0] by rw [hW1]; exact Blk.new_ (by rw [hk2, hk1]; simp) rfl)
  have hk2w : w.heap.size ≤ k2 := by omega
  clear h hr
  have a0 : W1.cell? ⟨k1, 0, none⟩ = some (.int .i64 k) := KA.out.cell 0
  have a1 : W1.cell? ⟨k1, 1, none⟩ = some (.slice A m cap) := KA.out.cell 1
  have a2 : W1.cell? ⟨k1, 2, none⟩ = some (.bool eq) := KA.out.cell 2
  have b0 : W1.cell? ⟨k2, 0, none⟩ = some (.int .i64 0) := KB.out.cell 0
  have b1 : W1.cell? ⟨k2, 1, none⟩ = some (.int .i64 0) := KB.out.cell 1
  have b2 : W1.cell? ⟨k2, 2, none⟩ = some (.int .i64 0) := KB.out.cell 2
  have f0 : W1.frozen? ⟨k2, 0, none⟩ = false := Joins.unfrozen_of_block KB.out 0
  have f1 : W1.frozen? ⟨k2, 1, none⟩ = false := Joins.unfrozen_of_block KB.out 1
  have f2 : W1.frozen? ⟨k2, 2, none⟩ = false := Joins.unfrozen_of_block KB.out 2
  have hwn : IntKind.i64.wrap (-1125899906842624) = -1125899906842624 := by decide
  by_cases h0 : eq = true ∨ k < -lim ∨ k > lim ∨ C.length < 1 ∨ C.length > 2
  · have HR := Lib.hid (show r = none by rw [← HE.out]; unfold rofM; rw [if_pos h0])
    clear HE
    rw [HL.out] at h0
    unfold lim at h0
    cases eq
    · by_cases g1 : k < -1125899906842624
      · clear h0
        go_enter Try.func24, Try.ntmps24
        go_upto_region 1 with fail
        rw [← hk1, ← hk2, ← hW1]
        clear hW1 hk1 hk2
        go_wp2_with fail
        refine (limit_any _).mono ?_
        rintro e y ⟨rfl, hy⟩
        subst y
        have HS3 := Lib.hid (store3 KB.out (.int .i64 0) (.int .i64 0) (.int .i64 0))
        go_wp2
        try simp only [Exit.inBlock, Exit.then]
        refine bodyPost_ret (results_c2 rfl _ _ _ k2 _ rfl (load41 HS3.out.1 rfl)) rfl ?_
        exact ⟨by rw [HR.out]; rfl, HS3.out.2 _ _ HB.out hk2w⟩
      by_cases g2 : k > 1125899906842624
      · clear h0
        go_enter Try.func24, Try.ntmps24
        go_upto_region 1 with fail
        rw [← hk1, ← hk2, ← hW1]
        clear hW1 hk1 hk2
        go_wp2_with fail
        refine (limit_any _).mono ?_
        rintro e y ⟨rfl, hy⟩
        subst y
        go_wp2_with fail
        refine (limit_any _).mono ?_
        rintro e y ⟨rfl, hy⟩
        subst y
        have HS3 := Lib.hid (store3 KB.out (.int .i64 0) (.int .i64 0) (.int .i64 0))
        go_wp2
        try simp only [Exit.inBlock, Exit.then]
        refine bodyPost_ret (results_c2 rfl _ _ _ k2 _ rfl (load41 HS3.out.1 rfl)) rfl ?_
        exact ⟨by rw [HR.out]; rfl, HS3.out.2 _ _ HB.out hk2w⟩
      by_cases g3 : m < 1
      · have g3' : (m : Int) < 1 := by omega
        clear h0
        go_enter Try.func24, Try.ntmps24
        go_upto_region 1 with fail
        rw [← hk1, ← hk2, ← hW1]
        clear hW1 hk1 hk2
        go_wp2_with fail
        refine (limit_any _).mono ?_
        rintro e y ⟨rfl, hy⟩
        subst y
        go_wp2_with fail
        refine (limit_any _).mono ?_
        rintro e y ⟨rfl, hy⟩
        subst y
        have HS3 := Lib.hid (store3 KB.out (.int .i64 0) (.int .i64 0) (.int .i64 0))
        go_wp2
        try simp only [Exit.inBlock, Exit.then]
        refine bodyPost_ret (results_c2 rfl _ _ _ k2 _ rfl (load41 HS3.out.1 rfl)) rfl ?_
        exact ⟨by rw [HR.out]; rfl, HS3.out.2 _ _ HB.out hk2w⟩
      have g4 : m > 2 := by
        rcases h0 with h0 | h0 | h0 | h0 | h0
        · cases h0
        · exact absurd h0 g1
        · exact absurd h0 g2
        · exact absurd h0 g3
        · exact h0
      have g3' : ¬ (m : Int) < 1 := by omega
      have g4' : (m : Int) > 2 := by omega
      clear h0
      go_enter Try.func24, Try.ntmps24
      go_upto_region 1 with fail
      rw [← hk1, ← hk2, ← hW1]
      clear hW1 hk1 hk2
      go_wp2_with fail
      refine (limit_any _).mono ?_
      rintro e y ⟨rfl, hy⟩
      subst y
      go_wp2_with fail
      refine (limit_any _).mono ?_
      rintro e y ⟨rfl, hy⟩
      subst y
      have HS3 := Lib.hid (store3 KB.out (.int .i64 0) (.int .i64 0) (.int .i64 0))
      go_wp2
      try simp only [Exit.inBlock, Exit.then]
      refine bodyPost_ret (results_c2 rfl _ _ _ k2 _ rfl (load41 HS3.out.1 rfl)) rfl ?_
      exact ⟨by rw [HR.out]; rfl, HS3.out.2 _ _ HB.out hk2w⟩
    · clear h0
      go_enter Try.func24, Try.ntmps24
      go_upto_region 1 with fail
      rw [← hk1, ← hk2, ← hW1]
      clear hW1 hk1 hk2
      have HS3 := Lib.hid (store3 KB.out (.int .i64 0) (.int .i64 0) (.int .i64 0))
      go_wp2
      try simp only [Exit.inBlock, Exit.then]
      refine bodyPost_ret (results_c2 rfl _ _ _ k2 _ rfl (load41 HS3.out.1 rfl)) rfl ?_
      exact ⟨by rw [HR.out]; rfl, HS3.out.2 _ _ HB.out hk2w⟩
  · have heq : eq = false := by cases eq with | false => rfl | true => exact absurd (.inl rfl) h0
    subst heq
    have g1 : ¬ k < -1125899906842624 := fun h => h0 (.inr (.inl h))
    have g2 : ¬ k > 1125899906842624 := fun h => h0 (.inr (.inr (.inl h)))
    have g3 : ¬ (m : Int) < 1 := fun h => h0 (.inr (.inr (.inr (.inl (by rw [HL.out]; omega)))))
    have g4 : ¬ (m : Int) > 2 := fun h => h0 (.inr (.inr (.inr (.inr (by rw [HL.out]; omega)))))
    have HBD := Lib.hid (show C.any (badC n) = true → r = none from fun hb => by rw [← HE.out]; unfold rofM; rw [if_neg h0, if_pos hb])
    have HO := Lib.hid (show ∀ x, C = [x] → C.any (badC n) = false → r = if x.2 = 1 then some (x.1, n, -k) else some (n, x.1, -k) from fun x hx hb => by
      subst hx
      rw [← HE.out]
      unfold rofM
      rw [if_neg h0, if_neg (by rw [hb]; simp)])
    have HT := Lib.hid (show ∀ x y, C = [x, y] → C.any (badC n) = false → r = if x.2 = y.2 ∨ x.1 = y.1 then none else if x.2 = 1 then some (x.1, y.1, -k) else some (y.1, x.1, -k) from fun x y hx hb => by
      subst hx
      rw [← HE.out]
      unfold rofM
      rw [if_neg h0, if_neg (by rw [hb]; simp)])
    clear HE h0
    have hwk : IntKind.i64.wrap (-k) = -k := IntWalk.i64_in _ (by omega)
    go_enter Try.func24, Try.ntmps24
    go_upto_region 1 with fail
    rw [← hk1, ← hk2, ← hW1]
    clear hW1 hk1 hk2
    go_wp2_with fail
    refine (limit_any _).mono ?_
    rintro e y ⟨rfl, hy⟩
    subst y
    go_wp2_with fail
    refine (limit_any _).mono ?_
    rintro e y ⟨rfl, hy⟩
    subst y
    go_wp2
    go_loopw [8] (fun s8 wr => ∃ q : Nat, s8 = .int .i64 (q : Int) ∧ q ≤ m ∧ wr = W1 ∧ (C.take q).any (badC n) = false) (fun s8 _ => m - (intOf s8).toNat)
    case atStart => exact ⟨0, rfl, Nat.zero_le _, rfl, rfl⟩
    case round =>
      obtain ⟨q, rfl, hqm, rfl, hany⟩ := hrel
      have HAN := Lib.hid hany
      clear hany
      by_cases hlt : q < m
      · have hqi : (q : Int) < m := by omega
        have hq0 : (0 : Int) ≤ (q : Int) := by omega
        obtain ⟨b, off, rfl, hbl, hc⟩ := HA.out (by omega)
        have hqC : q < C.length := by rw [HL.out]; exact hlt
        obtain ⟨c0, c1⟩ := hc wr HB.out q hqC
        have HNX := Lib.hid (show (C.take (q + 1)).any (badC n) = badC n C[q] by rw [List.take_succ_eq_append_getElem hqC, List.any_append, HAN.out]; simp)
        have HBAD := Lib.hid (show badC n C[q] = true → r = none from fun hb => by
          refine HBD.out ?_
          rw [List.any_eq_true]
          exact ⟨_, List.getElem_mem hqC, hb⟩)
        clear hc hbl
        generalize C[q] = x at *
        obtain ⟨xv, xn⟩ := x
        dsimp only at c0 c1
        by_cases g5 : xv < 0
        · have HR := Lib.hid (HBAD.out (by unfold badC; simp [g5]))
          have HS3 := Lib.hid (store3 KB.out (.int .i64 0) (.int .i64 0) (.int .i64 0))
          go_wp2
          try simp only [Exit.inBlock, Exit.then]
          refine bodyPost_ret (results_c2 rfl _ _ _ k2 _ rfl (load41 HS3.out.1 rfl)) rfl ?_
          exact ⟨by rw [HR.out]; rfl, HS3.out.2 _ _ HB.out hk2w⟩
        by_cases g6 : xv ≥ n
        · have HR := Lib.hid (HBAD.out (by unfold badC; simp [g6]))
          have HS3 := Lib.hid (store3 KB.out (.int .i64 0) (.int .i64 0) (.int .i64 0))
          go_wp2
          try simp only [Exit.inBlock, Exit.then]
          refine bodyPost_ret (results_c2 rfl _ _ _ k2 _ rfl (load41 HS3.out.1 rfl)) rfl ?_
          exact ⟨by rw [HR.out]; rfl, HS3.out.2 _ _ HB.out hk2w⟩
        by_cases g7 : xn = 1
        · have HG := Lib.hid (show (C.take (q + 1)).any (badC n) = false by rw [HNX.out]; unfold badC; simp [g7]; omega)
          subst g7
          go_wp2
          go_roundw
          case rel => exact ⟨q + 1, by go_num, hlt, trivial, HG.out⟩
          case measure => simp [intOf]; omega
        by_cases g8 : xn = -1
        · have HG := Lib.hid (show (C.take (q + 1)).any (badC n) = false by rw [HNX.out]; unfold badC; simp [g8]; omega)
          subst g8
          go_wp2
          go_roundw
          case rel => exact ⟨q + 1, by go_num, hlt, trivial, HG.out⟩
          case measure => simp [intOf]; omega
        · have HR := Lib.hid (HBAD.out (by unfold badC; simp [g7, g8]))
          have g7' : (xn == 1) = false := by simpa using g7
          have g8' : (xn != 1) = true := by simpa using g7
          have g8'' : (xn != -1) = true := by simpa using g8
          have HS3 := Lib.hid (store3 KB.out (.int .i64 0) (.int .i64 0) (.int .i64 0))
          go_wp2
          try simp only [Exit.inBlock, Exit.then]
          refine bodyPost_ret (results_c2 rfl _ _ _ k2 _ rfl (load41 HS3.out.1 rfl)) rfl ?_
          exact ⟨by rw [HR.out]; rfl, HS3.out.2 _ _ HB.out hk2w⟩
      · obtain rfl : q = m := by omega
        have hlt2 : ¬ ((q : Int) < (q : Int)) := by omega
        have HGD := Lib.hid (show C.any (badC n) = false by have := HAN.out; rwa [List.take_of_length_le (by rw [HL.out]; exact Nat.le_refl _)] at this)
        clear HBD HAN
        obtain ⟨b, off, rfl, hbl, hc⟩ := HA.out (by omega)
        have HCA := Lib.hid hc
        clear hc hbl
        rcases (show q = 1 ∨ q = 2 by omega) with rfl | rfl
        · obtain ⟨⟨xv, xn⟩, rfl⟩ := List.length_eq_one_iff.1 HL.out
          have HE2 := Lib.hid (HO.out _ rfl HGD.out)
          dsimp only at HE2
          obtain ⟨c0, c1⟩ := HCA.out wr HB.out 0 (by simp)
          simp only [List.getElem_cons_zero, Nat.zero_mul, Nat.add_zero] at c0 c1
          by_cases g7 : xn = 1
          · have HR := Lib.hid (show r = some (xv, n, -k) by rw [HE2.out]; rw [if_pos g7])
            subst g7
            have HS3 := Lib.hid (store3 KB.out (.int .i64 xv) (.int .i64 n) (.int .i64 (-k)))
            go_wp2
            try simp only [Exit.inBlock, Exit.then]
            refine bodyPost_ret (results_c2 rfl _ _ _ k2 _ rfl (load41 HS3.out.1 rfl)) rfl ?_
            exact ⟨by rw [HR.out]; rfl, HS3.out.2 _ _ HB.out hk2w⟩
          · have g7' : (xn == 1) = false := by simpa using g7
            have HR := Lib.hid (show r = some (n, xv, -k) by rw [HE2.out]; rw [if_neg g7])
            have HS3 := Lib.hid (store3 KB.out (.int .i64 n) (.int .i64 xv) (.int .i64 (-k)))
            go_wp2
            try simp only [Exit.inBlock, Exit.then]
            refine bodyPost_ret (results_c2 rfl _ _ _ k2 _ rfl (load41 HS3.out.1 rfl)) rfl ?_
            exact ⟨by rw [HR.out]; rfl, HS3.out.2 _ _ HB.out hk2w⟩
        · obtain ⟨⟨xv, xn⟩, ⟨yv, yn⟩, rfl⟩ : ∃ x y, C = [x, y] := by
            match C, HL.out with
            | [x, y], _ => exact ⟨x, y, rfl⟩
          have HE2 := Lib.hid (HT.out _ _ rfl HGD.out)
          dsimp only at HE2
          obtain ⟨c0, c1⟩ := HCA.out wr HB.out 0 (by simp)
          obtain ⟨d0, d1⟩ := HCA.out wr HB.out 1 (by simp)
          simp only [List.getElem_cons_zero, List.getElem_cons_succ, Nat.zero_mul, Nat.one_mul, Nat.add_zero] at c0 c1 d0 d1
          have HC0 := Lib.hid (show ∀ W', Below w.heap.size w W' → W'.cell? ⟨b, off, none⟩ = some (.int .i64 xv) ∧ W'.cell? ⟨b, off + 2, none⟩ = some (.int .i64 yv) from fun W' hW => by
            obtain ⟨q0, -⟩ := HCA.out W' hW 0 (by simp)
            obtain ⟨q1, -⟩ := HCA.out W' hW 1 (by simp)
            simp only [List.getElem_cons_zero, List.getElem_cons_succ, Nat.zero_mul, Nat.one_mul, Nat.add_zero] at q0 q1
            exact ⟨q0, q1⟩)
          clear HCA
          by_cases g5 : xn = yn
          · have HR := Lib.hid (show r = none by rw [HE2.out]; rw [if_pos (.inl g5)])
            subst g5
            go_upto_region 14 with fail
            have hb0 : Below wr.heap.size wr wr.drew := below_drew (Below.refl _ _)
            refine wp_region_mixE (fun w' => Below wr.heap.size wr w') (by kernel_rfl) ?_
            have HBD := Lib.hid (HB.out.trans (hb0.mono HB.out.size))
            have KBD := Lib.hid (KB.out.below hb0)
            have c0n := keepcell hb0 c0
            have c1n := keepcell hb0 c1
            have d0n := keepcell hb0 d0
            have d1n := keepcell hb0 d1
            generalize wr.drew = y0 at hb0 HBD KBD c0n c1n d0n d1n ⊢
            refine wpE_take (i := 0) (oi := ⟨some 101, _, _, _, _, _⟩) (v := ?_) rfl (by decide +kernel) (by decide +kernel) (by decide +kernel) (fun _ _ _ h => h) (Or.inl ⟨by rfl, ?_⟩) hb0 ?_
            case refine_2 =>
              intro w' hSw
              have c0' := keepcell hSw c0
              have c1' := keepcell hSw c1
              have d0' := keepcell hSw d0
              have d1' := keepcell hSw d1
              go_simp
              try (with_reducible rfl)
            try simp only [Act.put, List.setIfInBounds_toArray, List.set_cons_zero, List.set_cons_succ]
            refine wpE_take (i := 1) (oi := ⟨some 102, _, _, _, _, _⟩) (v := ?_) rfl (by decide +kernel) (by decide +kernel) (by decide +kernel) (fun _ _ _ h => h) (Or.inl ⟨by rfl, ?_⟩) hb0 ?_
            case refine_2 =>
              intro w' hSw
              have c0' := keepcell hSw c0
              have c1' := keepcell hSw c1
              have d0' := keepcell hSw d0
              have d1' := keepcell hSw d1
              go_simp
              try (with_reducible rfl)
            try simp only [Act.put, List.setIfInBounds_toArray, List.set_cons_zero, List.set_cons_succ]
            refine wpE_take (i := 2) (oi := ⟨some 103, _, _, _, _, _⟩) (v := ?_) rfl (by decide +kernel) (by decide +kernel) (by decide +kernel) (fun _ _ _ h => h) (Or.inl ⟨by rfl, ?_⟩) hb0 ?_
            case refine_2 =>
              intro w' hSw
              have c0' := keepcell hSw c0
              have c1' := keepcell hSw c1
              have d0' := keepcell hSw d0
              have d1' := keepcell hSw d1
              go_simp
              try (with_reducible rfl)
            try simp only [Act.put, List.setIfInBounds_toArray, List.set_cons_zero, List.set_cons_succ]
            refine wpE_take (i := 3) (oi := ⟨some 104, _, _, _, _, _⟩) (v := ?_) rfl (by decide +kernel) (by decide +kernel) (by decide +kernel) (fun _ _ _ h => h) (Or.inl ⟨by rfl, ?_⟩) hb0 ?_
            case refine_2 =>
              intro w' hSw
              have c0' := keepcell hSw c0
              have c1' := keepcell hSw c1
              have d0' := keepcell hSw d0
              have d1' := keepcell hSw d1
              go_simp
              try (with_reducible rfl)
            try simp only [Act.put, List.setIfInBounds_toArray, List.set_cons_zero, List.set_cons_succ]
            refine wpE_take (i := 4) (oi := ⟨some 105, _, _, _, _, _⟩) (v := ?_) rfl (by decide +kernel) (by decide +kernel) (by decide +kernel) (fun _ _ _ h => h) (Or.inl ⟨by rfl, ?_⟩) hb0 ?_
            case refine_2 =>
              intro w' hSw
              have c0' := keepcell hSw c0
              have c1' := keepcell hSw c1
              have d0' := keepcell hSw d0
              have d1' := keepcell hSw d1
              go_simp
              try (with_reducible rfl)
            try simp only [Act.put, List.setIfInBounds_toArray, List.set_cons_zero, List.set_cons_succ]
            refine wpE_take (i := 5) (oi := ⟨some 106, _, _, _, _, _⟩) (v := ?_) rfl (by decide +kernel) (by decide +kernel) (by decide +kernel) (fun _ _ _ h => h) (Or.inl ⟨by rfl, ?_⟩) hb0 ?_
            case refine_2 =>
              intro w' hSw
              have c0' := keepcell hSw c0
              have c1' := keepcell hSw c1
              have d0' := keepcell hSw d0
              have d1' := keepcell hSw d1
              go_simp
              try (with_reducible rfl)
            try simp only [Act.put, List.setIfInBounds_toArray, List.set_cons_zero, List.set_cons_succ]
            refine wpE_take (i := 6) (oi := ⟨some 107, _, _, _, _, _⟩) (v := ?_) rfl (by decide +kernel) (by decide +kernel) (by decide +kernel) (fun _ _ _ h => h) (Or.inl ⟨by rfl, ?_⟩) hb0 ?_
            case refine_2 =>
              intro w' hSw
              have c0' := keepcell hSw c0
              have c1' := keepcell hSw c1
              have d0' := keepcell hSw d0
              have d1' := keepcell hSw d1
              go_simp
              try (with_reducible rfl)
            try simp only [Act.put, List.setIfInBounds_toArray, List.set_cons_zero, List.set_cons_succ]
            refine wpE_take (i := 7) (oi := ⟨some 108, _, _, _, _, _⟩) (v := ?_) rfl (by decide +kernel) (by decide +kernel) (by decide +kernel) (fun _ _ _ h => h) (Or.inl ⟨by rfl, ?_⟩) hb0 ?_
            case refine_2 =>
              intro w' hSw
              have c0' := keepcell hSw c0
              have c1' := keepcell hSw c1
              have d0' := keepcell hSw d0
              have d1' := keepcell hSw d1
              go_simp
              try (with_reducible rfl)
            try simp only [Act.put, List.setIfInBounds_toArray, List.set_cons_zero, List.set_cons_succ]
            refine wpE_take (i := 8) (oi := ⟨some 109, _, _, _, _, _⟩) (v := .bool true) rfl (by decide +kernel) (by decide +kernel) (by decide +kernel) (fun _ _ _ h => h) (Or.inl ⟨by rfl, ?_⟩) hb0 ?_
            case refine_1 =>
              intro w' hSw
              have c0' := keepcell hSw c0
              have c1' := keepcell hSw c1
              have d0' := keepcell hSw d0
              have d1' := keepcell hSw d1
              go_simp
              try (with_reducible rfl)
            try simp only [Act.put, List.setIfInBounds_toArray, List.set_cons_zero, List.set_cons_succ]
            refine wpE_take (i := 9) (oi := ⟨some 110, _, _, _, _, _⟩) (v := .bool true) rfl (by decide +kernel) (by decide +kernel) (by decide +kernel) (fun _ _ _ h => h) (Or.inl ⟨by rfl, ?_⟩) hb0 ?_
            case refine_1 =>
              intro w' hSw
              have c0' := keepcell hSw c0
              have c1' := keepcell hSw c1
              have d0' := keepcell hSw d0
              have d1' := keepcell hSw d1
              go_simp
              try (with_reducible rfl)
            try simp only [Act.put, List.setIfInBounds_toArray, List.set_cons_zero, List.set_cons_succ]
            refine wpE_take (i := 10) (oi := ⟨some 111, _, _, _, _, _⟩) (v := undef) rfl (by decide +kernel) (by decide +kernel) (by decide +kernel) (fun _ _ _ h => h) (Or.inr ⟨by rfl, rfl⟩) hb0 ?_
            try simp only [Act.put, List.setIfInBounds_toArray, List.set_cons_zero, List.set_cons_succ]
            refine wpE_take (i := 11) (oi := ⟨some 112, _, _, _, _, _⟩) (v := undef) rfl (by decide +kernel) (by decide +kernel) (by decide +kernel) (fun _ _ _ h => h) (Or.inr ⟨by rfl, rfl⟩) hb0 ?_
            try simp only [Act.put, List.setIfInBounds_toArray, List.set_cons_zero, List.set_cons_succ]
            refine wpE_take (i := 12) (oi := ⟨some 113, _, _, _, _, _⟩) (v := undef) rfl (by decide +kernel) (by decide +kernel) (by decide +kernel) (fun _ _ _ h => h) (Or.inr ⟨by rfl, rfl⟩) hb0 ?_
            try simp only [Act.put, List.setIfInBounds_toArray, List.set_cons_zero, List.set_cons_succ]
            refine wpE_take (i := 13) (oi := ⟨some 114, _, _, _, _, _⟩) (v := undef) rfl (by decide +kernel) (by decide +kernel) (by decide +kernel) (fun _ _ _ h => h) (Or.inr ⟨by rfl, rfl⟩) hb0 ?_
            try simp only [Act.put, List.setIfInBounds_toArray, List.set_cons_zero, List.set_cons_succ]
            refine wpE_take (i := 14) (oi := ⟨some 115, _, _, _, _, _⟩) (v := undef) rfl (by decide +kernel) (by decide +kernel) (by decide +kernel) (fun _ _ _ h => h) (Or.inr ⟨by rfl, rfl⟩) hb0 ?_
            try simp only [Act.put, List.setIfInBounds_toArray, List.set_cons_zero, List.set_cons_succ]
            refine wpE_take (i := 15) (oi := ⟨some 116, _, _, _, _, _⟩) (v := undef) rfl (by decide +kernel) (by decide +kernel) (by decide +kernel) (fun _ _ _ h => h) (Or.inr ⟨by rfl, rfl⟩) hb0 ?_
            try simp only [Act.put, List.setIfInBounds_toArray, List.set_cons_zero, List.set_cons_succ]
            refine wpE_take (i := 16) (oi := ⟨some 117, _, _, _, _, _⟩) (v := undef) rfl (by decide +kernel) (by decide +kernel) (by decide +kernel) (fun _ _ _ h => h) (Or.inr ⟨by rfl, rfl⟩) hb0 ?_
            try simp only [Act.put, List.setIfInBounds_toArray, List.set_cons_zero, List.set_cons_succ]
            refine wpE_take (i := 17) (oi := ⟨some 118, _, _, _, _, _⟩) (v := undef) rfl (by decide +kernel) (by decide +kernel) (by decide +kernel) (fun _ _ _ h => h) (Or.inr ⟨by rfl, rfl⟩) hb0 ?_
            try simp only [Act.put, List.setIfInBounds_toArray, List.set_cons_zero, List.set_cons_succ]
            refine wpE_take (i := 18) (oi := ⟨some 119, _, _, _, _, _⟩) (v := undef) rfl (by decide +kernel) (by decide +kernel) (by decide +kernel) (fun _ _ _ h => h) (Or.inr ⟨by rfl, rfl⟩) hb0 ?_
            try simp only [Act.put, List.setIfInBounds_toArray, List.set_cons_zero, List.set_cons_succ]
            refine wpE_take (i := 19) (oi := ⟨some 120, _, _, _, _, _⟩) (v := .bool true) rfl (by decide +kernel) (by decide +kernel) (by decide +kernel) (fun _ _ _ h => h) (Or.inl ⟨by rfl, ?_⟩) hb0 ?_
            case refine_1 =>
              intro w' hSw
              have c0' := keepcell hSw c0
              have c1' := keepcell hSw c1
              have d0' := keepcell hSw d0
              have d1' := keepcell hSw d1
              go_simp
              try (with_reducible rfl)
            try simp only [Act.put, List.setIfInBounds_toArray, List.set_cons_zero, List.set_cons_succ]
            refine wpE_done (by decide +kernel) ?_
            clear c0 c1 d0 d1 b0 b1 b2 f0 f1 f2 hb0 HB KB
            have c0 := c0n
            have c1 := c1n
            have d0 := d0n
            have d1 := d1n
            clear c0n c1n d0n d1n
            have HB := HBD
            have KB := KBD
            clear HBD KBD
            have b0 : y0.cell? ⟨k2, 0, none⟩ = some (.int .i64 0) := KB.out.cell 0
            have f0 : y0.frozen? ⟨k2, 0, none⟩ = false := Joins.unfrozen_of_block KB.out 0
            have b1 : y0.cell? ⟨k2, 1, none⟩ = some (.int .i64 0) := KB.out.cell 1
            have f1 : y0.frozen? ⟨k2, 1, none⟩ = false := Joins.unfrozen_of_block KB.out 1
            have b2 : y0.cell? ⟨k2, 2, none⟩ = some (.int .i64 0) := KB.out.cell 2
            have f2 : y0.frozen? ⟨k2, 2, none⟩ = false := Joins.unfrozen_of_block KB.out 2
            have HS3 := Lib.hid (store3 KB.out (.int .i64 0) (.int .i64 0) (.int .i64 0))
            go_wp2
            try simp only [Exit.inBlock, Exit.then]
            refine bodyPost_ret (results_c2 rfl _ _ _ k2 _ rfl (load41 HS3.out.1 rfl)) rfl ?_
            exact ⟨by rw [HR.out]; rfl, HS3.out.2 _ _ HB.out hk2w⟩
          have g5' : (xn == yn) = false := by simpa using g5
          by_cases g6 : xv = yv
          · have HR := Lib.hid (show r = none by rw [HE2.out]; rw [if_pos (.inr g6)])
            subst g6
            go_upto_region 14 with fail
            have hb0 : Below wr.heap.size wr wr.drew := below_drew (Below.refl _ _)
            refine wp_region_mixE (fun w' => Below wr.heap.size wr w') (by kernel_rfl) ?_
            have HBD := Lib.hid (HB.out.trans (hb0.mono HB.out.size))
            have KBD := Lib.hid (KB.out.below hb0)
            have c0n := keepcell hb0 c0
            have c1n := keepcell hb0 c1
            have d0n := keepcell hb0 d0
            have d1n := keepcell hb0 d1
            generalize wr.drew = y0 at hb0 HBD KBD c0n c1n d0n d1n ⊢
            refine wpE_take (i := 0) (oi := ⟨some 101, _, _, _, _, _⟩) (v := ?_) rfl (by decide +kernel) (by decide +kernel) (by decide +kernel) (fun _ _ _ h => h) (Or.inl ⟨by rfl, ?_⟩) hb0 ?_
            case refine_2 =>
              intro w' hSw
              have c0' := keepcell hSw c0
              have c1' := keepcell hSw c1
              have d0' := keepcell hSw d0
              have d1' := keepcell hSw d1
              go_simp
              try (with_reducible rfl)
            try simp only [Act.put, List.setIfInBounds_toArray, List.set_cons_zero, List.set_cons_succ]
            refine wpE_take (i := 1) (oi := ⟨some 102, _, _, _, _, _⟩) (v := ?_) rfl (by decide +kernel) (by decide +kernel) (by decide +kernel) (fun _ _ _ h => h) (Or.inl ⟨by rfl, ?_⟩) hb0 ?_
            case refine_2 =>
              intro w' hSw
              have c0' := keepcell hSw c0
              have c1' := keepcell hSw c1
              have d0' := keepcell hSw d0
              have d1' := keepcell hSw d1
              go_simp
              try (with_reducible rfl)
            try simp only [Act.put, List.setIfInBounds_toArray, List.set_cons_zero, List.set_cons_succ]
            refine wpE_take (i := 2) (oi := ⟨some 103, _, _, _, _, _⟩) (v := ?_) rfl (by decide +kernel) (by decide +kernel) (by decide +kernel) (fun _ _ _ h => h) (Or.inl ⟨by rfl, ?_⟩) hb0 ?_
            case refine_2 =>
              intro w' hSw
              have c0' := keepcell hSw c0
              have c1' := keepcell hSw c1
              have d0' := keepcell hSw d0
              have d1' := keepcell hSw d1
              go_simp
              try (with_reducible rfl)
            try simp only [Act.put, List.setIfInBounds_toArray, List.set_cons_zero, List.set_cons_succ]
            refine wpE_take (i := 3) (oi := ⟨some 104, _, _, _, _, _⟩) (v := ?_) rfl (by decide +kernel) (by decide +kernel) (by decide +kernel) (fun _ _ _ h => h) (Or.inl ⟨by rfl, ?_⟩) hb0 ?_
            case refine_2 =>
              intro w' hSw
              have c0' := keepcell hSw c0
              have c1' := keepcell hSw c1
              have d0' := keepcell hSw d0
              have d1' := keepcell hSw d1
              go_simp
              try (with_reducible rfl)
            try simp only [Act.put, List.setIfInBounds_toArray, List.set_cons_zero, List.set_cons_succ]
            refine wpE_take (i := 4) (oi := ⟨some 105, _, _, _, _, _⟩) (v := ?_) rfl (by decide +kernel) (by decide +kernel) (by decide +kernel) (fun _ _ _ h => h) (Or.inl ⟨by rfl, ?_⟩) hb0 ?_
            case refine_2 =>
              intro w' hSw
              have c0' := keepcell hSw c0
              have c1' := keepcell hSw c1
              have d0' := keepcell hSw d0
              have d1' := keepcell hSw d1
              go_simp
              try (with_reducible rfl)
            try simp only [Act.put, List.setIfInBounds_toArray, List.set_cons_zero, List.set_cons_succ]
            refine wpE_take (i := 5) (oi := ⟨some 106, _, _, _, _, _⟩) (v := ?_) rfl (by decide +kernel) (by decide +kernel) (by decide +kernel) (fun _ _ _ h => h) (Or.inl ⟨by rfl, ?_⟩) hb0 ?_
            case refine_2 =>
              intro w' hSw
              have c0' := keepcell hSw c0
              have c1' := keepcell hSw c1
              have d0' := keepcell hSw d0
              have d1' := keepcell hSw d1
              go_simp
              try (with_reducible rfl)
            try simp only [Act.put, List.setIfInBounds_toArray, List.set_cons_zero, List.set_cons_succ]
            refine wpE_take (i := 6) (oi := ⟨some 107, _, _, _, _, _⟩) (v := ?_) rfl (by decide +kernel) (by decide +kernel) (by decide +kernel) (fun _ _ _ h => h) (Or.inl ⟨by rfl, ?_⟩) hb0 ?_
            case refine_2 =>
              intro w' hSw
              have c0' := keepcell hSw c0
              have c1' := keepcell hSw c1
              have d0' := keepcell hSw d0
              have d1' := keepcell hSw d1
              go_simp
              try (with_reducible rfl)
            try simp only [Act.put, List.setIfInBounds_toArray, List.set_cons_zero, List.set_cons_succ]
            refine wpE_take (i := 7) (oi := ⟨some 108, _, _, _, _, _⟩) (v := ?_) rfl (by decide +kernel) (by decide +kernel) (by decide +kernel) (fun _ _ _ h => h) (Or.inl ⟨by rfl, ?_⟩) hb0 ?_
            case refine_2 =>
              intro w' hSw
              have c0' := keepcell hSw c0
              have c1' := keepcell hSw c1
              have d0' := keepcell hSw d0
              have d1' := keepcell hSw d1
              go_simp
              try (with_reducible rfl)
            try simp only [Act.put, List.setIfInBounds_toArray, List.set_cons_zero, List.set_cons_succ]
            refine wpE_take (i := 8) (oi := ⟨some 109, _, _, _, _, _⟩) (v := .bool false) rfl (by decide +kernel) (by decide +kernel) (by decide +kernel) (fun _ _ _ h => h) (Or.inl ⟨by rfl, ?_⟩) hb0 ?_
            case refine_1 =>
              intro w' hSw
              have c0' := keepcell hSw c0
              have c1' := keepcell hSw c1
              have d0' := keepcell hSw d0
              have d1' := keepcell hSw d1
              go_simp
              try (with_reducible rfl)
            try simp only [Act.put, List.setIfInBounds_toArray, List.set_cons_zero, List.set_cons_succ]
            refine wpE_take (i := 9) (oi := ⟨some 110, _, _, _, _, _⟩) (v := .bool false) rfl (by decide +kernel) (by decide +kernel) (by decide +kernel) (fun _ _ _ h => h) (Or.inl ⟨by rfl, ?_⟩) hb0 ?_
            case refine_1 =>
              intro w' hSw
              have c0' := keepcell hSw c0
              have c1' := keepcell hSw c1
              have d0' := keepcell hSw d0
              have d1' := keepcell hSw d1
              go_simp
              try (with_reducible rfl)
            try simp only [Act.put, List.setIfInBounds_toArray, List.set_cons_zero, List.set_cons_succ]
            refine wpE_take (i := 10) (oi := ⟨some 111, _, _, _, _, _⟩) (v := ?_) rfl (by decide +kernel) (by decide +kernel) (by decide +kernel) (fun _ _ _ h => h) (Or.inl ⟨by rfl, ?_⟩) hb0 ?_
            case refine_2 =>
              intro w' hSw
              have c0' := keepcell hSw c0
              have c1' := keepcell hSw c1
              have d0' := keepcell hSw d0
              have d1' := keepcell hSw d1
              go_simp
              try (with_reducible rfl)
            try simp only [Act.put, List.setIfInBounds_toArray, List.set_cons_zero, List.set_cons_succ]
            refine wpE_take (i := 11) (oi := ⟨some 112, _, _, _, _, _⟩) (v := ?_) rfl (by decide +kernel) (by decide +kernel) (by decide +kernel) (fun _ _ _ h => h) (Or.inl ⟨by rfl, ?_⟩) hb0 ?_
            case refine_2 =>
              intro w' hSw
              have c0' := keepcell hSw c0
              have c1' := keepcell hSw c1
              have d0' := keepcell hSw d0
              have d1' := keepcell hSw d1
              go_simp
              try (with_reducible rfl)
            try simp only [Act.put, List.setIfInBounds_toArray, List.set_cons_zero, List.set_cons_succ]
            refine wpE_take (i := 12) (oi := ⟨some 113, _, _, _, _, _⟩) (v := ?_) rfl (by decide +kernel) (by decide +kernel) (by decide +kernel) (fun _ _ _ h => h) (Or.inl ⟨by rfl, ?_⟩) hb0 ?_
            case refine_2 =>
              intro w' hSw
              have c0' := keepcell hSw c0
              have c1' := keepcell hSw c1
              have d0' := keepcell hSw d0
              have d1' := keepcell hSw d1
              go_simp
              try (with_reducible rfl)
            try simp only [Act.put, List.setIfInBounds_toArray, List.set_cons_zero, List.set_cons_succ]
            refine wpE_take (i := 13) (oi := ⟨some 114, _, _, _, _, _⟩) (v := ?_) rfl (by decide +kernel) (by decide +kernel) (by decide +kernel) (fun _ _ _ h => h) (Or.inl ⟨by rfl, ?_⟩) hb0 ?_
            case refine_2 =>
              intro w' hSw
              have c0' := keepcell hSw c0
              have c1' := keepcell hSw c1
              have d0' := keepcell hSw d0
              have d1' := keepcell hSw d1
              go_simp
              try (with_reducible rfl)
            try simp only [Act.put, List.setIfInBounds_toArray, List.set_cons_zero, List.set_cons_succ]
            refine wpE_take (i := 14) (oi := ⟨some 115, _, _, _, _, _⟩) (v := ?_) rfl (by decide +kernel) (by decide +kernel) (by decide +kernel) (fun _ _ _ h => h) (Or.inl ⟨by rfl, ?_⟩) hb0 ?_
            case refine_2 =>
              intro w' hSw
              have c0' := keepcell hSw c0
              have c1' := keepcell hSw c1
              have d0' := keepcell hSw d0
              have d1' := keepcell hSw d1
              go_simp
              try (with_reducible rfl)
            try simp only [Act.put, List.setIfInBounds_toArray, List.set_cons_zero, List.set_cons_succ]
            refine wpE_take (i := 15) (oi := ⟨some 116, _, _, _, _, _⟩) (v := ?_) rfl (by decide +kernel) (by decide +kernel) (by decide +kernel) (fun _ _ _ h => h) (Or.inl ⟨by rfl, ?_⟩) hb0 ?_
            case refine_2 =>
              intro w' hSw
              have c0' := keepcell hSw c0
              have c1' := keepcell hSw c1
              have d0' := keepcell hSw d0
              have d1' := keepcell hSw d1
              go_simp
              try (with_reducible rfl)
            try simp only [Act.put, List.setIfInBounds_toArray, List.set_cons_zero, List.set_cons_succ]
            refine wpE_take (i := 16) (oi := ⟨some 117, _, _, _, _, _⟩) (v := ?_) rfl (by decide +kernel) (by decide +kernel) (by decide +kernel) (fun _ _ _ h => h) (Or.inl ⟨by rfl, ?_⟩) hb0 ?_
            case refine_2 =>
              intro w' hSw
              have c0' := keepcell hSw c0
              have c1' := keepcell hSw c1
              have d0' := keepcell hSw d0
              have d1' := keepcell hSw d1
              go_simp
              try (with_reducible rfl)
            try simp only [Act.put, List.setIfInBounds_toArray, List.set_cons_zero, List.set_cons_succ]
            refine wpE_take (i := 17) (oi := ⟨some 118, _, _, _, _, _⟩) (v := ?_) rfl (by decide +kernel) (by decide +kernel) (by decide +kernel) (fun _ _ _ h => h) (Or.inl ⟨by rfl, ?_⟩) hb0 ?_
            case refine_2 =>
              intro w' hSw
              have c0' := keepcell hSw c0
              have c1' := keepcell hSw c1
              have d0' := keepcell hSw d0
              have d1' := keepcell hSw d1
              go_simp
              try (with_reducible rfl)
            try simp only [Act.put, List.setIfInBounds_toArray, List.set_cons_zero, List.set_cons_succ]
            refine wpE_take (i := 18) (oi := ⟨some 119, _, _, _, _, _⟩) (v := .bool true) rfl (by decide +kernel) (by decide +kernel) (by decide +kernel) (fun _ _ _ h => h) (Or.inl ⟨by rfl, ?_⟩) hb0 ?_
            case refine_1 =>
              intro w' hSw
              have c0' := keepcell hSw c0
              have c1' := keepcell hSw c1
              have d0' := keepcell hSw d0
              have d1' := keepcell hSw d1
              go_simp
              try (with_reducible rfl)
            try simp only [Act.put, List.setIfInBounds_toArray, List.set_cons_zero, List.set_cons_succ]
            refine wpE_take (i := 19) (oi := ⟨some 120, _, _, _, _, _⟩) (v := .bool true) rfl (by decide +kernel) (by decide +kernel) (by decide +kernel) (fun _ _ _ h => h) (Or.inl ⟨by rfl, ?_⟩) hb0 ?_
            case refine_1 =>
              intro w' hSw
              have c0' := keepcell hSw c0
              have c1' := keepcell hSw c1
              have d0' := keepcell hSw d0
              have d1' := keepcell hSw d1
              go_simp
              try (with_reducible rfl)
            try simp only [Act.put, List.setIfInBounds_toArray, List.set_cons_zero, List.set_cons_succ]
            refine wpE_done (by decide +kernel) ?_
            clear c0 c1 d0 d1 b0 b1 b2 f0 f1 f2 hb0 HB KB
            have c0 := c0n
            have c1 := c1n
            have d0 := d0n
            have d1 := d1n
            clear c0n c1n d0n d1n
            have HB := HBD
            have KB := KBD
            clear HBD KBD
            have b0 : y0.cell? ⟨k2, 0, none⟩ = some (.int .i64 0) := KB.out.cell 0
            have f0 : y0.frozen? ⟨k2, 0, none⟩ = false := Joins.unfrozen_of_block KB.out 0
            have b1 : y0.cell? ⟨k2, 1, none⟩ = some (.int .i64 0) := KB.out.cell 1
            have f1 : y0.frozen? ⟨k2, 1, none⟩ = false := Joins.unfrozen_of_block KB.out 1
            have b2 : y0.cell? ⟨k2, 2, none⟩ = some (.int .i64 0) := KB.out.cell 2
            have f2 : y0.frozen? ⟨k2, 2, none⟩ = false := Joins.unfrozen_of_block KB.out 2
            have HS3 := Lib.hid (store3 KB.out (.int .i64 0) (.int .i64 0) (.int .i64 0))
            go_wp2
            try simp only [Exit.inBlock, Exit.then]
            refine bodyPost_ret (results_c2 rfl _ _ _ k2 _ rfl (load41 HS3.out.1 rfl)) rfl ?_
            exact ⟨by rw [HR.out]; rfl, HS3.out.2 _ _ HB.out hk2w⟩
          have g6' : (xv == yv) = false := by simpa using g6
          have HE3 := Lib.hid (show r = if xn = 1 then some (xv, yv, -k) else some (yv, xv, -k) by rw [HE2.out, if_neg (by omega)])
          by_cases g7 : xn = 1
          · have HR := Lib.hid (show r = some (xv, yv, -k) by rw [HE3.out, if_pos g7])
            subst g7
            go_upto_region 14 with fail
            have hb0 : Below wr.heap.size wr wr.drew := below_drew (Below.refl _ _)
            refine wp_region_mixE (fun w' => Below wr.heap.size wr w') (by kernel_rfl) ?_
            have HBD := Lib.hid (HB.out.trans (hb0.mono HB.out.size))
            have KBD := Lib.hid (KB.out.below hb0)
            have c0n := keepcell hb0 c0
            have c1n := keepcell hb0 c1
            have d0n := keepcell hb0 d0
            have d1n := keepcell hb0 d1
            generalize wr.drew = y0 at hb0 HBD KBD c0n c1n d0n d1n ⊢
            refine wpE_take (i := 0) (oi := ⟨some 101, _, _, _, _, _⟩) (v := ?_) rfl (by decide +kernel) (by decide +kernel) (by decide +kernel) (fun _ _ _ h => h) (Or.inl ⟨by rfl, ?_⟩) hb0 ?_
            case refine_2 =>
              intro w' hSw
              have c0' := keepcell hSw c0
              have c1' := keepcell hSw c1
              have d0' := keepcell hSw d0
              have d1' := keepcell hSw d1
              go_simp
              try (with_reducible rfl)
            try simp only [Act.put, List.setIfInBounds_toArray, List.set_cons_zero, List.set_cons_succ]
            refine wpE_take (i := 1) (oi := ⟨some 102, _, _, _, _, _⟩) (v := ?_) rfl (by decide +kernel) (by decide +kernel) (by decide +kernel) (fun _ _ _ h => h) (Or.inl ⟨by rfl, ?_⟩) hb0 ?_
            case refine_2 =>
              intro w' hSw
              have c0' := keepcell hSw c0
              have c1' := keepcell hSw c1
              have d0' := keepcell hSw d0
              have d1' := keepcell hSw d1
              go_simp
              try (with_reducible rfl)
            try simp only [Act.put, List.setIfInBounds_toArray, List.set_cons_zero, List.set_cons_succ]
            refine wpE_take (i := 2) (oi := ⟨some 103, _, _, _, _, _⟩) (v := ?_) rfl (by decide +kernel) (by decide +kernel) (by decide +kernel) (fun _ _ _ h => h) (Or.inl ⟨by rfl, ?_⟩) hb0 ?_
            case refine_2 =>
              intro w' hSw
              have c0' := keepcell hSw c0
              have c1' := keepcell hSw c1
              have d0' := keepcell hSw d0
              have d1' := keepcell hSw d1
              go_simp
              try (with_reducible rfl)
            try simp only [Act.put, List.setIfInBounds_toArray, List.set_cons_zero, List.set_cons_succ]
            refine wpE_take (i := 3) (oi := ⟨some 104, _, _, _, _, _⟩) (v := ?_) rfl (by decide +kernel) (by decide +kernel) (by decide +kernel) (fun _ _ _ h => h) (Or.inl ⟨by rfl, ?_⟩) hb0 ?_
            case refine_2 =>
              intro w' hSw
              have c0' := keepcell hSw c0
              have c1' := keepcell hSw c1
              have d0' := keepcell hSw d0
              have d1' := keepcell hSw d1
              go_simp
              try (with_reducible rfl)
            try simp only [Act.put, List.setIfInBounds_toArray, List.set_cons_zero, List.set_cons_succ]
            refine wpE_take (i := 4) (oi := ⟨some 105, _, _, _, _, _⟩) (v := ?_) rfl (by decide +kernel) (by decide +kernel) (by decide +kernel) (fun _ _ _ h => h) (Or.inl ⟨by rfl, ?_⟩) hb0 ?_
            case refine_2 =>
              intro w' hSw
              have c0' := keepcell hSw c0
              have c1' := keepcell hSw c1
              have d0' := keepcell hSw d0
              have d1' := keepcell hSw d1
              go_simp
              try (with_reducible rfl)
            try simp only [Act.put, List.setIfInBounds_toArray, List.set_cons_zero, List.set_cons_succ]
            refine wpE_take (i := 5) (oi := ⟨some 106, _, _, _, _, _⟩) (v := ?_) rfl (by decide +kernel) (by decide +kernel) (by decide +kernel) (fun _ _ _ h => h) (Or.inl ⟨by rfl, ?_⟩) hb0 ?_
            case refine_2 =>
              intro w' hSw
              have c0' := keepcell hSw c0
              have c1' := keepcell hSw c1
              have d0' := keepcell hSw d0
              have d1' := keepcell hSw d1
              go_simp
              try (with_reducible rfl)
            try simp only [Act.put, List.setIfInBounds_toArray, List.set_cons_zero, List.set_cons_succ]
            refine wpE_take (i := 6) (oi := ⟨some 107, _, _, _, _, _⟩) (v := ?_) rfl (by decide +kernel) (by decide +kernel) (by decide +kernel) (fun _ _ _ h => h) (Or.inl ⟨by rfl, ?_⟩) hb0 ?_
            case refine_2 =>
              intro w' hSw
              have c0' := keepcell hSw c0
              have c1' := keepcell hSw c1
              have d0' := keepcell hSw d0
              have d1' := keepcell hSw d1
              go_simp
              try (with_reducible rfl)
            try simp only [Act.put, List.setIfInBounds_toArray, List.set_cons_zero, List.set_cons_succ]
            refine wpE_take (i := 7) (oi := ⟨some 108, _, _, _, _, _⟩) (v := ?_) rfl (by decide +kernel) (by decide +kernel) (by decide +kernel) (fun _ _ _ h => h) (Or.inl ⟨by rfl, ?_⟩) hb0 ?_
            case refine_2 =>
              intro w' hSw
              have c0' := keepcell hSw c0
              have c1' := keepcell hSw c1
              have d0' := keepcell hSw d0
              have d1' := keepcell hSw d1
              go_simp
              try (with_reducible rfl)
            try simp only [Act.put, List.setIfInBounds_toArray, List.set_cons_zero, List.set_cons_succ]
            refine wpE_take (i := 8) (oi := ⟨some 109, _, _, _, _, _⟩) (v := .bool false) rfl (by decide +kernel) (by decide +kernel) (by decide +kernel) (fun _ _ _ h => h) (Or.inl ⟨by rfl, ?_⟩) hb0 ?_
            case refine_1 =>
              intro w' hSw
              have c0' := keepcell hSw c0
              have c1' := keepcell hSw c1
              have d0' := keepcell hSw d0
              have d1' := keepcell hSw d1
              go_simp
              try (with_reducible rfl)
            try simp only [Act.put, List.setIfInBounds_toArray, List.set_cons_zero, List.set_cons_succ]
            refine wpE_take (i := 9) (oi := ⟨some 110, _, _, _, _, _⟩) (v := .bool false) rfl (by decide +kernel) (by decide +kernel) (by decide +kernel) (fun _ _ _ h => h) (Or.inl ⟨by rfl, ?_⟩) hb0 ?_
            case refine_1 =>
              intro w' hSw
              have c0' := keepcell hSw c0
              have c1' := keepcell hSw c1
              have d0' := keepcell hSw d0
              have d1' := keepcell hSw d1
              go_simp
              try (with_reducible rfl)
            try simp only [Act.put, List.setIfInBounds_toArray, List.set_cons_zero, List.set_cons_succ]
            refine wpE_take (i := 10) (oi := ⟨some 111, _, _, _, _, _⟩) (v := ?_) rfl (by decide +kernel) (by decide +kernel) (by decide +kernel) (fun _ _ _ h => h) (Or.inl ⟨by rfl, ?_⟩) hb0 ?_
            case refine_2 =>
              intro w' hSw
              have c0' := keepcell hSw c0
              have c1' := keepcell hSw c1
              have d0' := keepcell hSw d0
              have d1' := keepcell hSw d1
              go_simp
              try (with_reducible rfl)
            try simp only [Act.put, List.setIfInBounds_toArray, List.set_cons_zero, List.set_cons_succ]
            refine wpE_take (i := 11) (oi := ⟨some 112, _, _, _, _, _⟩) (v := ?_) rfl (by decide +kernel) (by decide +kernel) (by decide +kernel) (fun _ _ _ h => h) (Or.inl ⟨by rfl, ?_⟩) hb0 ?_
            case refine_2 =>
              intro w' hSw
              have c0' := keepcell hSw c0
              have c1' := keepcell hSw c1
              have d0' := keepcell hSw d0
              have d1' := keepcell hSw d1
              go_simp
              try (with_reducible rfl)
            try simp only [Act.put, List.setIfInBounds_toArray, List.set_cons_zero, List.set_cons_succ]
            refine wpE_take (i := 12) (oi := ⟨some 113, _, _, _, _, _⟩) (v := ?_) rfl (by decide +kernel) (by decide +kernel) (by decide +kernel) (fun _ _ _ h => h) (Or.inl ⟨by rfl, ?_⟩) hb0 ?_
            case refine_2 =>
              intro w' hSw
              have c0' := keepcell hSw c0
              have c1' := keepcell hSw c1
              have d0' := keepcell hSw d0
              have d1' := keepcell hSw d1
              go_simp
              try (with_reducible rfl)
            try simp only [Act.put, List.setIfInBounds_toArray, List.set_cons_zero, List.set_cons_succ]
            refine wpE_take (i := 13) (oi := ⟨some 114, _, _, _, _, _⟩) (v := ?_) rfl (by decide +kernel) (by decide +kernel) (by decide +kernel) (fun _ _ _ h => h) (Or.inl ⟨by rfl, ?_⟩) hb0 ?_
            case refine_2 =>
              intro w' hSw
              have c0' := keepcell hSw c0
              have c1' := keepcell hSw c1
              have d0' := keepcell hSw d0
              have d1' := keepcell hSw d1
              go_simp
              try (with_reducible rfl)
            try simp only [Act.put, List.setIfInBounds_toArray, List.set_cons_zero, List.set_cons_succ]
            refine wpE_take (i := 14) (oi := ⟨some 115, _, _, _, _, _⟩) (v := ?_) rfl (by decide +kernel) (by decide +kernel) (by decide +kernel) (fun _ _ _ h => h) (Or.inl ⟨by rfl, ?_⟩) hb0 ?_
            case refine_2 =>
              intro w' hSw
              have c0' := keepcell hSw c0
              have c1' := keepcell hSw c1
              have d0' := keepcell hSw d0
              have d1' := keepcell hSw d1
              go_simp
              try (with_reducible rfl)
            try simp only [Act.put, List.setIfInBounds_toArray, List.set_cons_zero, List.set_cons_succ]
            refine wpE_take (i := 15) (oi := ⟨some 116, _, _, _, _, _⟩) (v := ?_) rfl (by decide +kernel) (by decide +kernel) (by decide +kernel) (fun _ _ _ h => h) (Or.inl ⟨by rfl, ?_⟩) hb0 ?_
            case refine_2 =>
              intro w' hSw
              have c0' := keepcell hSw c0
              have c1' := keepcell hSw c1
              have d0' := keepcell hSw d0
              have d1' := keepcell hSw d1
              go_simp
              try (with_reducible rfl)
            try simp only [Act.put, List.setIfInBounds_toArray, List.set_cons_zero, List.set_cons_succ]
            refine wpE_take (i := 16) (oi := ⟨some 117, _, _, _, _, _⟩) (v := ?_) rfl (by decide +kernel) (by decide +kernel) (by decide +kernel) (fun _ _ _ h => h) (Or.inl ⟨by rfl, ?_⟩) hb0 ?_
            case refine_2 =>
              intro w' hSw
              have c0' := keepcell hSw c0
              have c1' := keepcell hSw c1
              have d0' := keepcell hSw d0
              have d1' := keepcell hSw d1
              go_simp
              try (with_reducible rfl)
            try simp only [Act.put, List.setIfInBounds_toArray, List.set_cons_zero, List.set_cons_succ]
            refine wpE_take (i := 17) (oi := ⟨some 118, _, _, _, _, _⟩) (v := ?_) rfl (by decide +kernel) (by decide +kernel) (by decide +kernel) (fun _ _ _ h => h) (Or.inl ⟨by rfl, ?_⟩) hb0 ?_
            case refine_2 =>
              intro w' hSw
              have c0' := keepcell hSw c0
              have c1' := keepcell hSw c1
              have d0' := keepcell hSw d0
              have d1' := keepcell hSw d1
              go_simp
              try (with_reducible rfl)
            try simp only [Act.put, List.setIfInBounds_toArray, List.set_cons_zero, List.set_cons_succ]
            refine wpE_take (i := 18) (oi := ⟨some 119, _, _, _, _, _⟩) (v := .bool false) rfl (by decide +kernel) (by decide +kernel) (by decide +kernel) (fun _ _ _ h => h) (Or.inl ⟨by rfl, ?_⟩) hb0 ?_
            case refine_1 =>
              intro w' hSw
              have c0' := keepcell hSw c0
              have c1' := keepcell hSw c1
              have d0' := keepcell hSw d0
              have d1' := keepcell hSw d1
              go_simp
              try (with_reducible rfl)
            try simp only [Act.put, List.setIfInBounds_toArray, List.set_cons_zero, List.set_cons_succ]
            refine wpE_take (i := 19) (oi := ⟨some 120, _, _, _, _, _⟩) (v := .bool false) rfl (by decide +kernel) (by decide +kernel) (by decide +kernel) (fun _ _ _ h => h) (Or.inl ⟨by rfl, ?_⟩) hb0 ?_
            case refine_1 =>
              intro w' hSw
              have c0' := keepcell hSw c0
              have c1' := keepcell hSw c1
              have d0' := keepcell hSw d0
              have d1' := keepcell hSw d1
              go_simp
              try (with_reducible rfl)
            try simp only [Act.put, List.setIfInBounds_toArray, List.set_cons_zero, List.set_cons_succ]
            refine wpE_done (by decide +kernel) ?_
            clear c0 c1 d0 d1 b0 b1 b2 f0 f1 f2 hb0 HB KB
            have c0 := c0n
            have c1 := c1n
            have d0 := d0n
            have d1 := d1n
            clear c0n c1n d0n d1n
            have HB := HBD
            have KB := KBD
            clear HBD KBD
            have b0 : y0.cell? ⟨k2, 0, none⟩ = some (.int .i64 0) := KB.out.cell 0
            have f0 : y0.frozen? ⟨k2, 0, none⟩ = false := Joins.unfrozen_of_block KB.out 0
            have b1 : y0.cell? ⟨k2, 1, none⟩ = some (.int .i64 0) := KB.out.cell 1
            have f1 : y0.frozen? ⟨k2, 1, none⟩ = false := Joins.unfrozen_of_block KB.out 1
            have b2 : y0.cell? ⟨k2, 2, none⟩ = some (.int .i64 0) := KB.out.cell 2
            have f2 : y0.frozen? ⟨k2, 2, none⟩ = false := Joins.unfrozen_of_block KB.out 2
            go_upto_region 17 with fail
            clear b0 b1 b2 f0 f1 f2 c0 c1 d0 d1
            have hb0 : Below y0.heap.size y0 y0.drew := below_drew (Below.refl _ _)
            refine wp_region_mixE (fun w' => Below w.heap.size w w') (by kernel_rfl) ?_
            have HBE := Lib.hid (HB.out.trans (hb0.mono HB.out.size))
            have KBE := Lib.hid (KB.out.below hb0)
            generalize y0.drew = y1 at HBE KBE ⊢
            refine wpE_take (i := 0) (oi := ⟨some 127, _, _, _, _, _⟩) (v := ?_) rfl (by decide +kernel) (by decide +kernel) (by decide +kernel) (fun _ _ _ h => h) (Or.inl ⟨by rfl, ?_⟩) HBE.out ?_
            case refine_2 =>
              intro w' hSw
              obtain ⟨q0, q1⟩ := HC0.out w' hSw
              go_simp
              try (with_reducible rfl)
            try simp only [Act.put, List.setIfInBounds_toArray, List.set_cons_zero, List.set_cons_succ]
            refine wpE_take (i := 1) (oi := ⟨some 128, _, _, _, _, _⟩) (v := ?_) rfl (by decide +kernel) (by decide +kernel) (by decide +kernel) (fun _ _ _ h => h) (Or.inl ⟨by rfl, ?_⟩) HBE.out ?_
            case refine_2 =>
              intro w' hSw
              obtain ⟨q0, q1⟩ := HC0.out w' hSw
              go_simp
              try (with_reducible rfl)
            try simp only [Act.put, List.setIfInBounds_toArray, List.set_cons_zero, List.set_cons_succ]
            refine wpE_take (i := 2) (oi := ⟨some 129, _, _, _, _, _⟩) (v := ?_) rfl (by decide +kernel) (by decide +kernel) (by decide +kernel) (fun _ _ _ h => h) (Or.inl ⟨by rfl, ?_⟩) HBE.out ?_
            case refine_2 =>
              intro w' hSw
              obtain ⟨q0, q1⟩ := HC0.out w' hSw
              go_simp
              try (with_reducible rfl)
            try simp only [Act.put, List.setIfInBounds_toArray, List.set_cons_zero, List.set_cons_succ]
            refine wpE_take (i := 3) (oi := ⟨some 130, _, _, _, _, _⟩) (v := ?_) rfl (by decide +kernel) (by decide +kernel) (by decide +kernel) (fun _ _ _ h => h) (Or.inl ⟨by rfl, ?_⟩) HBE.out ?_
            case refine_2 =>
              intro w' hSw
              obtain ⟨q0, q1⟩ := HC0.out w' hSw
              go_simp
              try (with_reducible rfl)
            try simp only [Act.put, List.setIfInBounds_toArray, List.set_cons_zero, List.set_cons_succ]
            refine wpE_take (i := 4) (oi := ⟨some 131, _, _, _, _, _⟩) (v := ?_) rfl (by decide +kernel) (by decide +kernel) (by decide +kernel) (fun _ _ _ h => h) (Or.inl ⟨by rfl, ?_⟩) HBE.out ?_
            case refine_2 =>
              intro w' hSw
              obtain ⟨q0, q1⟩ := HC0.out w' hSw
              go_simp
              try (with_reducible rfl)
            try simp only [Act.put, List.setIfInBounds_toArray, List.set_cons_zero, List.set_cons_succ]
            refine wpE_take (i := 5) (oi := ⟨some 132, _, _, _, _, _⟩) (v := ?_) rfl (by decide +kernel) (by decide +kernel) (by decide +kernel) (fun _ _ _ h => h) (Or.inl ⟨by rfl, ?_⟩) HBE.out ?_
            case refine_2 =>
              intro w' hSw
              obtain ⟨q0, q1⟩ := HC0.out w' hSw
              go_simp
              try (with_reducible rfl)
            try simp only [Act.put, List.setIfInBounds_toArray, List.set_cons_zero, List.set_cons_succ]
            refine wpE_take (i := 6) (oi := ⟨some 133, _, _, _, _, _⟩) (v := ?_) rfl (by decide +kernel) (by decide +kernel) (by decide +kernel) (fun _ _ _ h => h) (Or.inl ⟨by rfl, ?_⟩) HBE.out ?_
            case refine_2 =>
              intro w' hSw
              obtain ⟨q0, q1⟩ := HC0.out w' hSw
              go_simp
              try (with_reducible rfl)
            try simp only [Act.put, List.setIfInBounds_toArray, List.set_cons_zero, List.set_cons_succ]
            refine wpE_take (i := 7) (oi := ⟨some 134, _, _, _, _, _⟩) (v := ?_) rfl (by decide +kernel) (by decide +kernel) (by decide +kernel) (fun _ _ _ h => h) (Or.inl ⟨by rfl, ?_⟩) HBE.out ?_
            case refine_2 =>
              intro w' hSw
              obtain ⟨q0, q1⟩ := HC0.out w' hSw
              go_simp
              try (with_reducible rfl)
            try simp only [Act.put, List.setIfInBounds_toArray, List.set_cons_zero, List.set_cons_succ]
            refine wpE_take (i := 8) (oi := ⟨some 135, _, _, _, _, _⟩) (v := ?_) rfl (by decide +kernel) (by decide +kernel) (by decide +kernel) (fun _ _ _ h => h) (Or.inl ⟨by rfl, ?_⟩) HBE.out ?_
            case refine_2 =>
              intro w' hSw
              obtain ⟨q0, q1⟩ := HC0.out w' hSw
              go_simp
              try (with_reducible rfl)
            try simp only [Act.put, List.setIfInBounds_toArray, List.set_cons_zero, List.set_cons_succ]
            refine wpE_take (i := 9) (oi := ⟨some 136, _, _, _, _, _⟩) (v := ?_) rfl (by decide +kernel) (by decide +kernel) (by decide +kernel) (fun _ _ _ h => h) (Or.inl ⟨by rfl, ?_⟩) HBE.out ?_
            case refine_2 =>
              intro w' hSw
              obtain ⟨q0, q1⟩ := HC0.out w' hSw
              go_simp
              try (with_reducible rfl)
            try simp only [Act.put, List.setIfInBounds_toArray, List.set_cons_zero, List.set_cons_succ]
            refine wpE_take (i := 10) (oi := ⟨some 137, _, _, _, _, _⟩) (v := ?_) rfl (by decide +kernel) (by decide +kernel) (by decide +kernel) (fun _ _ _ h => h) (Or.inl ⟨by rfl, ?_⟩) HBE.out ?_
            case refine_2 =>
              intro w' hSw
              obtain ⟨q0, q1⟩ := HC0.out w' hSw
              go_simp
              try (with_reducible rfl)
            try simp only [Act.put, List.setIfInBounds_toArray, List.set_cons_zero, List.set_cons_succ]
            have b0 : y1.cell? ⟨k2, 0, none⟩ = some (.int .i64 0) := KBE.out.cell 0
            have f0 : y1.frozen? ⟨k2, 0, none⟩ = false := Joins.unfrozen_of_block KBE.out 0
            have b1 : y1.cell? ⟨k2, 1, none⟩ = some (.int .i64 0) := KBE.out.cell 1
            have f1 : y1.frozen? ⟨k2, 1, none⟩ = false := Joins.unfrozen_of_block KBE.out 1
            have b2 : y1.cell? ⟨k2, 2, none⟩ = some (.int .i64 0) := KBE.out.cell 2
            have f2 : y1.frozen? ⟨k2, 2, none⟩ = false := Joins.unfrozen_of_block KBE.out 2
            have HS3 := Lib.hid (store3 KBE.out (.int .i64 xv) (.int .i64 yv) (.int .i64 (-k)))
            refine wpE_step (i := 11) (o := ⟨none, _, _, _, _, _⟩) rfl (by decide +kernel) (fun K hK => ?_)
            go_simp
            refine hK.out _ _ (HS3.out.2 _ _ HBE.out hk2w) ?_
            clear hK K
            try simp only [Act.put, List.setIfInBounds_toArray, List.set_cons_zero, List.set_cons_succ]
            refine wpE_take (i := 12) (oi := ⟨some 5, _, _, _, _, _⟩) (v := ?_) rfl (by decide +kernel) (by decide +kernel) (by decide +kernel) (fun _ _ _ h => h) (Or.inl ⟨by rfl, ?_⟩) (HS3.out.2 _ _ HBE.out hk2w) ?_
            case refine_2 =>
              intro w' hSw
              go_simp
              try (with_reducible rfl)
            try simp only [Act.put, List.setIfInBounds_toArray, List.set_cons_zero, List.set_cons_succ]
            refine wpE_done (by decide +kernel) ?_
            clear b0 b1 b2 f0 f1 f2
            go_wp2
            try simp only [Exit.inBlock, Exit.then]
            refine bodyPost_ret (results_c2 rfl _ _ _ k2 _ rfl (load41 HS3.out.1 rfl)) rfl ?_
            exact ⟨by rw [HR.out]; rfl, HS3.out.2 _ _ HBE.out hk2w⟩
          · have HR := Lib.hid (show r = some (yv, xv, -k) by rw [HE3.out, if_neg g7])
            have g7' : (xn == 1) = false := by simpa using g7
            go_upto_region 14 with fail
            have hb0 : Below wr.heap.size wr wr.drew := below_drew (Below.refl _ _)
            refine wp_region_mixE (fun w' => Below wr.heap.size wr w') (by kernel_rfl) ?_
            have HBD := Lib.hid (HB.out.trans (hb0.mono HB.out.size))
            have KBD := Lib.hid (KB.out.below hb0)
            have c0n := keepcell hb0 c0
            have c1n := keepcell hb0 c1
            have d0n := keepcell hb0 d0
            have d1n := keepcell hb0 d1
            generalize wr.drew = y0 at hb0 HBD KBD c0n c1n d0n d1n ⊢
            refine wpE_take (i := 0) (oi := ⟨some 101, _, _, _, _, _⟩) (v := ?_) rfl (by decide +kernel) (by decide +kernel) (by decide +kernel) (fun _ _ _ h => h) (Or.inl ⟨by rfl, ?_⟩) hb0 ?_
            case refine_2 =>
              intro w' hSw
              have c0' := keepcell hSw c0
              have c1' := keepcell hSw c1
              have d0' := keepcell hSw d0
              have d1' := keepcell hSw d1
              go_simp
              try (with_reducible rfl)
            try simp only [Act.put, List.setIfInBounds_toArray, List.set_cons_zero, List.set_cons_succ]
            refine wpE_take (i := 1) (oi := ⟨some 102, _, _, _, _, _⟩) (v := ?_) rfl (by decide +kernel) (by decide +kernel) (by decide +kernel) (fun _ _ _ h => h) (Or.inl ⟨by rfl, ?_⟩) hb0 ?_
            case refine_2 =>
              intro w' hSw
              have c0' := keepcell hSw c0
              have c1' := keepcell hSw c1
              have d0' := keepcell hSw d0
              have d1' := keepcell hSw d1
              go_simp
              try (with_reducible rfl)
            try simp only [Act.put, List.setIfInBounds_toArray, List.set_cons_zero, List.set_cons_succ]
            refine wpE_take (i := 2) (oi := ⟨some 103, _, _, _, _, _⟩) (v := ?_) rfl (by decide +kernel) (by decide +kernel) (by decide +kernel) (fun _ _ _ h => h) (Or.inl ⟨by rfl, ?_⟩) hb0 ?_
            case refine_2 =>
              intro w' hSw
              have c0' := keepcell hSw c0
              have c1' := keepcell hSw c1
              have d0' := keepcell hSw d0
              have d1' := keepcell hSw d1
              go_simp
              try (with_reducible rfl)
            try simp only [Act.put, List.setIfInBounds_toArray, List.set_cons_zero, List.set_cons_succ]
            refine wpE_take (i := 3) (oi := ⟨some 104, _, _, _, _, _⟩) (v := ?_) rfl (by decide +kernel) (by decide +kernel) (by decide +kernel) (fun _ _ _ h => h) (Or.inl ⟨by rfl, ?_⟩) hb0 ?_
            case refine_2 =>
              intro w' hSw
              have c0' := keepcell hSw c0
              have c1' := keepcell hSw c1
              have d0' := keepcell hSw d0
              have d1' := keepcell hSw d1
              go_simp
              try (with_reducible rfl)
            try simp only [Act.put, List.setIfInBounds_toArray, List.set_cons_zero, List.set_cons_succ]
            refine wpE_take (i := 4) (oi := ⟨some 105, _, _, _, _, _⟩) (v := ?_) rfl (by decide +kernel) (by decide +kernel) (by decide +kernel) (fun _ _ _ h => h) (Or.inl ⟨by rfl, ?_⟩) hb0 ?_
            case refine_2 =>
              intro w' hSw
              have c0' := keepcell hSw c0
              have c1' := keepcell hSw c1
              have d0' := keepcell hSw d0
              have d1' := keepcell hSw d1
              go_simp
              try (with_reducible rfl)
            try simp only [Act.put, List.setIfInBounds_toArray, List.set_cons_zero, List.set_cons_succ]
            refine wpE_take (i := 5) (oi := ⟨some 106, _, _, _, _, _⟩) (v := ?_) rfl (by decide +kernel) (by decide +kernel) (by decide +kernel) (fun _ _ _ h => h) (Or.inl ⟨by rfl, ?_⟩) hb0 ?_
            case refine_2 =>
              intro w' hSw
              have c0' := keepcell hSw c0
              have c1' := keepcell hSw c1
              have d0' := keepcell hSw d0
              have d1' := keepcell hSw d1
              go_simp
              try (with_reducible rfl)
            try simp only [Act.put, List.setIfInBounds_toArray, List.set_cons_zero, List.set_cons_succ]
            refine wpE_take (i := 6) (oi := ⟨some 107, _, _, _, _, _⟩) (v := ?_) rfl (by decide +kernel) (by decide +kernel) (by decide +kernel) (fun _ _ _ h => h) (Or.inl ⟨by rfl, ?_⟩) hb0 ?_
            case refine_2 =>
              intro w' hSw
              have c0' := keepcell hSw c0
              have c1' := keepcell hSw c1
              have d0' := keepcell hSw d0
              have d1' := keepcell hSw d1
              go_simp
              try (with_reducible rfl)
            try simp only [Act.put, List.setIfInBounds_toArray, List.set_cons_zero, List.set_cons_succ]
            refine wpE_take (i := 7) (oi := ⟨some 108, _, _, _, _, _⟩) (v := ?_) rfl (by decide +kernel) (by decide +kernel) (by decide +kernel) (fun _ _ _ h => h) (Or.inl ⟨by rfl, ?_⟩) hb0 ?_
            case refine_2 =>
              intro w' hSw
              have c0' := keepcell hSw c0
              have c1' := keepcell hSw c1
              have d0' := keepcell hSw d0
              have d1' := keepcell hSw d1
              go_simp
              try (with_reducible rfl)
            try simp only [Act.put, List.setIfInBounds_toArray, List.set_cons_zero, List.set_cons_succ]
            refine wpE_take (i := 8) (oi := ⟨some 109, _, _, _, _, _⟩) (v := .bool false) rfl (by decide +kernel) (by decide +kernel) (by decide +kernel) (fun _ _ _ h => h) (Or.inl ⟨by rfl, ?_⟩) hb0 ?_
            case refine_1 =>
              intro w' hSw
              have c0' := keepcell hSw c0
              have c1' := keepcell hSw c1
              have d0' := keepcell hSw d0
              have d1' := keepcell hSw d1
              go_simp
              try (with_reducible rfl)
            try simp only [Act.put, List.setIfInBounds_toArray, List.set_cons_zero, List.set_cons_succ]
            refine wpE_take (i := 9) (oi := ⟨some 110, _, _, _, _, _⟩) (v := .bool false) rfl (by decide +kernel) (by decide +kernel) (by decide +kernel) (fun _ _ _ h => h) (Or.inl ⟨by rfl, ?_⟩) hb0 ?_
            case refine_1 =>
              intro w' hSw
              have c0' := keepcell hSw c0
              have c1' := keepcell hSw c1
              have d0' := keepcell hSw d0
              have d1' := keepcell hSw d1
              go_simp
              try (with_reducible rfl)
            try simp only [Act.put, List.setIfInBounds_toArray, List.set_cons_zero, List.set_cons_succ]
            refine wpE_take (i := 10) (oi := ⟨some 111, _, _, _, _, _⟩) (v := ?_) rfl (by decide +kernel) (by decide +kernel) (by decide +kernel) (fun _ _ _ h => h) (Or.inl ⟨by rfl, ?_⟩) hb0 ?_
            case refine_2 =>
              intro w' hSw
              have c0' := keepcell hSw c0
              have c1' := keepcell hSw c1
              have d0' := keepcell hSw d0
              have d1' := keepcell hSw d1
              go_simp
              try (with_reducible rfl)
            try simp only [Act.put, List.setIfInBounds_toArray, List.set_cons_zero, List.set_cons_succ]
            refine wpE_take (i := 11) (oi := ⟨some 112, _, _, _, _, _⟩) (v := ?_) rfl (by decide +kernel) (by decide +kernel) (by decide +kernel) (fun _ _ _ h => h) (Or.inl ⟨by rfl, ?_⟩) hb0 ?_
            case refine_2 =>
              intro w' hSw
              have c0' := keepcell hSw c0
              have c1' := keepcell hSw c1
              have d0' := keepcell hSw d0
              have d1' := keepcell hSw d1
              go_simp
              try (with_reducible rfl)
            try simp only [Act.put, List.setIfInBounds_toArray, List.set_cons_zero, List.set_cons_succ]
            refine wpE_take (i := 12) (oi := ⟨some 113, _, _, _, _, _⟩) (v := ?_) rfl (by decide +kernel) (by decide +kernel) (by decide +kernel) (fun _ _ _ h => h) (Or.inl ⟨by rfl, ?_⟩) hb0 ?_
            case refine_2 =>
              intro w' hSw
              have c0' := keepcell hSw c0
              have c1' := keepcell hSw c1
              have d0' := keepcell hSw d0
              have d1' := keepcell hSw d1
              go_simp
              try (with_reducible rfl)
            try simp only [Act.put, List.setIfInBounds_toArray, List.set_cons_zero, List.set_cons_succ]
            refine wpE_take (i := 13) (oi := ⟨some 114, _, _, _, _, _⟩) (v := ?_) rfl (by decide +kernel) (by decide +kernel) (by decide +kernel) (fun _ _ _ h => h) (Or.inl ⟨by rfl, ?_⟩) hb0 ?_
            case refine_2 =>
              intro w' hSw
              have c0' := keepcell hSw c0
              have c1' := keepcell hSw c1
              have d0' := keepcell hSw d0
              have d1' := keepcell hSw d1
              go_simp
              try (with_reducible rfl)
            try simp only [Act.put, List.setIfInBounds_toArray, List.set_cons_zero, List.set_cons_succ]
            refine wpE_take (i := 14) (oi := ⟨some 115, _, _, _, _, _⟩) (v := ?_) rfl (by decide +kernel) (by decide +kernel) (by decide +kernel) (fun _ _ _ h => h) (Or.inl ⟨by rfl, ?_⟩) hb0 ?_
            case refine_2 =>
              intro w' hSw
              have c0' := keepcell hSw c0
              have c1' := keepcell hSw c1
              have d0' := keepcell hSw d0
              have d1' := keepcell hSw d1
              go_simp
              try (with_reducible rfl)
            try simp only [Act.put, List.setIfInBounds_toArray, List.set_cons_zero, List.set_cons_succ]
            refine wpE_take (i := 15) (oi := ⟨some 116, _, _, _, _, _⟩) (v := ?_) rfl (by decide +kernel) (by decide +kernel) (by decide +kernel) (fun _ _ _ h => h) (Or.inl ⟨by rfl, ?_⟩) hb0 ?_
            case refine_2 =>
              intro w' hSw
              have c0' := keepcell hSw c0
              have c1' := keepcell hSw c1
              have d0' := keepcell hSw d0
              have d1' := keepcell hSw d1
              go_simp
              try (with_reducible rfl)
            try simp only [Act.put, List.setIfInBounds_toArray, List.set_cons_zero, List.set_cons_succ]
            refine wpE_take (i := 16) (oi := ⟨some 117, _, _, _, _, _⟩) (v := ?_) rfl (by decide +kernel) (by decide +kernel) (by decide +kernel) (fun _ _ _ h => h) (Or.inl ⟨by rfl, ?_⟩) hb0 ?_
            case refine_2 =>
              intro w' hSw
              have c0' := keepcell hSw c0
              have c1' := keepcell hSw c1
              have d0' := keepcell hSw d0
              have d1' := keepcell hSw d1
              go_simp
              try (with_reducible rfl)
            try simp only [Act.put, List.setIfInBounds_toArray, List.set_cons_zero, List.set_cons_succ]
            refine wpE_take (i := 17) (oi := ⟨some 118, _, _, _, _, _⟩) (v := ?_) rfl (by decide +kernel) (by decide +kernel) (by decide +kernel) (fun _ _ _ h => h) (Or.inl ⟨by rfl, ?_⟩) hb0 ?_
            case refine_2 =>
              intro w' hSw
              have c0' := keepcell hSw c0
              have c1' := keepcell hSw c1
              have d0' := keepcell hSw d0
              have d1' := keepcell hSw d1
              go_simp
              try (with_reducible rfl)
            try simp only [Act.put, List.setIfInBounds_toArray, List.set_cons_zero, List.set_cons_succ]
            refine wpE_take (i := 18) (oi := ⟨some 119, _, _, _, _, _⟩) (v := .bool false) rfl (by decide +kernel) (by decide +kernel) (by decide +kernel) (fun _ _ _ h => h) (Or.inl ⟨by rfl, ?_⟩) hb0 ?_
            case refine_1 =>
              intro w' hSw
              have c0' := keepcell hSw c0
              have c1' := keepcell hSw c1
              have d0' := keepcell hSw d0
              have d1' := keepcell hSw d1
              go_simp
              try (with_reducible rfl)
            try simp only [Act.put, List.setIfInBounds_toArray, List.set_cons_zero, List.set_cons_succ]
            refine wpE_take (i := 19) (oi := ⟨some 120, _, _, _, _, _⟩) (v := .bool false) rfl (by decide +kernel) (by decide +kernel) (by decide +kernel) (fun _ _ _ h => h) (Or.inl ⟨by rfl, ?_⟩) hb0 ?_
            case refine_1 =>
              intro w' hSw
              have c0' := keepcell hSw c0
              have c1' := keepcell hSw c1
              have d0' := keepcell hSw d0
              have d1' := keepcell hSw d1
              go_simp
              try (with_reducible rfl)
            try simp only [Act.put, List.setIfInBounds_toArray, List.set_cons_zero, List.set_cons_succ]
            refine wpE_done (by decide +kernel) ?_
            clear c0 c1 d0 d1 b0 b1 b2 f0 f1 f2 hb0 HB KB
            have c0 := c0n
            have c1 := c1n
            have d0 := d0n
            have d1 := d1n
            clear c0n c1n d0n d1n
            have HB := HBD
            have KB := KBD
            clear HBD KBD
            have b0 : y0.cell? ⟨k2, 0, none⟩ = some (.int .i64 0) := KB.out.cell 0
            have f0 : y0.frozen? ⟨k2, 0, none⟩ = false := Joins.unfrozen_of_block KB.out 0
            have b1 : y0.cell? ⟨k2, 1, none⟩ = some (.int .i64 0) := KB.out.cell 1
            have f1 : y0.frozen? ⟨k2, 1, none⟩ = false := Joins.unfrozen_of_block KB.out 1
            have b2 : y0.cell? ⟨k2, 2, none⟩ = some (.int .i64 0) := KB.out.cell 2
            have f2 : y0.frozen? ⟨k2, 2, none⟩ = false := Joins.unfrozen_of_block KB.out 2
            go_upto_region 18 with fail
            clear b0 b1 b2 f0 f1 f2 c0 c1 d0 d1
            have hb0 : Below y0.heap.size y0 y0.drew := below_drew (Below.refl _ _)
            refine wp_region_mixE (fun w' => Below w.heap.size w w') (by kernel_rfl) ?_
            have HBE := Lib.hid (HB.out.trans (hb0.mono HB.out.size))
            have KBE := Lib.hid (KB.out.below hb0)
            generalize y0.drew = y1 at HBE KBE ⊢
            refine wpE_take (i := 0) (oi := ⟨some 138, _, _, _, _, _⟩) (v := ?_) rfl (by decide +kernel) (by decide +kernel) (by decide +kernel) (fun _ _ _ h => h) (Or.inl ⟨by rfl, ?_⟩) HBE.out ?_
            case refine_2 =>
              intro w' hSw
              obtain ⟨q0, q1⟩ := HC0.out w' hSw
              go_simp
              try (with_reducible rfl)
            try simp only [Act.put, List.setIfInBounds_toArray, List.set_cons_zero, List.set_cons_succ]
            refine wpE_take (i := 1) (oi := ⟨some 139, _, _, _, _, _⟩) (v := ?_) rfl (by decide +kernel) (by decide +kernel) (by decide +kernel) (fun _ _ _ h => h) (Or.inl ⟨by rfl, ?_⟩) HBE.out ?_
            case refine_2 =>
              intro w' hSw
              obtain ⟨q0, q1⟩ := HC0.out w' hSw
              go_simp
              try (with_reducible rfl)
            try simp only [Act.put, List.setIfInBounds_toArray, List.set_cons_zero, List.set_cons_succ]
            refine wpE_take (i := 2) (oi := ⟨some 140, _, _, _, _, _⟩) (v := ?_) rfl (by decide +kernel) (by decide +kernel) (by decide +kernel) (fun _ _ _ h => h) (Or.inl ⟨by rfl, ?_⟩) HBE.out ?_
            case refine_2 =>
              intro w' hSw
              obtain ⟨q0, q1⟩ := HC0.out w' hSw
              go_simp
              try (with_reducible rfl)
            try simp only [Act.put, List.setIfInBounds_toArray, List.set_cons_zero, List.set_cons_succ]
            refine wpE_take (i := 3) (oi := ⟨some 141, _, _, _, _, _⟩) (v := ?_) rfl (by decide +kernel) (by decide +kernel) (by decide +kernel) (fun _ _ _ h => h) (Or.inl ⟨by rfl, ?_⟩) HBE.out ?_
            case refine_2 =>
              intro w' hSw
              obtain ⟨q0, q1⟩ := HC0.out w' hSw
              go_simp
              try (with_reducible rfl)
            try simp only [Act.put, List.setIfInBounds_toArray, List.set_cons_zero, List.set_cons_succ]
            refine wpE_take (i := 4) (oi := ⟨some 142, _, _, _, _, _⟩) (v := ?_) rfl (by decide +kernel) (by decide +kernel) (by decide +kernel) (fun _ _ _ h => h) (Or.inl ⟨by rfl, ?_⟩) HBE.out ?_
            case refine_2 =>
              intro w' hSw
              obtain ⟨q0, q1⟩ := HC0.out w' hSw
              go_simp
              try (with_reducible rfl)
            try simp only [Act.put, List.setIfInBounds_toArray, List.set_cons_zero, List.set_cons_succ]
            refine wpE_take (i := 5) (oi := ⟨some 143, _, _, _, _, _⟩) (v := ?_) rfl (by decide +kernel) (by decide +kernel) (by decide +kernel) (fun _ _ _ h => h) (Or.inl ⟨by rfl, ?_⟩) HBE.out ?_
            case refine_2 =>
              intro w' hSw
              obtain ⟨q0, q1⟩ := HC0.out w' hSw
              go_simp
              try (with_reducible rfl)
            try simp only [Act.put, List.setIfInBounds_toArray, List.set_cons_zero, List.set_cons_succ]
            refine wpE_take (i := 6) (oi := ⟨some 144, _, _, _, _, _⟩) (v := ?_) rfl (by decide +kernel) (by decide +kernel) (by decide +kernel) (fun _ _ _ h => h) (Or.inl ⟨by rfl, ?_⟩) HBE.out ?_
            case refine_2 =>
              intro w' hSw
              obtain ⟨q0, q1⟩ := HC0.out w' hSw
              go_simp
              try (with_reducible rfl)
            try simp only [Act.put, List.setIfInBounds_toArray, List.set_cons_zero, List.set_cons_succ]
            refine wpE_take (i := 7) (oi := ⟨some 145, _, _, _, _, _⟩) (v := ?_) rfl (by decide +kernel) (by decide +kernel) (by decide +kernel) (fun _ _ _ h => h) (Or.inl ⟨by rfl, ?_⟩) HBE.out ?_
            case refine_2 =>
              intro w' hSw
              obtain ⟨q0, q1⟩ := HC0.out w' hSw
              go_simp
              try (with_reducible rfl)
            try simp only [Act.put, List.setIfInBounds_toArray, List.set_cons_zero, List.set_cons_succ]
            refine wpE_take (i := 8) (oi := ⟨some 146, _, _, _, _, _⟩) (v := ?_) rfl (by decide +kernel) (by decide +kernel) (by decide +kernel) (fun _ _ _ h => h) (Or.inl ⟨by rfl, ?_⟩) HBE.out ?_
            case refine_2 =>
              intro w' hSw
              obtain ⟨q0, q1⟩ := HC0.out w' hSw
              go_simp
              try (with_reducible rfl)
            try simp only [Act.put, List.setIfInBounds_toArray, List.set_cons_zero, List.set_cons_succ]
            refine wpE_take (i := 9) (oi := ⟨some 147, _, _, _, _, _⟩) (v := ?_) rfl (by decide +kernel) (by decide +kernel) (by decide +kernel) (fun _ _ _ h => h) (Or.inl ⟨by rfl, ?_⟩) HBE.out ?_
            case refine_2 =>
              intro w' hSw
              obtain ⟨q0, q1⟩ := HC0.out w' hSw
              go_simp
              try (with_reducible rfl)
            try simp only [Act.put, List.setIfInBounds_toArray, List.set_cons_zero, List.set_cons_succ]
            refine wpE_take (i := 10) (oi := ⟨some 148, _, _, _, _, _⟩) (v := ?_) rfl (by decide +kernel) (by decide +kernel) (by decide +kernel) (fun _ _ _ h => h) (Or.inl ⟨by rfl, ?_⟩) HBE.out ?_
            case refine_2 =>
              intro w' hSw
              obtain ⟨q0, q1⟩ := HC0.out w' hSw
              go_simp
              try (with_reducible rfl)
            try simp only [Act.put, List.setIfInBounds_toArray, List.set_cons_zero, List.set_cons_succ]
            have b0 : y1.cell? ⟨k2, 0, none⟩ = some (.int .i64 0) := KBE.out.cell 0
            have f0 : y1.frozen? ⟨k2, 0, none⟩ = false := Joins.unfrozen_of_block KBE.out 0
            have b1 : y1.cell? ⟨k2, 1, none⟩ = some (.int .i64 0) := KBE.out.cell 1
            have f1 : y1.frozen? ⟨k2, 1, none⟩ = false := Joins.unfrozen_of_block KBE.out 1
            have b2 : y1.cell? ⟨k2, 2, none⟩ = some (.int .i64 0) := KBE.out.cell 2
            have f2 : y1.frozen? ⟨k2, 2, none⟩ = false := Joins.unfrozen_of_block KBE.out 2
            have HS3 := Lib.hid (store3 KBE.out (.int .i64 yv) (.int .i64 xv) (.int .i64 (-k)))
            refine wpE_step (i := 11) (o := ⟨none, _, _, _, _, _⟩) rfl (by decide +kernel) (fun K hK => ?_)
            go_simp
            refine hK.out _ _ (HS3.out.2 _ _ HBE.out hk2w) ?_
            clear hK K
            try simp only [Act.put, List.setIfInBounds_toArray, List.set_cons_zero, List.set_cons_succ]
            refine wpE_take (i := 12) (oi := ⟨some 5, _, _, _, _, _⟩) (v := ?_) rfl (by decide +kernel) (by decide +kernel) (by decide +kernel) (fun _ _ _ h => h) (Or.inl ⟨by rfl, ?_⟩) (HS3.out.2 _ _ HBE.out hk2w) ?_
            case refine_2 =>
              intro w' hSw
              go_simp
              try (with_reducible rfl)
            try simp only [Act.put, List.setIfInBounds_toArray, List.set_cons_zero, List.set_cons_succ]
            refine wpE_done (by decide +kernel) ?_
            clear b0 b1 b2 f0 f1 f2
            go_wp2
            try simp only [Exit.inBlock, Exit.then]
            refine bodyPost_ret (results_c2 rfl _ _ _ k2 _ rfl (load41 HS3.out.1 rfl)) rfl ?_
            exact ⟨by rw [HR.out]; rfl, HS3.out.2 _ _ HBE.out hk2w⟩
end Go.Proofs.Ytbmofagaammgmaa
