/- The reference: the value of an expression with a type. -/
import Derived.Test.YtfhbffgnpedaeaaErv
import Derived.Test.YtfhbffgnpedaeaaEcd
namespace Go.Proofs.Ytfhbffgnpedaeaa
open Go.ChangeShapes Go.WideShapes Go.ChangeAt Go.RowKit Go.ChangeMaps

inductive VOk (R : List V3) : Ex → Prop
  | lit (x : Ex) : x.op = 1 → VOk R x
  | col (x : Ex) : x.op = 2 → 0 ≤ x.ix → x.ix < R.length → VOk R x
  | un (x a : Ex) : x.op = 3 ∨ x.op = 9 → x.args = [a] → VOk R a → VOk R x
  | bin (x a b : Ex) : 4 ≤ x.op ∧ x.op ≤ 8 → x.args = [a, b] → VOk R a → VOk R b → (7 ≤ x.op → (evM R b).k ≠ 0 → 1 ≤ (evM R b).n) → VOk R x
set_option maxRecDepth 100000 in
set_option maxHeartbeats 4000000 in
theorem RValue_any (R : List V3) (x : Ex) (hx : VOk R x) : ∀ (w : World) (A : Option Addr) (n c : Nat), ExAt w x → Vls w A n R → (∀ v ∈ R, v.ok) → Calls Try.prog 14 #[x.agg, .slice A n c] w fun e w' => e = .returned (evM R x).agg ∧ Below w.heap.size w w' := by
  induction hx with
  | lit x h1 =>
    intro w A n c h hrow hok
    have HE := Lib.hid (show evM R x = x.v by rw [evM_eq, if_pos h1])
    unfold Ex.agg V3.agg
    rw [HE.out]
    rw [h1]
    go_enter Try.func14, Try.ntmps14
    go_wp2
    go_returns
    exact ⟨rfl, ((Below.refl _ w).alloc (Nat.le_refl _) _).alloc (by simp) _⟩
  | col x h2 h0 hlt =>
    intro w A n c h hrow hok
    obtain ⟨i, hi⟩ : ∃ i : Nat, x.ix = (i : Int) := ⟨x.ix.toNat, by omega⟩
    have hiR : i < R.length := by omega
    have hRl := hrow.len
    have HE := Lib.hid (show evM R x = R[i] by rw [evM_eq, if_neg (by omega), if_pos h2, if_neg (by omega), hi]; simp [List.getD, hiR])
    obtain ⟨b, off, rfl, hbl, hc⟩ := hrow.at (by omega)
    obtain ⟨c0, c1, c2⟩ := hc w (Below.refl _ _) i hiR
    have hin : i < n := by omega
    have hini : (i : Int) < n := by omega
    unfold Ex.agg V3.agg
    rw [HE.out]
    clear hc HE
    generalize R[i] = y at *
    rw [h2, hi]
    clear hi h2
    go_enter Try.func14, Try.ntmps14
    go_wp2
    go_returns
    exact ⟨rfl, ((Below.refl _ w).alloc (Nat.le_refl _) _).alloc (by simp) _⟩
  | un x a hop hargs ha ih =>
    intro w A n c h hrow hok
    have hm : a ∈ x.args := by rw [hargs]; simp
    have CA := Lib.hid (fun W (hW : Below w.heap.size w W) => ih W A n c ((h.arg a hm).keep hW) (hrow.below hW) hok)
    have hx0 : 0 < x.args.length := by rw [hargs]; exact Nat.zero_lt_one
    have HVO := Lib.hid (evM_ok R hok a (h.arg a hm))
    obtain ⟨b, off, hA, hbl, hc⟩ := h.at' hx0
    have HC := Lib.hid (fun W hW => hc W hW 0 a (by rw [hargs]; rfl))
    simp only [Nat.zero_mul, Nat.add_zero] at HC
    have HE := Lib.hid (show evM R x = if (evM R a).k = 0 then nul else unM x.op (evM R a) by
      rw [evM_eq, if_neg (by omega), if_neg (by omega), hargs]
      simp only [evL, combM, List.any_cons, List.any_nil, Bool.or_false, nullB, decide_eq_true_eq])
    obtain ⟨op, hop2⟩ : ∃ op, x.op = op := ⟨_, rfl⟩
    rw [hop2] at hop HE
    unfold Ex.agg V3.agg at *
    rw [hop2]
    obtain ⟨u, hu⟩ : ∃ u, evM R a = u := ⟨_, rfl⟩
    rw [hu] at HE HVO
    simp only [hu] at CA
    obtain ⟨r, hr⟩ : ∃ r, evM R x = r := ⟨_, rfl⟩
    rw [hr] at HE ⊢
    have hbw : b < w.heap.size := hbl
    clear hc hbl hu hr h hrow ih hargs hm hop2
    obtain ⟨W0, hW0⟩ : ∃ W, W = (w.alloc (.cells #[.int .i64 op, .string x.tb, .string x.nm, .int .i64 x.ix, .int .i64 x.v.k, .int .i64 x.v.n, .string x.v.s, .slice (some ⟨b, off, none⟩) x.args.length x.c] 26)).alloc (.cells #[.int .i64 0, .int .i64 0, .string ⟨#[]⟩] 23) := ⟨_, rfl⟩
    have HB := Lib.hid (show Below w.heap.size w W0 by rw [hW0]; exact ((Below.refl _ w).alloc (Nat.le_refl _) _).alloc (by simp) _)
    have K2 := Lib.hid (show Blk W0 w.heap.size 26 #[.int .i64 op, .string x.tb, .string x.nm, .int .i64 x.ix, .int .i64 x.v.k, .int .i64 x.v.n, .string x.v.s, .slice (some ⟨b, off, none⟩) x.args.length x.c] by rw [hW0]; exact (Blk.new _ _ _).alloc _)
    have K4 := Lib.hid (show Blk W0 (w.heap.size + 1) 23 #[.int .i64 0, .int .i64 0, .string ⟨#[]⟩] by rw [hW0]; exact Blk.new_ (by simp) rfl)
    rw [hA]
    clear hA
    obtain ⟨c0, c1, c2, c3, c4, c5, c6, c7⟩ := HC.out _ ((Below.refl w.heap.size w).alloc (Nat.le_refl _) (.cells #[.int .i64 op, .string x.tb, .string x.nm, .int .i64 x.ix, .int .i64 x.v.k, .int .i64 x.v.n, .string x.v.s, .slice (some ⟨b, off, none⟩) x.args.length x.c] 26))
    obtain ⟨d0, d1, d2, d3, d4, d5, d6, d7⟩ := HC.out _ HB.out
    rw [hW0] at d0 d1 d2 d3 d4 d5 d6 d7
    have e1 : (op == 1) = false := by simp; omega
    have e2 : (op == 2) = false := by simp; omega
    go_enter Try.func14, Try.ntmps14
    go_wp2_with fail
    rw [← hW0]
    clear hW0 c0 c1 c2 c3 c4 c5 c6 c7 d0 d1 d2 d3 d4 d5 d6 d7
    refine (CA.out _ HB.out).mono ?_
    rintro e w1 ⟨rfl, hb⟩
    have k0 : w1.cell? ⟨w.heap.size, 0, none⟩ = some (.int .i64 op) := (K2.out.below hb).cell 0
    have kl : w.heap.size < w1.heap.size := (K2.out.below hb).lt
    replace K4 := Lib.hid (K4.out.below hb)
    replace HB := Lib.hid (HB.out.trans (hb.mono HB.out.size))
    clear hb K2
    obtain ⟨uk, huk⟩ : ∃ k, u.k = k := ⟨_, rfl⟩
    rw [huk] at HE ⊢
    clear huk
    have HB1 := Lib.hid (HB.out.alloc (o := .cells #[.int .i64 uk, .int .i64 u.n, .string u.s] 23) HB.out.size)
    have K4a := Lib.hid (K4.out.alloc (.cells #[.int .i64 uk, .int .i64 u.n, .string u.s] 23))
    have kl4 : w.heap.size + 1 < w1.heap.size := K4.out.lt
    by_cases hz : uk = 0
    · subst hz
      have HF := Lib.hid (show nul = r by rw [HE.out]; rfl)
      go_wp2_with ((refine wpList_store_row (o := ⟨none, _, _, _, _, _⟩) rfl 23 _ _ rfl (w.heap.size + 1) #[.int .i64 0, .int .i64 0, .string ⟨#[]⟩] rfl rfl 23 _ K4a.out (by kernel_rfl) rfl (by simp [Value.oneCell']) ?_))
      have gr := grown_row (w1.alloc (.cells #[.int .i64 0, .int .i64 u.n, .string u.s] 23)) (w.heap.size + 1) #[.int .i64 0, .int .i64 0, .string ⟨#[]⟩]
      refine bodyPost_ret (results_c1 rfl _ _ _ (w.heap.size + 1) _ rfl (load23 (K4a.out.setRow (ds := #[.int .i64 0, .int .i64 0, .string ⟨#[]⟩])) rfl)) rfl ?_
      exact ⟨by rw [← HF.out]; rfl, HB1.out.grown gr HB1.out.size (fun j hj => by injection hj with hj; omega)⟩
    have ez : (uk == 0) = false := by simpa using hz
    have HF := Lib.hid (show unM op u = r by rw [HE.out, if_neg hz])
    clear HE hz
    have CI := Lib.hid (fun n W => rinteger_any n W)
    have k0a : (w1.alloc (.cells #[.int .i64 uk, .int .i64 u.n, .string u.s] 23)).cell? ⟨w.heap.size, 0, none⟩ = some (.int .i64 op) := pastcell k0
    by_cases h3 : op = 3
    · subst h3
      go_wp2_with fail
      refine (CI.out _ _).mono ?_
      rintro e w2 ⟨rfl, hb⟩
      have HB2 := Lib.hid (HB1.out.trans (hb.mono HB1.out.size))
      have K4b := Lib.hid (K4a.out.below hb)
      clear hb
      go_wp2_with ((refine wpList_store_row (o := ⟨none, _, _, _, _, _⟩) rfl 23 _ _ rfl (w.heap.size + 1) #[.int .i64 1, .int .i64 (wrap64 (-u.n)), .string ⟨#[]⟩] rfl rfl 23 _ K4b.out (by kernel_rfl) rfl (by simp [Value.oneCell']) ?_))
      have gr := grown_row w2 (w.heap.size + 1) #[.int .i64 1, .int .i64 (wrap64 (-u.n)), .string ⟨#[]⟩]
      refine bodyPost_ret (results_c1 rfl _ _ _ (w.heap.size + 1) _ rfl (load23 (K4b.out.setRow (ds := #[.int .i64 1, .int .i64 (wrap64 (-u.n)), .string ⟨#[]⟩])) rfl)) rfl ?_
      exact ⟨by rw [← HF.out]; rfl, HB2.out.grown gr HB2.out.size (fun j hj => by injection hj with hj; omega)⟩
    · have h9 : op = 9 := by omega
      subst h9
      have hs := HVO.out.2.2.2.2
      go_wp2_with fail
      refine (CI.out _ _).mono ?_
      rintro e w2 ⟨rfl, hb⟩
      have HB2 := Lib.hid (HB1.out.trans (hb.mono HB1.out.size))
      have K4b := Lib.hid (K4a.out.below hb)
      clear hb
      go_wp2_with ((refine wpList_store_row (o := ⟨none, _, _, _, _, _⟩) rfl 23 _ _ rfl (w.heap.size + 1) #[.int .i64 1, .int .i64 u.s.size, .string ⟨#[]⟩] rfl rfl 23 _ K4b.out (by kernel_rfl) rfl (by simp [Value.oneCell']) ?_))
      have gr := grown_row w2 (w.heap.size + 1) #[.int .i64 1, .int .i64 u.s.size, .string ⟨#[]⟩]
      refine bodyPost_ret (results_c1 rfl _ _ _ (w.heap.size + 1) _ rfl (load23 (K4b.out.setRow (ds := #[.int .i64 1, .int .i64 u.s.size, .string ⟨#[]⟩])) rfl)) rfl ?_
      exact ⟨by rw [← HF.out]; rfl, HB2.out.grown gr HB2.out.size (fun j hj => by injection hj with hj; omega)⟩
  | bin x a d hop hargs ha hd hdiv iha ihd =>
    intro w A n c h hrow hok
    have hm : a ∈ x.args := by rw [hargs]; simp
    have hm2 : d ∈ x.args := by rw [hargs]; simp
    have CA := Lib.hid (fun W (hW : Below w.heap.size w W) => iha W A n c ((h.arg a hm).keep hW) (hrow.below hW) hok)
    have CD := Lib.hid (fun W (hW : Below w.heap.size w W) => ihd W A n c ((h.arg d hm2).keep hW) (hrow.below hW) hok)
    have hx0 : 0 < x.args.length := by rw [hargs]; exact Nat.zero_lt_succ _
    have hx1 : 1 < x.args.length := by rw [hargs]; exact Nat.lt_succ_self _
    have hx1i : (1 : Int) < (x.args.length : Int) := by omega
    have HVO := Lib.hid (evM_ok R hok a (h.arg a hm))
    have HVD := Lib.hid (evM_ok R hok d (h.arg d hm2))
    obtain ⟨b, off, hA, hbl, hc⟩ := h.at' hx0
    have HC := Lib.hid (fun W hW => hc W hW 0 a (by rw [hargs]; rfl))
    have HD := Lib.hid (fun W hW => hc W hW 1 d (by rw [hargs]; rfl))
    simp only [Nat.zero_mul, Nat.add_zero, Nat.one_mul, Nat.add_assoc, Nat.reduceAdd] at HC HD
    have HE := Lib.hid (show evM R x = if (evM R a).k = 0 then nul else if (evM R d).k = 0 then nul else binM x.op (evM R a).n (evM R d).n by
      rw [evM_eq, if_neg (by omega), if_neg (by omega), hargs]
      simp only [evL, combM, List.any_cons, List.any_nil, Bool.or_false, nullB, Bool.or_eq_true, decide_eq_true_eq]
      by_cases g1 : (evM R a).k = 0
      · rw [if_pos (.inl g1), if_pos g1]
      · by_cases g2 : (evM R d).k = 0
        · rw [if_pos (.inr g2), if_neg g1, if_pos g2]
        · rw [if_neg (by simp [g1, g2]), if_neg g1, if_neg g2])
    obtain ⟨op, hop2⟩ : ∃ op, x.op = op := ⟨_, rfl⟩
    rw [hop2] at hop HE hdiv
    unfold Ex.agg V3.agg at *
    rw [hop2]
    obtain ⟨u, hu⟩ : ∃ u, evM R a = u := ⟨_, rfl⟩
    obtain ⟨v, hv⟩ : ∃ u, evM R d = u := ⟨_, rfl⟩
    rw [hu] at HE HVO
    rw [hv] at HE HVD hdiv
    simp only [hu] at CA
    simp only [hv] at CD
    obtain ⟨r, hr⟩ : ∃ r, evM R x = r := ⟨_, rfl⟩
    rw [hr] at HE ⊢
    have hbw : b < w.heap.size := hbl
    have HDV := Lib.hid hdiv
    clear hc hbl hu hv hr h hrow iha ihd hargs hm hm2 hop2 hdiv
    obtain ⟨W0, hW0⟩ : ∃ W, W = (w.alloc (.cells #[.int .i64 op, .string x.tb, .string x.nm, .int .i64 x.ix, .int .i64 x.v.k, .int .i64 x.v.n, .string x.v.s, .slice (some ⟨b, off, none⟩) x.args.length x.c] 26)).alloc (.cells #[.int .i64 0, .int .i64 0, .string ⟨#[]⟩] 23) := ⟨_, rfl⟩
    have HB := Lib.hid (show Below w.heap.size w W0 by rw [hW0]; exact ((Below.refl _ w).alloc (Nat.le_refl _) _).alloc (by simp) _)
    have K2 := Lib.hid (show Blk W0 w.heap.size 26 #[.int .i64 op, .string x.tb, .string x.nm, .int .i64 x.ix, .int .i64 x.v.k, .int .i64 x.v.n, .string x.v.s, .slice (some ⟨b, off, none⟩) x.args.length x.c] by rw [hW0]; exact (Blk.new _ _ _).alloc _)
    have K4 := Lib.hid (show Blk W0 (w.heap.size + 1) 23 #[.int .i64 0, .int .i64 0, .string ⟨#[]⟩] by rw [hW0]; exact Blk.new_ (by simp) rfl)
    rw [hA]
    clear hA
    obtain ⟨c0, c1, c2, c3, c4, c5, c6, c7⟩ := HC.out _ ((Below.refl w.heap.size w).alloc (Nat.le_refl _) (.cells #[.int .i64 op, .string x.tb, .string x.nm, .int .i64 x.ix, .int .i64 x.v.k, .int .i64 x.v.n, .string x.v.s, .slice (some ⟨b, off, none⟩) x.args.length x.c] 26))
    obtain ⟨d0, d1, d2, d3, d4, d5, d6, d7⟩ := HC.out _ HB.out
    rw [hW0] at d0 d1 d2 d3 d4 d5 d6 d7
    have e1 : (op == 1) = false := by simp; omega
    have e2 : (op == 2) = false := by simp; omega
    have e3 : (op == 3) = false := by simp; omega
    have e9 : (op == 9) = false := by simp; omega
    go_enter Try.func14, Try.ntmps14
    go_wp2_with fail
    rw [← hW0]
    clear hW0 c0 c1 c2 c3 c4 c5 c6 c7 d0 d1 d2 d3 d4 d5 d6 d7
    refine (CA.out _ HB.out).mono ?_
    rintro e w1 ⟨rfl, hb⟩
    replace K2 := Lib.hid (K2.out.below hb)
    replace K4 := Lib.hid (K4.out.below hb)
    replace HB := Lib.hid (HB.out.trans (hb.mono HB.out.size))
    clear hb
    obtain ⟨uk, huk⟩ : ∃ k, u.k = k := ⟨_, rfl⟩
    rw [huk] at HE ⊢
    clear huk
    have HB1 := Lib.hid (HB.out.alloc (o := .cells #[.int .i64 uk, .int .i64 u.n, .string u.s] 23) HB.out.size)
    have K4a := Lib.hid (K4.out.alloc (.cells #[.int .i64 uk, .int .i64 u.n, .string u.s] 23))
    have kl4 : w.heap.size + 1 < w1.heap.size := K4.out.lt
    by_cases hz : uk = 0
    · subst hz
      have HF := Lib.hid (show nul = r by rw [HE.out]; rfl)
      go_wp2_with ((refine wpList_store_row (o := ⟨none, _, _, _, _, _⟩) rfl 23 _ _ rfl (w.heap.size + 1) #[.int .i64 0, .int .i64 0, .string ⟨#[]⟩] rfl rfl 23 _ K4a.out (by kernel_rfl) rfl (by simp [Value.oneCell']) ?_))
      have gr := grown_row (w1.alloc (.cells #[.int .i64 0, .int .i64 u.n, .string u.s] 23)) (w.heap.size + 1) #[.int .i64 0, .int .i64 0, .string ⟨#[]⟩]
      refine bodyPost_ret (results_c1 rfl _ _ _ (w.heap.size + 1) _ rfl (load23 (K4a.out.setRow (ds := #[.int .i64 0, .int .i64 0, .string ⟨#[]⟩])) rfl)) rfl ?_
      exact ⟨by rw [← HF.out]; rfl, HB1.out.grown gr HB1.out.size (fun j hj => by injection hj with hj; omega)⟩
    have ez : (uk == 0) = false := by simpa using hz
    have K2a := Lib.hid (K2.out.alloc (.cells #[.int .i64 uk, .int .i64 u.n, .string u.s] 23))
    have K5a := Lib.hid (show Blk (w1.alloc (.cells #[.int .i64 uk, .int .i64 u.n, .string u.s] 23)) w1.heap.size 23 #[.int .i64 uk, .int .i64 u.n, .string u.s] from Blk.new _ _ _)
    have k0 : (w1.alloc (.cells #[.int .i64 uk, .int .i64 u.n, .string u.s] 23)).cell? ⟨w.heap.size, 0, none⟩ = some (.int .i64 op) := K2a.out.cell 0
    have k7 : (w1.alloc (.cells #[.int .i64 uk, .int .i64 u.n, .string u.s] 23)).cell? ⟨w.heap.size, 7, none⟩ = some (.slice (some ⟨b, off, none⟩) x.args.length x.c) := K2a.out.cell 7
    obtain ⟨c0, c1, c2, c3, c4, c5, c6, c7⟩ := HD.out _ HB1.out
    go_wp2_with fail
    refine (CD.out _ HB1.out).mono ?_
    rintro e w2 ⟨rfl, hb⟩
    replace K2 := Lib.hid (K2a.out.below hb)
    replace K4 := Lib.hid (K4a.out.below hb)
    have K5 := Lib.hid (K5a.out.below hb)
    replace HB := Lib.hid (HB1.out.trans (hb.mono HB1.out.size))
    clear hb c0 c1 c2 c3 c4 c5 c6 c7 k0 k7 K2a K4a K5a HB1 kl4
    have kl4 : w.heap.size + 1 < w2.heap.size := K4.out.lt
    have kl5 : w1.heap.size < w2.heap.size := K5.out.lt
    have kl2 : w.heap.size < w2.heap.size := K2.out.lt
    obtain ⟨vk, hvk⟩ : ∃ k, v.k = k := ⟨_, rfl⟩
    rw [hvk] at HE HDV ⊢
    clear hvk
    generalize w1.heap.size = g5 at *
    have HB1 := Lib.hid (HB.out.alloc (o := .cells #[.int .i64 vk, .int .i64 v.n, .string v.s] 23) HB.out.size)
    have K4a := Lib.hid (K4.out.alloc (.cells #[.int .i64 vk, .int .i64 v.n, .string v.s] 23))
    by_cases hz2 : vk = 0
    · subst hz2
      have HF := Lib.hid (show nul = r by rw [HE.out, if_neg hz]; rfl)
      go_wp2_with ((refine wpList_store_row (o := ⟨none, _, _, _, _, _⟩) rfl 23 _ _ rfl (w.heap.size + 1) #[.int .i64 0, .int .i64 0, .string ⟨#[]⟩] rfl rfl 23 _ K4a.out (by kernel_rfl) rfl (by simp [Value.oneCell']) ?_))
      have gr := grown_row (w2.alloc (.cells #[.int .i64 0, .int .i64 v.n, .string v.s] 23)) (w.heap.size + 1) #[.int .i64 0, .int .i64 0, .string ⟨#[]⟩]
      refine bodyPost_ret (results_c1 rfl _ _ _ (w.heap.size + 1) _ rfl (load23 (K4a.out.setRow (ds := #[.int .i64 0, .int .i64 0, .string ⟨#[]⟩])) rfl)) rfl ?_
      exact ⟨by rw [← HF.out]; rfl, HB1.out.grown gr HB1.out.size (fun j hj => by injection hj with hj; omega)⟩
    have ez2 : (vk == 0) = false := by simpa using hz2
    have HF := Lib.hid (show binM op u.n v.n = r by rw [HE.out, if_neg hz, if_neg hz2])
    have hdv := fun h => HDV.out h hz2
    clear HE hz hz2 HDV
    have K2a := Lib.hid (K2.out.alloc (.cells #[.int .i64 vk, .int .i64 v.n, .string v.s] 23))
    have K5a := Lib.hid (K5.out.alloc (.cells #[.int .i64 vk, .int .i64 v.n, .string v.s] 23))
    have K6a := Lib.hid (show Blk (w2.alloc (.cells #[.int .i64 vk, .int .i64 v.n, .string v.s] 23)) w2.heap.size 23 #[.int .i64 vk, .int .i64 v.n, .string v.s] from Blk.new _ _ _)
    have k0 : (w2.alloc (.cells #[.int .i64 vk, .int .i64 v.n, .string v.s] 23)).cell? ⟨w.heap.size, 0, none⟩ = some (.int .i64 op) := K2a.out.cell 0
    have p1 : (w2.alloc (.cells #[.int .i64 vk, .int .i64 v.n, .string v.s] 23)).cell? ⟨g5, 1, none⟩ = some (.int .i64 u.n) := K5a.out.cell 1
    have p2 : (w2.alloc (.cells #[.int .i64 vk, .int .i64 v.n, .string v.s] 23)).cell? ⟨w2.heap.size, 1, none⟩ = some (.int .i64 v.n) := K6a.out.cell 1
    have CI := Lib.hid (fun n W => rinteger_any n W)
    by_cases h4 : op = 4
    · subst h4
      go_wp2_with fail
      refine (CI.out _ _).mono ?_
      rintro e w4 ⟨rfl, hb⟩
      have HB2 := Lib.hid (HB1.out.trans (hb.mono HB1.out.size))
      have K4b := Lib.hid (K4a.out.below hb)
      clear hb
      go_wp2_with ((refine wpList_store_row (o := ⟨none, _, _, _, _, _⟩) rfl 23 _ _ rfl (w.heap.size + 1) #[.int .i64 1, .int .i64 (wrap64 (u.n + v.n)), .string ⟨#[]⟩] rfl rfl 23 _ K4b.out (by kernel_rfl) rfl (by simp [Value.oneCell']) ?_))
      have gr := grown_row w4 (w.heap.size + 1) #[.int .i64 1, .int .i64 (wrap64 (u.n + v.n)), .string ⟨#[]⟩]
      refine bodyPost_ret (results_c1 rfl _ _ _ (w.heap.size + 1) _ rfl (load23 (K4b.out.setRow (ds := #[.int .i64 1, .int .i64 (wrap64 (u.n + v.n)), .string ⟨#[]⟩])) rfl)) rfl ?_
      exact ⟨by rw [← HF.out]; rfl, HB2.out.grown gr HB2.out.size (fun j hj => by injection hj with hj; omega)⟩
    have e4 : (op == 4) = false := by simpa using h4
    by_cases h5 : op = 5
    · subst h5
      go_wp2_with fail
      refine (CI.out _ _).mono ?_
      rintro e w4 ⟨rfl, hb⟩
      have HB2 := Lib.hid (HB1.out.trans (hb.mono HB1.out.size))
      have K4b := Lib.hid (K4a.out.below hb)
      clear hb
      go_wp2_with ((refine wpList_store_row (o := ⟨none, _, _, _, _, _⟩) rfl 23 _ _ rfl (w.heap.size + 1) #[.int .i64 1, .int .i64 (wrap64 (u.n - v.n)), .string ⟨#[]⟩] rfl rfl 23 _ K4b.out (by kernel_rfl) rfl (by simp [Value.oneCell']) ?_))
      have gr := grown_row w4 (w.heap.size + 1) #[.int .i64 1, .int .i64 (wrap64 (u.n - v.n)), .string ⟨#[]⟩]
      refine bodyPost_ret (results_c1 rfl _ _ _ (w.heap.size + 1) _ rfl (load23 (K4b.out.setRow (ds := #[.int .i64 1, .int .i64 (wrap64 (u.n - v.n)), .string ⟨#[]⟩])) rfl)) rfl ?_
      exact ⟨by rw [← HF.out]; rfl, HB2.out.grown gr HB2.out.size (fun j hj => by injection hj with hj; omega)⟩
    have e5 : (op == 5) = false := by simpa using h5
    by_cases h6 : op = 6
    · subst h6
      go_wp2_with fail
      refine (CI.out _ _).mono ?_
      rintro e w4 ⟨rfl, hb⟩
      have HB2 := Lib.hid (HB1.out.trans (hb.mono HB1.out.size))
      have K4b := Lib.hid (K4a.out.below hb)
      clear hb
      go_wp2_with ((refine wpList_store_row (o := ⟨none, _, _, _, _, _⟩) rfl 23 _ _ rfl (w.heap.size + 1) #[.int .i64 1, .int .i64 (wrap64 (u.n * v.n)), .string ⟨#[]⟩] rfl rfl 23 _ K4b.out (by kernel_rfl) rfl (by simp [Value.oneCell']) ?_))
      have gr := grown_row w4 (w.heap.size + 1) #[.int .i64 1, .int .i64 (wrap64 (u.n * v.n)), .string ⟨#[]⟩]
      refine bodyPost_ret (results_c1 rfl _ _ _ (w.heap.size + 1) _ rfl (load23 (K4b.out.setRow (ds := #[.int .i64 1, .int .i64 (wrap64 (u.n * v.n)), .string ⟨#[]⟩])) rfl)) rfl ?_
      exact ⟨by rw [← HF.out]; rfl, HB2.out.grown gr HB2.out.size (fun j hj => by injection hj with hj; omega)⟩
    have e6 : (op == 6) = false := by simpa using h6
    have hd1 : 1 ≤ v.n := hdv (by omega)
    have CF := Lib.hid (fun W => floor_any u.n v.n W hd1 HVD.out.2.2.2.1 ⟨HVO.out.2.2.1, HVO.out.2.2.2.1⟩)
    obtain ⟨q, hq⟩ : ∃ q, qM u.n v.n = q := ⟨_, rfl⟩
    simp only [hq] at CF
    by_cases h7 : op = 7
    · subst h7
      have HG := Lib.hid (show iV q = r by rw [← HF.out, ← hq]; unfold binM; rw [if_neg (by decide), if_neg (by decide), if_neg (by decide), if_neg (by omega), if_pos rfl])
      go_wp2_with fail
      refine (CF.out _).mono ?_
      rintro e w3 ⟨rfl, rfl⟩
      go_wp2_with fail
      refine (CI.out _ _).mono ?_
      rintro e w4 ⟨rfl, hb⟩
      have HB2 := Lib.hid (HB1.out.trans (hb.mono HB1.out.size))
      have K4b := Lib.hid (K4a.out.below hb)
      clear hb
      go_wp2_with ((refine wpList_store_row (o := ⟨none, _, _, _, _, _⟩) rfl 23 _ _ rfl (w.heap.size + 1) #[.int .i64 1, .int .i64 (q), .string ⟨#[]⟩] rfl rfl 23 _ K4b.out (by kernel_rfl) rfl (by simp [Value.oneCell']) ?_))
      have gr := grown_row w4 (w.heap.size + 1) #[.int .i64 1, .int .i64 (q), .string ⟨#[]⟩]
      refine bodyPost_ret (results_c1 rfl _ _ _ (w.heap.size + 1) _ rfl (load23 (K4b.out.setRow (ds := #[.int .i64 1, .int .i64 (q), .string ⟨#[]⟩])) rfl)) rfl ?_
      exact ⟨by rw [← HG.out]; rfl, HB2.out.grown gr HB2.out.size (fun j hj => by injection hj with hj; omega)⟩
    have h8 : op = 8 := by omega
    subst h8
    have HG := Lib.hid (show iV (wrap64 (u.n - wrap64 (v.n * q))) = r by rw [← HF.out, ← hq]; unfold binM; rw [if_neg (by decide), if_neg (by decide), if_neg (by decide), if_neg (by omega), if_neg (by decide), if_pos rfl])
    go_wp2_with fail
    obtain ⟨w5, hw5⟩ : ∃ W, W = w2.alloc (.cells #[.int .i64 vk, .int .i64 v.n, .string v.s] 23) := ⟨_, rfl⟩
    rw [← hw5] at HB1 K4a p1 p2 ⊢
    clear hw5 k0 K2a K5a K6a
    have hb : Below w5.heap.size w5 w5.drew := below_drew (Below.refl _ _)
    refine wp_region_mix 12 (fun w' => Below w5.heap.size w5 w') (by kernel_rfl) (by decide) ?_
    generalize w5.drew = y0 at hb ⊢
    refine wpM_take (i := 0) (oi := ⟨some 88, _, _, _, _, _⟩) (v := ?_) rfl (by decide +kernel) (by decide +kernel) (by decide +kernel) (fun _ _ _ h => h) (Or.inl ⟨by rfl, ?_⟩) hb ?_
    case refine_2 =>
      intro w' hSw
      have p1' := keepcell hSw p1
      have p2' := keepcell hSw p2
      go_simp
      try (with_reducible rfl)
    try simp only [Act.put, List.setIfInBounds_toArray, List.set_cons_zero, List.set_cons_succ]
    refine wpM_take (i := 1) (oi := ⟨some 89, _, _, _, _, _⟩) (v := ?_) rfl (by decide +kernel) (by decide +kernel) (by decide +kernel) (fun _ _ _ h => h) (Or.inl ⟨by rfl, ?_⟩) hb ?_
    case refine_2 =>
      intro w' hSw
      have p1' := keepcell hSw p1
      have p2' := keepcell hSw p2
      go_simp
      try (with_reducible rfl)
    try simp only [Act.put, List.setIfInBounds_toArray, List.set_cons_zero, List.set_cons_succ]
    refine wpM_take (i := 2) (oi := ⟨some 90, _, _, _, _, _⟩) (v := ?_) rfl (by decide +kernel) (by decide +kernel) (by decide +kernel) (fun _ _ _ h => h) (Or.inl ⟨by rfl, ?_⟩) hb ?_
    case refine_2 =>
      intro w' hSw
      have p1' := keepcell hSw p1
      have p2' := keepcell hSw p2
      go_simp
      try (with_reducible rfl)
    try simp only [Act.put, List.setIfInBounds_toArray, List.set_cons_zero, List.set_cons_succ]
    refine wpM_take (i := 3) (oi := ⟨some 91, _, _, _, _, _⟩) (v := ?_) rfl (by decide +kernel) (by decide +kernel) (by decide +kernel) (fun _ _ _ h => h) (Or.inl ⟨by rfl, ?_⟩) hb ?_
    case refine_2 =>
      intro w' hSw
      have p1' := keepcell hSw p1
      have p2' := keepcell hSw p2
      go_simp
      try (with_reducible rfl)
    try simp only [Act.put, List.setIfInBounds_toArray, List.set_cons_zero, List.set_cons_succ]
    refine wpM_take (i := 4) (oi := ⟨some 92, _, _, _, _, _⟩) (v := ?_) rfl (by decide +kernel) (by decide +kernel) (by decide +kernel) (fun _ _ _ h => h) (Or.inl ⟨by rfl, ?_⟩) hb ?_
    case refine_2 =>
      intro w' hSw
      have p1' := keepcell hSw p1
      have p2' := keepcell hSw p2
      go_simp
      try (with_reducible rfl)
    try simp only [Act.put, List.setIfInBounds_toArray, List.set_cons_zero, List.set_cons_succ]
    refine wpM_take (i := 5) (oi := ⟨some 93, _, _, _, _, _⟩) (v := ?_) rfl (by decide +kernel) (by decide +kernel) (by decide +kernel) (fun _ _ _ h => h) (Or.inl ⟨by rfl, ?_⟩) hb ?_
    case refine_2 =>
      intro w' hSw
      have p1' := keepcell hSw p1
      have p2' := keepcell hSw p2
      go_simp
      try (with_reducible rfl)
    try simp only [Act.put, List.setIfInBounds_toArray, List.set_cons_zero, List.set_cons_succ]
    refine wpM_take (i := 6) (oi := ⟨some 94, _, _, _, _, _⟩) (v := ?_) rfl (by decide +kernel) (by decide +kernel) (by decide +kernel) (fun _ _ _ h => h) (Or.inl ⟨by rfl, ?_⟩) hb ?_
    case refine_2 =>
      intro w' hSw
      have p1' := keepcell hSw p1
      have p2' := keepcell hSw p2
      go_simp
      try (with_reducible rfl)
    try simp only [Act.put, List.setIfInBounds_toArray, List.set_cons_zero, List.set_cons_succ]
    refine wpM_take (i := 7) (oi := ⟨some 95, _, _, _, _, _⟩) (v := ?_) rfl (by decide +kernel) (by decide +kernel) (by decide +kernel) (fun _ _ _ h => h) (Or.inl ⟨by rfl, ?_⟩) hb ?_
    case refine_2 =>
      intro w' hSw
      have p1' := keepcell hSw p1
      have p2' := keepcell hSw p2
      go_simp
      try (with_reducible rfl)
    try simp only [Act.put, List.setIfInBounds_toArray, List.set_cons_zero, List.set_cons_succ]
    refine wpM_step (i := 8) (o := ⟨some 96, _, _, _, _, _⟩) rfl (by decide +kernel) (by decide) (fun K hK => ?_)
    go_simp
    refine (CF.out _).mono ?_
    rintro e y1 ⟨rfl, rfl⟩
    refine hK.out _ _ hb ?_
    clear hK K
    try simp only [Act.put, List.setIfInBounds_toArray, List.set_cons_zero, List.set_cons_succ]
    refine wpM_take (i := 9) (oi := ⟨some 97, _, _, _, _, _⟩) (v := ?_) rfl (by decide +kernel) (by decide +kernel) (by decide +kernel) (fun _ _ _ h => h) (Or.inl ⟨by rfl, ?_⟩) hb ?_
    case refine_2 =>
      intro w' hSw
      have p1' := keepcell hSw p1
      have p2' := keepcell hSw p2
      go_simp
      try (with_reducible rfl)
    try simp only [Act.put, List.setIfInBounds_toArray, List.set_cons_zero, List.set_cons_succ]
    refine wpM_take (i := 10) (oi := ⟨some 98, _, _, _, _, _⟩) (v := ?_) rfl (by decide +kernel) (by decide +kernel) (by decide +kernel) (fun _ _ _ h => h) (Or.inl ⟨by rfl, ?_⟩) hb ?_
    case refine_2 =>
      intro w' hSw
      have p1' := keepcell hSw p1
      have p2' := keepcell hSw p2
      go_simp
      try (with_reducible rfl)
    try simp only [Act.put, List.setIfInBounds_toArray, List.set_cons_zero, List.set_cons_succ]
    refine wpM_step (i := 11) (o := ⟨some 99, _, _, _, _, _⟩) rfl (by decide +kernel) (by decide) (fun K hK => ?_)
    go_simp
    refine (CI.out _ _).mono ?_
    rintro e y1 ⟨rfl, hb1⟩
    have hb2 : Below w5.heap.size w5 y1 := hb.trans (hb1.mono hb.size)
    refine hK.out _ _ hb2 ?_
    clear hK K
    try simp only [Act.put, List.setIfInBounds_toArray, List.set_cons_zero, List.set_cons_succ]
    refine wpM_done (by decide +kernel) ?_
    simp only [List.drop_succ_cons, List.drop_zero]
    try simp only [IntWalk.i64_left]
    have HB2 := Lib.hid (HB1.out.trans (hb2.mono HB1.out.size))
    have K4b := Lib.hid (K4a.out.below hb2)
    go_wp2_with ((refine wpList_store_row (o := ⟨none, _, _, _, _, _⟩) rfl 23 _ _ rfl (w.heap.size + 1) #[.int .i64 1, .int .i64 (wrap64 (u.n - wrap64 (v.n * q))), .string ⟨#[]⟩] rfl rfl 23 _ K4b.out (by kernel_rfl) rfl (by simp [Value.oneCell']) ?_))
    have gr := grown_row y1 (w.heap.size + 1) #[.int .i64 1, .int .i64 (wrap64 (u.n - wrap64 (v.n * q))), .string ⟨#[]⟩]
    refine bodyPost_ret (results_c1 rfl _ _ _ (w.heap.size + 1) _ rfl (load23 (K4b.out.setRow (ds := #[.int .i64 1, .int .i64 (wrap64 (u.n - wrap64 (v.n * q))), .string ⟨#[]⟩])) rfl)) rfl ?_
    exact ⟨by rw [← HG.out]; rfl, HB2.out.grown gr HB2.out.size (fun j hj => by injection hj with hj; omega)⟩
end Go.Proofs.Ytfhbffgnpedaeaa
