/- Boxes of one's own; Put, where the stored row is told to be new. -/
import Derived.Test.YtgenpldldgplhaaBpt
import Derived.Test.YtgenpldldgplhaaSow
import Derived.WalkSpells
import Derived.BigQuiet
namespace Go.Proofs.Ytgenpldldgplhaa
open Go.ChangeShapes Go.WideShapes Go.ChangeAt Go.RowKit Go.ChangeMaps

def Far (w : World) (A : Option Addr) (n : Nat) : Prop := ∀ b off, 0 < n → A = some ⟨b, off, none⟩ → w.heap.size ≤ b
set_option maxRecDepth 100000 in
set_option maxHeartbeats 2000000 in
theorem To_own (t : Int) (A : Option Addr) (n c : Nat) (R : List Sd) (w : World) (h : Sds w A n R) (hn : n ≤ 1000) :
    Calls Try.prog 15 #[.agg #[.int .i64 t, .slice A n c]] w fun e w' => ∃ A' c', e = .returned (.agg #[.int .i64 t, .slice A' n c']) ∧ w'.ownsRow w.heap.size 56 6 (.slice A' n c') n (R.flatMap Sd.cells) ∧ Below w.heap.size w w' := by
  obtain ⟨i0, hi, hz0, hz1, hz2⟩ := info_parts Try.info56
  have HL := Lib.hid h.len
  have HA := Lib.hid h.at
  clear h
  go_enter Try.func15, Try.ntmps15
  go_wp2
  go_loopw [12] (fun iv wr => ∃ (k : Nat) (v : Value), iv = .int .i64 (k : Int) ∧ k ≤ n ∧ Blk wr (w.heap.size + 1) 40 #[.int .i64 0, .slice none 0 0] ∧ Blk wr (w.heap.size + 2) 40 #[.int .i64 t, v] ∧ wr.ownsRow (w.heap.size + 3) 56 6 v k ((R.take k).flatMap Sd.cells) ∧ Below w.heap.size w wr) (fun iv _ => n - (intOf iv).toNat)
  case atStart => exact ⟨0, .slice none 0 0, rfl, Nat.zero_le _, (Blk.new_ (by simp) rfl : Blk ((w.alloc _).alloc (.cells #[.int .i64 0, .slice none 0 0] 40)) (w.heap.size + 1) 40 _).alloc _, Blk.new_ (by simp) rfl, World.ownsRow_nil _ _ _ _, (((Below.refl _ w).alloc (Nat.le_refl _) _).alloc (by simp) _).alloc (by simp; omega) _⟩
  case round =>
    obtain ⟨k, v, rfl, hkn, hR, hK, hO, hB⟩ := hrel
    have HR := Lib.hid hR
    have HK := Lib.hid hK
    have HO := Lib.hid hO
    have HB := Lib.hid hB
    clear hR hO hB
    by_cases hlt : k < n
    · have hki : (k : Int) < n := by omega
      obtain ⟨b, off, rfl, hbl, hc⟩ := HA.out (by omega)
      have hi' : k < R.length := by rw [HL.out]; exact hlt
      obtain ⟨c0, c1, c2, c3, c4, c5⟩ := hc wr HB.out k hi'
      have HT := Lib.hid (take_flat R k hi')
      clear hc hbl
      generalize R[k] = x at *
      have hrl : w.heap.size + 2 < wr.heap.size := hK.lt
      have k1 : wr.cell? ⟨w.heap.size + 1 + 1, 1, none⟩ = some v := hK.cell 1
      clear hK
      obtain ⟨W3, hW3⟩ : ∃ W3, W3 = (wr.alloc (.cells #[.bool x.nu, .bool x.ot, .int .i64 x.lo, .int .i64 x.hi, .string x.fr, .string x.to] 67)).alloc (.cells #[.bool x.nu, .bool x.ot, .int .i64 x.lo, .int .i64 x.hi, .string x.fr, .string x.to] 56) := ⟨_, rfl⟩
      have hs3 : W3.heap.size = wr.heap.size + 2 := by rw [hW3]; simp
      have HO3 := Lib.hid (show W3.ownsRow (w.heap.size + 3) 56 6 v k ((R.take k).flatMap Sd.cells) by rw [hW3]; exact (HO.out.alloc _).alloc _)
      have HK3 := Lib.hid (show Blk W3 (w.heap.size + 2) 40 #[.int .i64 t, v] by rw [hW3]; exact (HK.out.alloc _).alloc _)
      have HR3 := Lib.hid (show Blk W3 (w.heap.size + 1) 40 #[.int .i64 0, .slice none 0 0] by rw [hW3]; exact (HR.out.alloc _).alloc _)
      have HB3 := Lib.hid (show Below w.heap.size w W3 by rw [hW3]; exact (HB.out.alloc HB.out.size _).alloc (by have := HB.out.size; simp; omega) _)
      have HN3 : Hid (Src Try.prog 6 38 (.slice (some ⟨wr.heap.size + 1, 0, none⟩) 1 1) 1 x.cells W3) := Lib.hid (src_blk (c := 1) Try.underlying38 rfl (cells_one x) (show Blk W3 (wr.heap.size + 1) 56 x.cells.toArray by rw [hW3]; exact Blk.new_ (by simp) rfl))
      subst hW3
      go_wp2_with (at_builtin; go_loud (refine wpList_append_src _ rfl _ _ 38 38 rfl (w.heap.size + 3) 56 i0 zS 6 56 Try.underlying38 hi hz0 hz1 hz2 rfl v k _ rfl HO3.out _ 1 x.cells rfl HN3.out ?c1 ?c2 ?c3 ?_))
      case c1 => unfold maxLen; omega
      case c2 => omega
      case c3 => omega
      intro v' w1 own' hg _
      obtain ⟨g1, g2, g3, g4, g5⟩ := Bx.step HK3.out HO3.out (by decide) own' hg
      rw [← HT.out] at g3
      obtain ⟨A3, a3, rfl, -⟩ := At.of_own own'
      have G2 := Lib.hid g2
      have G3 := Lib.hid g3
      have G4 := Lib.hid (g4 _ _ _ (by omega) (by decide) HR3.out)
      have G5 := Lib.hid (g5 _ _ HB3.out (by omega) (by omega) (by omega))
      have g1c : w1.cell? ⟨w.heap.size + 1 + 1, 1, none⟩ = some v := g1.cell 1
      have f3 : w1.frozen? ⟨w.heap.size + 1 + 1, 1, none⟩ = false := Joins.unfrozen_of_block g1 1
      clear g1 g2 g3 g4 g5 own' hg
      go_wp2
      go_roundw
      case rel => exact ⟨k + 1, _, by go_num, hlt, G4.out, G2.out, G3.out, G5.out⟩
      case measure => simp [intOf]; omega
    · obtain rfl : k = n := by omega
      have e0 : wr.cell? ⟨w.heap.size + 1 + 1, 0, none⟩ = some (.int .i64 t) := hK.cell 0
      obtain ⟨A3, a3, rfl, -⟩ := At.of_own HO.out
      have e1 : wr.cell? ⟨w.heap.size + 1 + 1, 1, none⟩ = some (.slice A3 k a3) := hK.cell 1
      have HF : Hid ((R.take k).flatMap Sd.cells = R.flatMap Sd.cells) := Lib.hid (by rw [List.take_of_length_le (by rw [HL.out]; exact Nat.le_refl _)])
      go_wp2_with ((refine wpList_store_row (o := ⟨none, _, _, _, _, _⟩) rfl 40 _ _ rfl (w.heap.size + 1) #[.int .i64 t, .slice A3 k a3] rfl rfl 40 _ HR.out (by kernel_rfl) rfl (by simp [Value.oneCell']) ?_))
      have gr := grown_row wr (w.heap.size + 1) #[.int .i64 t, .slice A3 k a3]
      refine bodyPost_ret (results_c1 rfl _ _ _ (w.heap.size + 1) _ rfl (load33 (HR.out.setRow (ds := #[.int .i64 t, .slice A3 k a3])) rfl)) rfl ?_
      refine ⟨A3, a3, rfl, ?_, HB.out.grown gr HB.out.size (fun j hj => by injection hj with hj; omega)⟩
      have := HO.out.kept gr (.inr (own_blk_ne HO.out HR.out (by decide)))
      rw [HF.out] at this
      exact own_mono this (by omega)
set_option maxRecDepth 100000 in
set_option maxHeartbeats 1000000 in
theorem Put_far (w : World) (B x M : Nat) (L : List It) (h : IX w B x M L) (id t : Int) (hid : w64 id) (ht : w64 t) (A : Option Addr) (n c : Nat) (R : List Sd) (hs : Sds w A n R) (hn : n ≤ 1000) (hM : M + 1 < 1000000) :
    Calls Try.prog 18 #[.pointer (some ⟨x, 0, none⟩), .int .i64 id, .agg #[.int .i64 t, .slice A n c]] w fun e w' => e = .returned (.tuple #[]) ∧ (∃ A' c', IX w' B x (M + 1) (putL L ⟨id, t, A', n, c', R⟩) ∧ Far w A' n) ∧ KC w w' ∧ (∀ w0, Below B w0 w → Below B w0 w') := by
  have hBw : B ≤ w.heap.size := by
    obtain ⟨bt, bi, g, -, -, hB2, -, -, -, ⟨st, h7⟩, -⟩ := h.all
    exact Nat.le_trans hB2 (Nat.le_of_lt h7.lt)
  obtain ⟨bk, hbk⟩ : ∃ bk, bk = w.heap.size := ⟨_, rfl⟩
  obtain ⟨W0, hW0⟩ : ∃ W0, W0 = w.alloc (.cells #[.int .i64 t, .slice A n c] 40) := ⟨_, rfl⟩
  have hb0 : Below w.heap.size w W0 := by rw [hW0]; exact (Below.refl _ w).alloc (Nat.le_refl _) _
  have HB0 := Lib.hid (show ∀ w0, Below B w0 w → Below B w0 W0 from fun w0 h => by rw [hW0]; exact h.alloc hBw _)
  have HK0 := Lib.hid (KC.of_below hb0)
  have HKB := Lib.hid (show Blk W0 bk 40 #[.int .i64 t, .slice A n c] by rw [hW0]; exact Blk.new_ hbk rfl)
  have CD := Lib.hid (Delete_any W0 B x M L (h.below hb0) id hid)
  have HS := Lib.hid hs
  have HIX0 := Lib.hid h
  have hbx : x < w.heap.size := by
    obtain ⟨bt, bi, g, h1, -⟩ := h.all
    exact h1.lt
  have HLT := Lib.hid (show w.heap.size ≤ W0.heap.size from hb0.size)
  clear h hs hb0
  go_enter Try.func18, Try.ntmps18
  go_wp2_with fail
  rw [← hbk, ← hW0]
  refine CD.out.mono ?_
  rintro e2 w1 ⟨rfl, hix, hkc, hbl⟩
  obtain ⟨D, hD⟩ : ∃ D, D = delL L id := ⟨_, rfl⟩
  rw [← hD] at hix
  have HIX := Lib.hid hix
  have HK1 := Lib.hid (HK0.out.trans hkc)
  have HB1 := Lib.hid (fun w0 h => hbl w0 (HB0.out w0 h))
  have k1 := hkc
  have HKB1 := Lib.hid (HKB.out.kc hkc)
  have hsz : w.heap.size < w1.heap.size := by
    have := HKB1.out.lt
    omega
  clear hkc hbl CD k1
  obtain ⟨bt, bi, g, h1, hB1, hB2, hB3, hne, h6, ⟨st, h7⟩, h8⟩ := hix.all
  have H1 := Lib.hid h1
  have H6 := Lib.hid h6
  have H7 := Lib.hid h7
  have H8 := Lib.hid (show ∀ T, hasT D T = true → MB w1 2 .i64 (g T) M (cntT D T) (spec D T) ∧ B ≤ g T ∧ g T ≠ bt ∧ g T ≠ bi ∧ ∀ T', hasT D T' = true → g T' = g T → T' = T from h8)
  clear hix h1 h6 h7 h8
  have q64 := qm64
  go_wp2_with fail
  refine region_tail 7 (by kernel_rfl) (by kernel_rfl) (fun D1 hD1 hs1 => ?_)
  simp only [List.take_succ_cons, List.take_zero, List.drop_succ_cons, List.drop_zero]
  have HST := Lib.hid ((show ST w w1 B x bk bt bi #[.int .i64 t, .slice A n c] M (fun T => if hasT D T = true then some (.map (some (g T))) else none) M D.length (fun a => (fnd D a).map (fun it => .int .i64 it.t)) (fun T => hasT D T = true) g (fun _ => M) (cntT D) (spec D) from ⟨H1.out, HKB1.out, ⟨st, H7.out⟩, H6.out, fun T hT => (H8.out T hT).1, HK1.out, HB1.out, hsz⟩).below hBw hD1)
  have HG := Lib.hid (fun T hT => (H8.out T hT).2)
  have HIX1 := HIX
  clear H1 H6 H7 H8 HKB1 HK1 HB1 hD1 hs1 HB0 HK0 HKB HLT HIX
  have c0 : D1.cell? ⟨x, 0, none⟩ = some (.map (some bt)) := HST.out.blk.cell 0
  have k0 : D1.cell? ⟨w.heap.size, 0, none⟩ = some (.int .i64 t) := by rw [← hbk]; exact HST.out.box.cell 0
  have k1 : D1.cell? ⟨w.heap.size, 1, none⟩ = some (.slice A n c) := by rw [← hbk]; exact HST.out.box.cell 1
  obtain ⟨st1, hmt⟩ := HST.out.mt
  have hl := hmt.look (t := 60) (e := 64) Try.underlying3 Try.underlying60 (zeroM D1) ht
  have HMT := Lib.hid hmt
  clear hmt
  by_cases hT : hasT D t = true
  simp only [hT, if_true, Option.getD_some] at hl
  repeat still_step
  refine wpStill_nil ?_
  go_wp2_with fail
  have HSX := Lib.hid (SP.old hT HST.out)
  have HGX := Lib.hid (show SG D t B bt bi g from fun T h => by
    have h1 : hasT D T = true := h.elim (fun h => h) (fun e => by rw [e]; exact hT)
    obtain ⟨q1, q2, q3, q4⟩ := HG.out T h1
    exact ⟨q1, q2, q3, fun T' h' => q4 T' (h'.elim (fun h => h) (fun e => by rw [e]; exact hT))⟩)
  obtain ⟨G, hGe⟩ : ∃ G, G = g := ⟨_, rfl⟩
  obtain ⟨W3, hW3⟩ : ∃ W3, W3 = D1 := ⟨_, rfl⟩
  rw [← hW3]
  rw [← hW3, ← hGe] at HSX
  rw [← hGe] at HGX
  clear hGe hW3 hl c0 k0 k1 hT HST HG HMT
  rotate_left 1
  have hT' : hasT D t = false := by simpa using hT
  simp only [hT', Bool.false_eq_true, if_false, Option.getD_none] at hl
  repeat still_step
  refine wpStill_nil ?_
  go_upto_region 3 with fail
  have hbA : Below D1.heap.size D1 (D1.drew.alloc (.map #[] 0)) := ((Below.refl _ D1).drew).alloc (Nat.le_refl _) _
  have HMU := Lib.hid (HMT.out.below hbA)
  have c0a := (hbA.cell (p := ⟨x, 0, none⟩) HST.out.blk.lt).trans c0
  have k0a := (hbA.cell (p := ⟨w.heap.size, 0, none⟩) HST.out.big).trans k0
  have k1a := (hbA.cell (p := ⟨w.heap.size, 1, none⟩) HST.out.big).trans k1
  have KEY := Lib.hid (fun (w2 : World) (gr2 : (D1.drew.alloc (.map #[] 0)).grownBy w2 (some bt)) => cell_kc (KC.of_map HMU.out gr2) k1a)
  clear hbA k1 k1a
  refine wp_region_mix 7 (fun w' => w'.cell? ⟨x, 0, none⟩ = some (.map (some bt)) ∧ w'.cell? ⟨w.heap.size, 0, none⟩ = some (.int .i64 t)) (by kernel_rfl) (by decide) ?_
  refine wpM_take (i := 0) (oi := ⟨some 17, _, _, _, _, _⟩) (v := ?_) rfl (by decide +kernel) (by decide +kernel) (by decide +kernel) (fun _ _ _ h => h) (Or.inl ⟨by rfl, ?_⟩) ⟨c0, k0⟩ ?_
  case refine_2 => (intro w hSw; obtain ⟨s0, s1⟩ := hSw; go_simp; try (with_reducible rfl))
  try simp only [Act.put, List.setIfInBounds_toArray, List.set_cons_zero, List.set_cons_succ]
  refine wpM_take (i := 1) (oi := ⟨some 18, _, _, _, _, _⟩) (v := ?_) rfl (by decide +kernel) (by decide +kernel) (by decide +kernel) (fun _ _ _ h => h) (Or.inl ⟨by rfl, ?_⟩) ⟨c0, k0⟩ ?_
  case refine_2 => (intro w hSw; obtain ⟨s0, s1⟩ := hSw; go_simp; try (with_reducible rfl))
  try simp only [Act.put, List.setIfInBounds_toArray, List.set_cons_zero, List.set_cons_succ]
  refine wpM_take (i := 2) (oi := ⟨some 19, _, _, _, _, _⟩) (v := ?_) rfl (by decide +kernel) (by decide +kernel) (by decide +kernel) (fun _ _ _ h => h) (Or.inl ⟨by rfl, ?_⟩) ⟨c0, k0⟩ ?_
  case refine_2 => (intro w hSw; obtain ⟨s0, s1⟩ := hSw; go_simp; try (with_reducible rfl))
  try simp only [Act.put, List.setIfInBounds_toArray, List.set_cons_zero, List.set_cons_succ]
  refine wpM_take (i := 3) (oi := ⟨some 20, _, _, _, _, _⟩) (v := ?_) rfl (by decide +kernel) (by decide +kernel) (by decide +kernel) (fun _ _ _ h => h) (Or.inl ⟨by rfl, ?_⟩) ⟨c0, k0⟩ ?_
  case refine_2 => (intro w hSw; obtain ⟨s0, s1⟩ := hSw; go_simp; try (with_reducible rfl))
  try simp only [Act.put, List.setIfInBounds_toArray, List.set_cons_zero, List.set_cons_succ]
  refine wpM_take (i := 4) (oi := ⟨some 21, _, _, _, _, _⟩) (v := ?_) rfl (by decide +kernel) (by decide +kernel) (by decide +kernel) (fun _ _ _ h => h) (Or.inl ⟨by rfl, ?_⟩) ⟨c0, k0⟩ ?_
  case refine_2 => (intro w hSw; obtain ⟨s0, s1⟩ := hSw; go_simp; try (with_reducible rfl))
  try simp only [Act.put, List.setIfInBounds_toArray, List.set_cons_zero, List.set_cons_succ]
  refine wpM_take (i := 5) (oi := ⟨some 22, _, _, _, _, _⟩) (v := ?_) rfl (by decide +kernel) (by decide +kernel) (by decide +kernel) (fun _ _ _ h => h) (Or.inl ⟨by rfl, ?_⟩) ⟨c0, k0⟩ ?_
  case refine_2 => (intro w hSw; obtain ⟨s0, s1⟩ := hSw; go_simp; try (with_reducible rfl))
  try simp only [Act.put, List.setIfInBounds_toArray, List.set_cons_zero, List.set_cons_succ]
  refine wpM_step (i := 6) (o := ⟨some 23, _, _, _, _, _⟩) rfl (by decide +kernel) (by decide) (fun K hK => ?_)
  go_simp
  refine hK.out _ _ ⟨c0a, k0a⟩ ?_
  clear hK K
  try simp only [Act.put, List.setIfInBounds_toArray, List.set_cons_zero, List.set_cons_succ]
  refine wpM_done (by decide +kernel) ?_
  simp only [List.drop_succ_cons, List.drop_zero]
  go_wp2_with (at_mapUpdate; refine wpList_mput _ rfl _ _ _ 60 rfl Try.underlying3 Try.underlying60 rfl HMU.out (by unfold maxLen; omega) t ht rfl _ rfl ?_; intro w2 m2 gr2; have k1w := KEY.out w2 gr2)
  obtain ⟨hs2, hg2⟩ := SP.new hT' hne hBw hB2 HST.out HG.out m2 gr2
  have HSX := Lib.hid hs2
  have HGX := Lib.hid hg2
  clear hs2 hg2 m2 gr2
  obtain ⟨G, hGe⟩ : ∃ G, G = (fun T => if T = t then D1.heap.size else g T) := ⟨_, rfl⟩
  obtain ⟨W3, hW3⟩ : ∃ W3, W3 = w2 := ⟨_, rfl⟩
  rw [← hW3]
  rw [← hW3, ← hGe] at HSX
  rw [← hGe] at HGX
  clear hGe hW3 hl c0 k0 c0a k0a k1w KEY hT hT' HST HG HMT HMU
  all_goals
    have CC := Lib.hid (Clone_any A n c R W3 (HS.out.kc HSX.out.kc) hn)
    refine CC.out.mono ?_
    rintro e4 W4 ⟨A', c', rfl, ho, hb4⟩
    have HS4 := Lib.hid (ST.below HSX.out hBw hb4)
    have HO4 := Lib.hid ho
    have f1 : W4.frozen? ⟨w.heap.size, 1, none⟩ = false := by rw [← hbk]; exact Joins.unfrozen_of_block HS4.out.box 1
    have k4 : W4.cell? ⟨w.heap.size, 1, none⟩ = some (.slice A n c) := by rw [← hbk]; exact HS4.out.box.cell 1
    have HFAR := Lib.hid (show Far w A' n from fun b off h0 e => by
      have h1 := (ho.lt b (by rw [e]; rfl)).1
      have h2 := HSX.out.big
      omega)
    clear ho hb4 CC
    go_wp2_with fail
    have h5 := ST.set HS4.out hBw hbk (by omega) 1 (.slice A' n c')
    rw [show (⟨bk, 1, none⟩ : Addr) = ⟨w.heap.size, 1, none⟩ by rw [hbk]] at h5
    have HS5 := Lib.hid (show ST w (W4.setCell ⟨w.heap.size, 1, none⟩ (.slice A' n c')) B x bk bt bi #[.int .i64 t, .slice A' n c'] _ _ _ _ _ _ _ _ _ _ from h5)
    clear h5
    have HO5 := Lib.hid (HO4.out.kept (grown_set W4 w.heap.size 1 (.slice A' n c')) (.inr (own_blk_ne HO4.out (hbk ▸ HS4.out.box) (by decide))))
    obtain ⟨W5, hW5⟩ : ∃ W5, W5 = W4.setCell ⟨w.heap.size, 1, none⟩ (.slice A' n c') := ⟨_, rfl⟩
    rw [← hW5] at HS5 HO5 ⊢
    clear hW5 f1 k4 HS4 HO4
    refine region_tail 9 (by kernel_rfl) (by kernel_rfl) (fun D5 hD5 hs5 => ?_)
    simp only [List.take_succ_cons, List.take_zero, List.drop_succ_cons, List.drop_zero]
    have HS6 := Lib.hid (HS5.out.below hBw hD5)
    have HC5 := Lib.hid (KC.of_below hD5)
    have c0 : D5.cell? ⟨x, 0, none⟩ = some (.map (some bt)) := HS6.out.blk.cell 0
    have k0 : D5.cell? ⟨w.heap.size, 0, none⟩ = some (.int .i64 t) := by rw [← hbk]; exact HS6.out.box.cell 0
    have k1 : D5.cell? ⟨w.heap.size, 1, none⟩ = some (.slice A' n c') := by rw [← hbk]; exact HS6.out.box.cell 1
    obtain ⟨st5, hmt⟩ := HS6.out.mt
    have hl := hmt.look (t := 60) (e := 64) Try.underlying3 Try.underlying60 (zeroM D5) ht
    simp only [fup, if_true, Option.getD_some] at hl
    have HGT := Lib.hid (HGX.out t (.inr rfl))
    have HFN : Hid (fnd D id = none) := Lib.hid (by rw [hD, fnd_del, if_pos rfl])
    have HSN : Hid (spec D t id = none) := Lib.hid (by unfold spec; rw [HFN.out])
    clear hmt HS5 hD5 hs5
    repeat still_step
    refine wpStill_nil ?_
    go_wp2_with (at_mapUpdate; go_loud (refine wpList_mput _ rfl _ _ _ 64 rfl Try.underlying2 Try.underlying64 rfl (HS6.out.gs t (.inr rfl)) (by unfold maxLen; omega) id hid rfl _ rfl ?_; intro w6 m6 gr6))
    rw [HSN.out, Option.isSome_none, if_neg (by decide)] at m6
    have HS7 := Lib.hid (HS6.out.put_g hBw (t := t) (.inr rfl) HGT.out.1 HGT.out.2.1 HGT.out.2.2.1 HGT.out.2.2.2 m6 gr6)
    have HC6 := Lib.hid (HC5.out.trans (KC.of_map (HS6.out.gs t (.inr rfl)) gr6))
    clear m6 gr6 c0 k0 k1 hl HS6 HC5
    refine region_tail 7 (by kernel_rfl) (by kernel_rfl) (fun D7 hD7 hs7 => ?_)
    simp only [List.take_succ_cons, List.take_zero, List.drop_succ_cons, List.drop_zero]
    have HS8 := Lib.hid (HS7.out.below hBw hD7)
    have HC7 := Lib.hid (HC6.out.trans (KC.of_below hD7))
    have c1 : D7.cell? ⟨x, 1, none⟩ = some (.map (some bi)) := HS8.out.blk.cell 1
    have k0 : D7.cell? ⟨w.heap.size, 0, none⟩ = some (.int .i64 t) := by rw [← hbk]; exact HS8.out.box.cell 0
    clear hD7 hs7 HS7 HC6
    repeat still_step
    refine wpStill_nil ?_
    go_wp2_with (at_mapUpdate; go_loud (refine wpList_mput _ rfl _ _ _ 61 rfl Try.underlying2 Try.underlying61 rfl HS8.out.mi (by unfold maxLen; omega) id hid rfl _ rfl ?_; intro w8 m8 gr8))
    have hK8 := KC.of_map HS8.out.mi gr8
    have hK := HC7.out.trans hK8
    have hKw := HS8.out.kc.trans hK8
    rw [HFN.out, Option.map_none, Option.isSome_none, if_neg (by decide)] at m8
    have HF := Lib.hid (show IX w8 B x (M + 1) (putL L ⟨id, t, A', n, c', R⟩) from by
      unfold putL
      rw [← hD]
      obtain ⟨st9, hmt9⟩ := HS8.out.mt
      have hgt := HS8.out.gs t (.inr rfl)
      rw [if_pos rfl, if_pos rfl, if_pos rfl] at hgt
      refine IX.put (w := w) (it := ⟨id, t, A', n, c', R⟩) HIX1.out.asc HIX1.out.ok (fun y hy => ?_) hM (fun y hy => ?_) hid ht ⟨?_, ?_, hn⟩ (HS8.out.blk.kc hK8) hB1 hB2 hB3 hne m8 ⟨st9, hmt9.kept gr8 (fun e => hne (by injection e))⟩ (hgt.kept gr8 (fun e => HGT.out.2.2.1 (by injection e))) (fun T h1 h2 => ?_) HGX.out
      · rw [hD] at hy
        obtain ⟨s1, s2⟩ := HIX0.out.sds y (List.mem_filter.1 hy).1
        exact ⟨s1.kc hKw, s2⟩
      · rw [hD] at hy
        exact del_ne y hy
      · exact (Sds.own HO5.out).kc hK
      · obtain ⟨A9, c9, e9, -, h9, -⟩ := At.of_own HO5.out
        injection e9 with e1 e2 e3
        show n ≤ c'
        omega
      · have h3 := HS8.out.gs T (.inl h1)
        rw [if_neg h2, if_neg h2, if_neg h2] at h3
        exact h3.kept gr8 (fun e => (HGX.out T (.inl h1)).2.2.1 (by injection e)))
    have HKw := Lib.hid hKw
    have HBL := Lib.hid (fun w0 (h : Below B w0 w) => below_map (HS8.out.bl w0 h) gr8 (Nat.le_trans hBw (Nat.le_of_lt HS8.out.big)) hB3)
    clear m8 gr8 hK8 hK hKw c1 k0
    go_wp2
    go_end0
    exact ⟨rfl, ⟨_, ⟨_, HF.out⟩, HFAR.out⟩, HKw.out, HBL.out⟩
end Go.Proofs.Ytgenpldldgplhaa
