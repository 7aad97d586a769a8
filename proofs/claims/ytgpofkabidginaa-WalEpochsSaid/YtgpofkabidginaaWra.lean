/- Appending a record to the reference's log. -/
import Derived.Test.YtgpofkabidginaaWrb
namespace Go.Proofs.Ytgpofkabidginaa
open Go.ChangeShapes Go.WideShapes Go.ChangeAt Go.RowKit Go.ChangeMaps

theorem app_ref {f c e k : Nat} {S : List UInt8} {s : St} {b : List UInt8} (h : ¬ freeM (59 * (c : Int) - (S.length : Int)) < (b.length : Int)) :
    (lgOf f c e k S).app s b = if (wl e s (f + S.length / 59) (tailOf S ++ nb4 b.length ++ b)).2 = 0 then (lgOf f c e (k + 1) (S ++ nb4 b.length ++ b), (wl e s (f + S.length / 59) (tailOf S ++ nb4 b.length ++ b)).1, 0) else (lgOf f c e k S, (wl e s (f + S.length / 59) (tailOf S ++ nb4 b.length ++ b)).1, (wl e s (f + S.length / 59) (tailOf S ++ nb4 b.length ++ b)).2) := by
  have key : (lgOf f c e k S).app s b = if (wl e s (f + S.length / 59) (tailOf S ++ nb4 b.length ++ b)).2 = 0 then (((lgOf f c e k S).app s b).1, (wl e s (f + S.length / 59) (tailOf S ++ nb4 b.length ++ b)).1, 0) else (lgOf f c e k S, (wl e s (f + S.length / 59) (tailOf S ++ nb4 b.length ++ b)).1, (wl e s (f + S.length / 59) (tailOf S ++ nb4 b.length ++ b)).2) := by
    unfold Lg.app
    rw [if_neg (show ¬ freeM (59 * ((lgOf f c e k S).c : Int) - ((lgOf f c e k S).n : Int)) < (b.length : Int) from h)]
    by_cases hf : s.f = true
    · rw [if_pos hf]
      have hne : tailOf S ++ nb4 b.length ++ b ≠ [] := by simp [nb4]
      have hw : s.Wr ((f + S.length / 59 : Nat) : Int) (wsec e ((tailOf S ++ nb4 b.length ++ b).take 59)) = (s, 15) := by unfold St.Wr; rw [if_pos hf]
      rw [wl_bad hne (by rw [hw]; simp), hw]
      simp
    · rw [if_neg hf]
      simp only [lgOf]
      by_cases h0 : (wl e s (f + S.length / 59) (tailOf S ++ nb4 b.length ++ b)).2 = 0
      · simp only [h0, ↓reduceIte]
      · simp only [h0, ↓reduceIte]
  rw [key]
  split
  · rename_i h0
    have h2 : ((lgOf f c e k S).app s b).2.2 = 0 := by rw [key, if_pos h0]
    rw [lgOf_app f c e k S s b h2]
  · rfl
theorem Chg.of_own {w w' : World} {B : Nat} {e : TypeId} {size n : Nat} {v : Value} {xs : List Value} (h : w.ownsRow B e size v n xs) (hg : w.grownBy w' v.ownBlock) : Chg (fun k => B ≤ k) w w' :=
  ⟨hg.os, hg.tape, hg.output, hg.size, fun k hk hf => hg.block k hk (fun e => hf (h.lt k e.symm).1)⟩
theorem Chg.of_own2 {w w' : World} {v : Value} (hg : w.grownBy w' v.ownBlock) : Chg (fun k => v.ownBlock = some k) w w' :=
  ⟨hg.os, hg.tape, hg.output, hg.size, fun k hk hf => hg.block k hk (fun e => hf e.symm)⟩
theorem BA.re {F F' G : Nat → Prop} {w w' : World} {A : Option Addr} {n : Nat} {l : List UInt8} (h : BA F w A n l) (hc : Chg G w w') (hG : ∀ k, G k → F k) (hF : ∀ k, k < w.heap.size → ¬ F k → ¬ F' k) : BA F' w' A n l := ⟨h.1, fun hn => by
  obtain ⟨b, off, e, hl, hf, hcc⟩ := h.2 hn
  exact ⟨b, off, e, Nat.lt_of_lt_of_le hl hc.size, hF b hl hf, fun i hi => chg_cell hc hl (fun g => hf (hG b g)) (hcc i hi)⟩⟩
theorem Rk.re {F F' G : Nat → Prop} {w w' : World} {r t : Nat} {s : St} (h : Rk F w r t s) (hc : Chg G w w') (hG : ∀ k, G k → F k) (hr : ¬ G r) (ht : ¬ G t) (hF : ∀ k, k < w.heap.size → ¬ F k → ¬ F' k) : Rk F' w' r t s := by
  obtain ⟨cap, cur, h1, h2, h3, h4, h5, h6, h7⟩ := h
  exact ⟨cap, cur, h1.chg hc hr, h2.chg hc ht, h3, h4, fun i hi => by
    obtain ⟨A, c, e, hc1, hc2, hb⟩ := h5 i hi
    exact ⟨A, c, e, hc1, hc2, hb.re hc hG hF⟩, h6, h7⟩
set_option maxRecDepth 100000 in
set_option maxHeartbeats 4000000 in
theorem RApp_loop (base : Nat → Prop) (B : Nat) (w : World) (m r t f c e kk : Nat) (S : List UInt8) (v : Value) (s : St) (hG : Rg B w m r f c e kk S v) (hR : Rk (FO base v) w r t s) (hbr : base r) (hbt : base t) (hbm : base m) (hmrt : ¬ PQ r t m) (hwb : ∀ j, v.ownBlock = some j → ¬ base j)
    (hFB : ∀ k, base k → k < B) (hB : B ≤ w.heap.size) (he : e < 4294967296) (hf : f ≤ 65536) (hc : c ≤ 65536) (hS : S.length ≤ 100000000) (hk : kk ≤ 100000000) (A : Option Addr) (m0 c0 : Nat) (b : List UInt8) (hb : BA (fun k => B ≤ k) w A m0 b) (hm : m0 ≤ 100000000) (hmc : m0 ≤ c0) (hcc : c0 ≤ 9223372036854775807)
    (hx : s.x + 100000100 < 1000000000) (hfree : (m0 : Int) ≤ freeM (59 * (c : Int) - (S.length : Int))) :
    Calls Try.prog 17 #[.pointer (some ⟨m, 0, none⟩), .slice A m0 c0] w fun e' w' => ∃ v', e' = .returned (.int .i64 ((lgOf f c e kk S).app s b).2.2) ∧ Rk (FO base v') w' r t ((lgOf f c e kk S).app s b).2.1 ∧ (((lgOf f c e kk S).app s b).2.2 = 0 → Rg B w' m r f c e (kk + 1) (S ++ nb4 b.length ++ b) v') ∧ Chg (FO base v) w w' ∧ (∀ j, v'.ownBlock = some j → v.ownBlock = some j ∨ w.heap.size ≤ j) := by
  obtain ⟨i0, hi, hz0, hz1, hz2⟩ := info_parts Try.info5
  obtain ⟨cs, hcs, hmk⟩ := make64
  have HCS := Lib.hid (show ∀ W : World, Blk (W.alloc (.cells cs 5)) W.heap.size 5 (bc zeros).toArray from fun W => by rw [hcs.out]; exact Blk.new _ _ _)
  clear hcs
  have HFR := Lib.hid (FreeR_any B w m r f c e kk S v hG hc hS)
  have hbl : b.length = m0 := hb.1
  have HAPP := Lib.hid (app_ref (f := f) (c := c) (e := e) (k := kk) (S := S) (s := s) (b := b) (by rw [hbl]; omega))
  rw [hbl] at HAPP
  have HG := Lib.hid hG
  have HRK0 := Lib.hid hR
  have HFB := Lib.hid hFB
  have HBB := Lib.hid hb
  have hml : m < w.heap.size := hG.1.lt
  obtain ⟨A1, ca1, rfl, -⟩ := own_bytes hG.2
  have c4 : w.cell? ⟨m, 4, none⟩ = some (.slice A1 S.length ca1) := hG.1.cell 4
  clear hG hR hFB hb
  obtain ⟨fr, hfr⟩ : ∃ x, freeM (59 * (c : Int) - (S.length : Int)) = x := ⟨_, rfl⟩
  rw [hfr] at HFR hfree
  clear hfr
  have hbl2 := Lib.hid hbl
  clear hbl
  go_enter Try.func17, Try.ntmps17
  go_wp2_with fail
  refine HFR.out.mono ?_
  rintro e' w1 ⟨rfl, kq, rfl⟩
  go_wp2_with fail
  have c4d : (w.drewN kq).drew.cell? ⟨m, 4, none⟩ = some (.slice A1 S.length ca1) := c4
  obtain ⟨X, hX⟩ : ∃ x, S ++ nb4 m0 ++ b = x := ⟨_, rfl⟩
  obtain ⟨XL, hXL⟩ : ∃ x, X.length = x := ⟨_, rfl⟩
  have hxl : XL = S.length + 4 + m0 := by rw [← hXL, ← hX, List.length_append, List.length_append, nb4_len, hbl2.out]
  have HX := Lib.hid hX
  have HXL := Lib.hid hXL
  have HXLS := Lib.hid hxl
  have hxl4 : 4 ≤ XL := by omega
  have hxlm : XL ≤ 200000004 := by omega
  clear hX hXL hxl
  have hwm : IntKind.u32.wrap (m0 : Int) = (m0 : Int) := wr32 _ (by omega) (by omega)
  refine wp_region_mix 12 (fun w' => w'.cell? ⟨m, 4, none⟩ = some (.slice A1 S.length ca1)) (by kernel_rfl) (by decide) ?_
  refine wpM_take (i := 0) (oi := ⟨some 22, _, _, _, _, _⟩) (v := ?_) rfl (by decide +kernel) (by decide +kernel) (by decide +kernel) (fun _ _ _ h => h) (Or.inl ⟨by rfl, ?_⟩) c4d ?_
  case refine_2 => (intro w hSw; (try dsimp only at hSw); go_simp; try (with_reducible rfl))
  try simp only [Act.put, List.setIfInBounds_toArray, List.set_cons_zero, List.set_cons_succ]
  refine wpM_take (i := 1) (oi := ⟨some 23, _, _, _, _, _⟩) (v := ?_) rfl (by decide +kernel) (by decide +kernel) (by decide +kernel) (fun _ _ _ h => h) (Or.inl ⟨by rfl, ?_⟩) c4d ?_
  case refine_2 => (intro w hSw; (try dsimp only at hSw); go_simp; try (with_reducible rfl))
  try simp only [Act.put, List.setIfInBounds_toArray, List.set_cons_zero, List.set_cons_succ]
  refine wpM_take (i := 2) (oi := ⟨some 24, _, _, _, _, _⟩) (v := ?_) rfl (by decide +kernel) (by decide +kernel) (by decide +kernel) (fun _ _ _ h => h) (Or.inl ⟨by rfl, ?_⟩) c4d ?_
  case refine_2 => (intro w hSw; (try dsimp only at hSw); go_simp; try (with_reducible rfl))
  try simp only [Act.put, List.setIfInBounds_toArray, List.set_cons_zero, List.set_cons_succ]
  refine wpM_take (i := 3) (oi := ⟨some 25, _, _, _, _, _⟩) (v := ?_) rfl (by decide +kernel) (by decide +kernel) (by decide +kernel) (fun _ _ _ h => h) (Or.inl ⟨by rfl, ?_⟩) c4d ?_
  case refine_2 => (intro w hSw; (try dsimp only at hSw); go_simp; try (with_reducible rfl))
  try simp only [Act.put, List.setIfInBounds_toArray, List.set_cons_zero, List.set_cons_succ]
  refine wpM_take (i := 4) (oi := ⟨some 26, _, _, _, _, _⟩) (v := ?_) rfl (by decide +kernel) (by decide +kernel) (by decide +kernel) (fun _ _ _ h => h) (Or.inl ⟨by rfl, ?_⟩) c4d ?_
  case refine_2 => (intro w hSw; (try dsimp only at hSw); go_simp; try (with_reducible rfl))
  try simp only [Act.put, List.setIfInBounds_toArray, List.set_cons_zero, List.set_cons_succ]
  refine wpM_take (i := 5) (oi := ⟨some 27, _, _, _, _, _⟩) (v := ?_) rfl (by decide +kernel) (by decide +kernel) (by decide +kernel) (fun _ _ _ h => h) (Or.inl ⟨by rfl, ?_⟩) c4d ?_
  case refine_2 => (intro w hSw; (try dsimp only at hSw); go_simp; try (with_reducible rfl))
  try simp only [Act.put, List.setIfInBounds_toArray, List.set_cons_zero, List.set_cons_succ]
  refine wpM_take (i := 6) (oi := ⟨some 28, _, _, _, _, _⟩) (v := ?_) rfl (by decide +kernel) (by decide +kernel) (by decide +kernel) (fun _ _ _ h => h) (Or.inl ⟨by rfl, ?_⟩) c4d ?_
  case refine_2 => (intro w hSw; (try dsimp only at hSw); go_simp; try (with_reducible rfl))
  try simp only [Act.put, List.setIfInBounds_toArray, List.set_cons_zero, List.set_cons_succ]
  refine wpM_take (i := 7) (oi := ⟨some 29, _, _, _, _, _⟩) (v := ?_) rfl (by decide +kernel) (by decide +kernel) (by decide +kernel) (fun _ _ _ h => h) (Or.inl ⟨by rfl, ?_⟩) c4d ?_
  case refine_2 => (intro w hSw; (try dsimp only at hSw); go_simp; try (with_reducible rfl))
  try simp only [Act.put, List.setIfInBounds_toArray, List.set_cons_zero, List.set_cons_succ]
  refine wpM_take (i := 10) (oi := ⟨some 32, _, _, _, _, _⟩) (v := ?_) rfl (by decide +kernel) (by decide +kernel) (by decide +kernel) (fun _ _ _ h => h) (Or.inl ⟨by rfl, ?_⟩) c4d ?_
  case refine_2 => (intro w hSw; (try dsimp only at hSw); go_simp; try (with_reducible rfl))
  try simp only [Act.put, List.setIfInBounds_toArray, List.set_cons_zero, List.set_cons_succ]
  refine wpM_step (i := 8) (o := ⟨some 30, _, _, _, _, _⟩) rfl (by decide +kernel) (by decide) (fun K hK => ?_)
  go_simp
  go_at_call 43
  refine (rnumB_any _ m0 (by omega)).mono ?_
  rintro e' W3 ⟨rfl, hk3, hb3⟩
  obtain ⟨nbk, hnb⟩ : ∃ x, x = w.heap.size := ⟨_, rfl⟩
  have hnb2 : (w.drewN (kq + 1)).heap.size = nbk := hnb.symm
  rw [hnb2] at hk3 ⊢
  clear hnb2 hnb
  have c43 := keepcell hb3 c4d
  have HB3 := Lib.hid (show Below w.heap.size w W3 from (below_drew (below_drewN (Below.refl _ w))).trans hb3)
  have HSR3 := Lib.hid (src_at (n := 4) (c := 4) (bytes_of_blk (n := 4) hk3 (nb4_len m0)))
  have HM3 := Lib.hid (HG.out.1.below HB3.out)
  clear hk3 hb3
  refine hK.out _ _ c43 ?_
  clear hK K
  try simp only [Act.put, List.setIfInBounds_toArray, List.set_cons_zero, List.set_cons_succ]
  refine wpM_step (i := 9) (o := ⟨some 31, _, _, _, _, _⟩) rfl (by decide +kernel) (by decide) (fun K hK => ?_)
  refine step_app rfl (.tmp 26) (.tmp 30) 38 38 rfl B w (.slice A1 S.length ca1) 5 i0 Try.underlying38 hi hz0 hz1 hz2 _ S rfl (Grows.below HB3.out (Grows.refl HG.out.2 hB)) _ 4 (nb4 m0) rfl HSR3.out (by omega) ?_
  intro v4 W4 G4 z4 k4
  have HM4 := Lib.hid (k4 m 42 _ (by decide) HM3.out)
  have c44 : W4.cell? ⟨m, 4, none⟩ = some (.slice A1 S.length ca1) := HM4.out.cell 4
  have HG4 := Lib.hid G4
  have HSR4 := Lib.hid (src_at (n := m0) (c := c0) (HBB.out.chg (Chg.of_own HG.out.2 G4.2.1)).at)
  clear G4 z4 k4
  refine hK.out _ _ c44 ?_
  clear hK K
  try simp only [Act.put, List.setIfInBounds_toArray, List.set_cons_zero, List.set_cons_succ]
  refine wpM_step (i := 11) (o := ⟨some 33, _, _, _, _, _⟩) rfl (by decide +kernel) (by decide) (fun K hK => ?_)
  refine step_app rfl (.tmp 31) (.tmp 32) 38 38 rfl B w (.slice A1 S.length ca1) 5 i0 Try.underlying38 hi hz0 hz1 hz2 _ (S ++ nb4 m0) rfl HG4.out _ m0 b rfl HSR4.out (by rw [List.length_append, nb4_len]; omega) ?_
  intro v5 W5 G5 z5 k5
  have HM5 := Lib.hid (k5 m 42 _ (by decide) HM4.out)
  have c45 : W5.cell? ⟨m, 4, none⟩ = some (.slice A1 S.length ca1) := HM5.out.cell 4
  rw [HX.out] at G5
  obtain ⟨A5, c5, hv5, -⟩ := own_bytes G5.1
  rw [HXL.out] at hv5
  subst hv5
  have HG5 := Lib.hid G5
  clear G5 z5 k5
  refine hK.out _ _ c45 ?_
  clear hK K
  try simp only [Act.put, List.setIfInBounds_toArray, List.set_cons_zero, List.set_cons_succ]
  refine wpM_done (by decide +kernel) ?_
  simp only [List.drop_succ_cons, List.drop_zero]
  have f45 : W5.frozen? ⟨m, 4, none⟩ = false := Joins.unfrozen_of_block HM5.out 4
  clear c43 c44 c4d HM3 HM4 HSR3 HSR4 HG4 HB3
  go_wp2_with fail
  have hown5 := HG5.out.1
  have hmv := HG5.out.2.2.1
  have hgr := HG5.out.2.1
  obtain ⟨W6, hW6⟩ : ∃ W, W = W5.setCell ⟨m, 4, none⟩ (.slice A5 XL c5) := ⟨_, rfl⟩
  rw [← hW6]
  have hne : ∀ j, (Value.slice A5 XL c5).ownBlock = some j → ¬ j = m := fun j hj e => own_blk_ne hown5 HM5.out (by decide) (by rw [hj, e])
  have hc56 : Chg (fun k => k = m) W5 W6 := by rw [hW6]; exact (Chg.refl _ _).set_ rfl
  have HM6 := Lib.hid (show Blk W6 m 42 #[.pointer (some ⟨r, 0, none⟩), .int .i64 (f : Int), .int .i64 (c : Int), .int .u32 (e : Int), .slice A5 XL c5, .int .i64 (kk : Int)] from by rw [hW6]; exact Joins.block_setCell HM5.out _)
  have ho6 := own_chg hown5 hc56 hne
  have hC6 : Chg (fun k => (Value.slice A1 S.length ca1).ownBlock = some k ∨ k = m) w W6 := ((Chg.of_own2 hgr).mono (fun k h => .inl h)).trans (hc56.mono (fun k h => .inr h))
  have hMV : ∀ j, (Value.slice A5 XL c5).ownBlock = some j → (Value.slice A1 S.length ca1).ownBlock = some j ∨ w.heap.size ≤ j := fun j hj => by
    rcases hmv with h | ⟨k, h, hk⟩
    · exact .inl (h ▸ hj)
    · rw [h] at hj; cases hj; exact .inr hk
  have hw1 : ∀ j, (Value.slice A5 XL c5).ownBlock = some j → ¬ base j := fun j hj hb => by
    rcases hMV j hj with h | h
    · exact hwb j h hb
    · have := HFB.out j hb; omega
  have HRK6 := Lib.hid (show Rk (FO base (.slice A5 XL c5)) W6 r t s from HRK0.out.re hC6 (fun k hk => by rcases hk with h | h; (· exact .inr h); exact .inl (by rw [h]; exact hbm)) (fun hk => by rcases hk with h | h; (· exact hwb r h hbr); exact hmrt (.inl h.symm)) (fun hk => by rcases hk with h | h; (· exact hwb t h hbt); exact hmrt (.inr h.symm)) (fun k hk hf hf2 => by
    rcases hf2 with h | h
    · exact hf (.inl h)
    · rcases hMV k h with h | h
      · exact hf (.inr h)
      · omega))
  have HC6 := Lib.hid (show Chg (FO base (.slice A1 S.length ca1)) w W6 from hC6.mono (fun k hk => by rcases hk with h | h; (· exact .inr h); exact .inl (by rw [h]; exact hbm)))
  have HFB1 := Lib.hid (show ∀ k, FO base (.slice A5 XL c5) k → k < W6.heap.size from fun k hk => by
    rcases hk with h | h
    · have := HFB.out k h; have := HC6.out.size; omega
    · exact (ho6.lt k h).2)
  have hwrt : ∀ j, (Value.slice A5 XL c5).ownBlock = some j → ¬ PQ r t j := fun j hj hp => by rcases hp with h | h <;> (rw [h] at hj; exact hw1 _ hj (by assumption))
  obtain ⟨sb, rfl⟩ : ∃ sb, A5 = some ⟨sb, 0, none⟩ := by
    rcases ho6.2 with ⟨h, h0⟩ | ⟨g, cap, cur, h, -⟩
    · rw [HXL.out] at h0; omega
    · injection h with h; exact ⟨g, h⟩
  have hxc : XL ≤ c5 ∧ c5 ≤ 9223372036854775807 := by
    rcases ho6.2 with ⟨h, h0⟩ | ⟨g, cap, cur, h, -, -, h1, h2, -⟩
    · rw [HXL.out] at h0; omega
    · injection h with h3 h4 h5; unfold maxLen at h2; rw [HXL.out] at h1; omega
  obtain ⟨hxc1, hxc2⟩ := hxc
  have HOW6 := Lib.hid ho6
  have HMV := Lib.hid hMV
  obtain ⟨at0, hat⟩ : ∃ x, S.length / 59 = x := ⟨_, rfl⟩
  have hsl : at0 * 59 ≤ S.length ∧ S.length < at0 * 59 + 59 := by omega
  have HXD := Lib.hid (show X.drop (59 * at0) = tailOf S ++ nb4 m0 ++ b from by rw [← HX.out, ← hat, List.append_assoc, List.append_assoc]; exact tailOf_app S _)
  rw [hat, ← HXD.out, HX.out] at HAPP
  have hsc : S.length ≤ XL := by have := HXLS.out; omega
  have HAT := Lib.hid hat
  obtain ⟨hsl1, hsl2⟩ := hsl
  clear hown5 hmv hgr hW6 hne hc56 ho6 hC6 hMV HM5 HG5 c45 f45 HXD HRK0 HG HBB hat
  obtain ⟨szc, hszc⟩ : ∃ x, W6.heap.size = x := ⟨_, rfl⟩
  rw [hszc] at HFB1
  have HSZ0 := Lib.hid (Nat.le_of_eq hszc.symm)
  clear hszc
  go_loopw [5] (fun av wr => ∃ (aj : Nat) (s' : St), av = .int .i64 (aj : Int) ∧ aj * 59 ≤ XL + 58 ∧ wl e s (f + at0) (X.drop (59 * at0)) = wl e s' (f + aj) (X.drop (59 * aj)) ∧ Rk (FO base (.slice (some ⟨sb, 0, none⟩) XL c5)) wr r t s' ∧ Blk wr m 42 #[.pointer (some ⟨r, 0, none⟩), .int .i64 (f : Int), .int .i64 (c : Int), .int .u32 (e : Int), .slice (some ⟨sb, 0, none⟩) XL c5, .int .i64 (kk : Int)] ∧ wr.ownsRow B 5 1 (.slice (some ⟨sb, 0, none⟩) XL c5) X.length (bc X) ∧ s'.x + at0 ≤ s.x + aj ∧ at0 ≤ aj ∧ Chg (FO base (.slice A1 S.length ca1)) w wr ∧ szc ≤ wr.heap.size) (fun av _ => XL + 59 - 59 * (intOf av).toNat)
  case atStart => exact ⟨at0, s, int_eq (by have := HAT.out; omega), by omega, rfl, HRK6.out, HM6.out, HOW6.out, Nat.le_refl _, Nat.le_refl _, HC6.out, HSZ0.out⟩
  case round =>
    clear HRK6 HM6 HOW6 HC6 HSZ0
    obtain ⟨aj, s', rfl, hjb, hwl, hrk, hmb, how, hxj, haj, hcw, hsz⟩ := hrel
    have HWL := Lib.hid hwl
    have HRK := Lib.hid hrk
    have HM := Lib.hid hmb
    have HOW := Lib.hid how
    have HC := Lib.hid hcw
    have HSZ := Lib.hid hsz
    have c4 : wr.cell? ⟨m, 4, none⟩ = some (.slice (some ⟨sb, 0, none⟩) XL c5) := hmb.cell 4
    have c5' : wr.cell? ⟨m, 5, none⟩ = some (.int .i64 (kk : Int)) := hmb.cell 5
    have f5 : wr.frozen? ⟨m, 5, none⟩ = false := Joins.unfrozen_of_block hmb 5
    clear hwl hrk hmb how hcw hsz
    obtain ⟨wq, rfl⟩ : ∃ x, x = wr := ⟨_, rfl⟩
    by_cases hlt : aj * 59 < XL
    · skip
      have hidx : (aj : Int) * 59 < XL := by omega
      have hcn : ¬ c5 = aj * 59 := by omega
      have HDL : Hid ((X.drop (59 * aj)).length = (XL - aj * 59)) := Lib.hid (by rw [List.length_drop, HXL.out]; omega)
      obtain ⟨ch, hch⟩ : ∃ x, (X.drop (59 * aj)).take 59 = x := ⟨_, rfl⟩
      have hm1 : 1 ≤ (XL - aj * 59) := by omega
      have HNE : Hid (X.drop (59 * aj) ≠ []) := Lib.hid (fun h => by have h2 := HDL.out; rw [h, List.length_nil] at h2; omega)
      have HCH : Hid (∀ i (h : i < ch.length), wq.cell? ⟨sb, aj * 59 + i, none⟩ = some (.int .u8 (ch[i].toNat : Int))) := Lib.hid (fun i h => by
        subst hch
        have hcat := HOW.out
        rw [HXL.out] at hcat
        have h1 : i < 59 ∧ i < (X.drop (59 * aj)).length := by rw [List.length_take] at h; omega
        rw [List.length_drop] at h1
        rw [show aj * 59 + i = 59 * aj + i by omega, World.ownsRow.cellAt hcat _ (by have h3 := HXL.out; omega), bc_at X _ (by have h3 := HXL.out; omega)]
        simp [List.getElem_take, List.getElem_drop])
      have HCHD := Lib.hid hch.symm
      by_cases h59 : 59 < (XL - aj * 59)
      · have HCL : Hid (ch.length = 59) := Lib.hid (by rw [← hch, List.length_take, HDL.out]; omega)
        have h59i : (59 : Int) < ((XL - aj * 59 : Nat) : Int) := by omega
        clear hch
        obtain ⟨gb, hgb⟩ : ∃ x, wq.heap.size = x := ⟨_, rfl⟩
        have HK0 := Lib.hid (show Blk (wq.alloc (.cells cs 5)) gb 5 (bc (rs1 ch 0)).toArray from by rw [rs1_zero, ← hgb]; exact HCS.out wq)
        have HB0 := Lib.hid (show Below wq.heap.size wq (wq.alloc (.cells cs 5)) from (Below.refl _ _).alloc (Nat.le_refl _) _)
        rw [hgb] at HB0
        have hgbn : gb = wq.heap.size := hgb.symm
        have HGB := Lib.hid hgb
        clear hgb
        go_wp2_with fail
        rw [← hgbn]
        have HGBN := Lib.hid hgbn
        clear hgbn
        go_loopw [8] (fun iv wr => ∃ k : Nat, k ≤ 59 ∧ iv = .int .i64 (k : Int) ∧ Blk wr gb 5 (bc (rs1 ch k)).toArray ∧ Below gb wq wr) (fun iv _ => 59 - (intOf iv).toNat)
        case atStart => exact ⟨0, Nat.zero_le _, rfl, HK0.out, HB0.out⟩
        case round =>
          clear HK0 HB0
          obtain ⟨k, hk, rfl, hkb, hbx⟩ := hrel
          have HK1 := Lib.hid hkb
          have HB1 := Lib.hid hbx
          clear hkb hbx
          by_cases hlt : k < 59
          · have hki : (k : Int) < 59 := by omega
            have cc : wr.cell? ⟨sb, aj * 59 + k, none⟩ = some (.int .u8 ((ch[k]'(by rw [HCL.out]; exact hlt)).toNat : Int)) := by
              have := HB1.out.cell (p := ⟨sb, aj * 59 + k, none⟩) (by rw [HGBN.out]; exact block_lt_of_cell (HCH.out k (by rw [HCL.out]; exact hlt)))
              exact this.trans (HCH.out k (by rw [HCL.out]; exact hlt))
            obtain ⟨u0, hu0⟩ : ∃ u, wr.cell? ⟨gb, k, none⟩ = some u := ⟨_, (HK1.out.cell k).trans (Array.getElem?_eq_getElem (by rw [List.size_toArray, bc_len, rs1_len ch k (by rw [HCL.out]; omega) (by rw [HCL.out]; omega)]; omega))⟩
            have hfz : wr.frozen? ⟨gb, k, none⟩ = false := Joins.unfrozen_of_block HK1.out k
            have HK2 := Lib.hid (show Blk (wr.setCell ⟨gb, k, none⟩ (.int .u8 ((ch[k]'(by rw [HCL.out]; exact hlt)).toNat : Int))) gb 5 (bc (rs1 ch (k + 1))).toArray from by
              rw [← rs1_step ch k (by rw [HCL.out]; exact hlt) (by rw [HCL.out]; omega), ← bc_set]
              exact Joins.block_setCell HK1.out _)
            have HB2 := Lib.hid (show Below gb wq (wr.setCell ⟨gb, k, none⟩ (.int .u8 ((ch[k]'(by rw [HCL.out]; exact hlt)).toNat : Int))) from HB1.out.setCell (Nat.le_refl _) _)
            have hx256 := (ch[k]'(by rw [HCL.out]; exact hlt)).toNat_lt
            generalize (ch[k]'(by rw [HCL.out]; exact hlt)).toNat = xb at *
            go_wp2
            go_roundw
            case rel => exact ⟨k + 1, by omega, by go_num, HK2.out, HB2.out⟩
            case measure => simp [intOf]; omega
          · have hkn : k = 59 := by omega
            have hge : (59 : Int) ≤ (k : Int) := by omega
            have hgeB : decide (k < 59) = false := by simp; omega
            rw [hkn] at HK1
            clear hkn hlt hk
            obtain ⟨u59, hu59⟩ : ∃ u, wr.cell? ⟨gb, 59, none⟩ = some u := ⟨_, (HK1.out.cell 59).trans (Array.getElem?_eq_getElem (by rw [List.size_toArray, bc_len, rs1_len ch _ (by rw [HCL.out]; omega) (by rw [HCL.out]; omega)]; omega))⟩
            have hf59 : wr.frozen? ⟨gb, 59, none⟩ = false := Joins.unfrozen_of_block HK1.out 59
            have HK2 := Lib.hid (show Blk (wr.setCell ⟨gb, 59, none⟩ (.int .u8 59)) gb 5 (bc (rs2 e ch 0)).toArray from by
              rw [← rs1_mid e ch (by rw [HCL.out]; omega)]
              have := Joins.block_setCell HK1.out (i := 59) (.int .u8 ((59 : Nat) : Int))
              rw [bc_setI _ _ _ (by omega)] at this
              rw [HCL.out]
              exact this)
            have HB2 := Lib.hid (show Below gb wq (wr.setCell ⟨gb, 59, none⟩ (.int .u8 59)) from HB1.out.setCell (Nat.le_refl _) _)
            clear HK1
            go_wp2_with fail
            go_loopw [9] (fun iv wr => ∃ k : Nat, k ≤ 4 ∧ iv = .int .i64 (k : Int) ∧ Blk wr gb 5 (bc (rs2 e ch k)).toArray ∧ Below gb wq wr) (fun iv _ => 4 - (intOf iv).toNat)
            case atStart => exact ⟨0, Nat.zero_le _, rfl, HK2.out, HB2.out⟩
            case round =>
              clear HK2 HB2 hu59 hf59
              obtain ⟨k, hk, rfl, hkb, hbx⟩ := hrel
              have HK1 := Lib.hid hkb
              have HB1 := Lib.hid hbx
              clear hkb hbx
              by_cases hlt : k < 4
              · have hki : (k : Int) < 4 := by omega
                have c3 : wr.cell? ⟨m, 3, none⟩ = some (.int .u32 (e : Int)) := (HB1.out.cell (p := ⟨m, 3, none⟩) (by rw [HGBN.out]; exact block_lt_of_cell (HM.out.cell 3))).trans (HM.out.cell 3)
                go_wp2_with fail
                refine (rnumB_any wr e he).mono ?_
                rintro e' wy ⟨rfl, hy1, hy2⟩
                have hgl := HK1.out.lt
                have HB3 := Lib.hid (show Below gb wq wy from HB1.out.trans (hy2.mono (Nat.le_of_lt hgl)))
                have HK3 := Lib.hid (HK1.out.below hy2)
                have cc : wy.cell? ⟨wr.heap.size, k, none⟩ = some (.int .u8 (((nb4 e)[k]'(by rw [nb4_len]; exact hlt)).toNat : Int)) := by
                  rw [hy1.cell k, ← bc_at (nb4 e) k (by rw [nb4_len]; exact hlt)]; simp
                have hyl : wr.heap.size < wy.heap.size := hy1.lt
                clear hy1 hy2
                obtain ⟨u0, hu0⟩ : ∃ u, wy.cell? ⟨gb, 60 + k, none⟩ = some u := ⟨_, (HK3.out.cell (60 + k)).trans (Array.getElem?_eq_getElem (by rw [List.size_toArray, bc_len, rs2_len e ch k (by omega) (by rw [HCL.out]; omega)]; omega))⟩
                have hfz : wy.frozen? ⟨gb, 60 + k, none⟩ = false := Joins.unfrozen_of_block HK3.out (60 + k)
                have HK4 := Lib.hid (show Blk (wy.setCell ⟨gb, 60 + k, none⟩ (.int .u8 (((nb4 e)[k]'(by rw [nb4_len]; exact hlt)).toNat : Int))) gb 5 (bc (rs2 e ch (k + 1))).toArray from by
                  rw [← rs2_step e ch k hlt (by rw [HCL.out]; omega), ← bc_set]
                  exact Joins.block_setCell HK3.out _)
                have HB4 := Lib.hid (show Below gb wq (wy.setCell ⟨gb, 60 + k, none⟩ (.int .u8 (((nb4 e)[k]'(by rw [nb4_len]; exact hlt)).toNat : Int))) from HB3.out.setCell (Nat.le_refl _) _)
                have hx256 := ((nb4 e)[k]'(by rw [nb4_len]; exact hlt)).toNat_lt
                generalize ((nb4 e)[k]'(by rw [nb4_len]; exact hlt)).toNat = xb at *
                go_wp2
                go_roundw
                case rel => exact ⟨k + 1, by omega, by go_num, HK4.out, HB4.out⟩
                case measure => simp [intOf]; omega
              · obtain rfl : k = 4 := by omega
                skip
                have HKW := Lib.hid (show Blk wr gb 5 (bc (wsec e ch)).toArray from by rw [← rs2_full]; exact HK1.out)
                have HBX := Lib.hid (show Below wq.heap.size wq wr from HGBN.out ▸ HB1.out)
                clear HK1 HB1
                go_wp2_with fail
                have c0 : wr.drew.cell? ⟨m, 0, none⟩ = some (.pointer (some ⟨r, 0, none⟩)) := keepcell (below_drew HBX.out) (HM.out.cell 0)
                have c1 : wr.drew.cell? ⟨m, 1, none⟩ = some (.int .i64 (f : Int)) := keepcell (below_drew HBX.out) (HM.out.cell 1)
                have e3 : IntKind.i64.wrap ((f : Int) + (aj : Int)) = ((f + aj : Nat) : Int) := by rw [IntWalk.i64_in _ (by omega)]; omega
                refine wp_region_mix 11 (fun w' => w'.cell? ⟨m, 0, none⟩ = some (.pointer (some ⟨r, 0, none⟩)) ∧ w'.cell? ⟨m, 1, none⟩ = some (.int .i64 (f : Int))) (by kernel_rfl) (by decide) ?_
                refine wpM_take (i := 0) (oi := ⟨some 91, _, _, _, _, _⟩) (v := ?_) rfl (by decide +kernel) (by decide +kernel) (by decide +kernel) (fun _ _ _ h => h) (Or.inl ⟨by rfl, ?_⟩) ⟨c0, c1⟩ ?_
                case refine_2 => (intro w hSw; (try dsimp only at hSw); go_simp; try (with_reducible rfl))
                try simp only [Act.put, List.setIfInBounds_toArray, List.set_cons_zero, List.set_cons_succ]
                refine wpM_take (i := 1) (oi := ⟨some 92, _, _, _, _, _⟩) (v := ?_) rfl (by decide +kernel) (by decide +kernel) (by decide +kernel) (fun _ _ _ h => h) (Or.inl ⟨by rfl, ?_⟩) ⟨c0, c1⟩ ?_
                case refine_2 => (intro w hSw; (try dsimp only at hSw); go_simp; try (with_reducible rfl))
                try simp only [Act.put, List.setIfInBounds_toArray, List.set_cons_zero, List.set_cons_succ]
                refine wpM_take (i := 2) (oi := ⟨some 93, _, _, _, _, _⟩) (v := ?_) rfl (by decide +kernel) (by decide +kernel) (by decide +kernel) (fun _ _ _ h => h) (Or.inl ⟨by rfl, ?_⟩) ⟨c0, c1⟩ ?_
                case refine_2 => (intro w hSw; (try dsimp only at hSw); go_simp; try (with_reducible rfl))
                try simp only [Act.put, List.setIfInBounds_toArray, List.set_cons_zero, List.set_cons_succ]
                refine wpM_take (i := 3) (oi := ⟨some 94, _, _, _, _, _⟩) (v := ?_) rfl (by decide +kernel) (by decide +kernel) (by decide +kernel) (fun _ _ _ h => h) (Or.inl ⟨by rfl, ?_⟩) ⟨c0, c1⟩ ?_
                case refine_2 => (intro w hSw; (try dsimp only at hSw); go_simp; try (with_reducible rfl))
                try simp only [Act.put, List.setIfInBounds_toArray, List.set_cons_zero, List.set_cons_succ]
                refine wpM_take (i := 4) (oi := ⟨some 95, _, _, _, _, _⟩) (v := ?_) rfl (by decide +kernel) (by decide +kernel) (by decide +kernel) (fun _ _ _ h => h) (Or.inl ⟨by rfl, ?_⟩) ⟨c0, c1⟩ ?_
                case refine_2 => (intro w hSw; (try dsimp only at hSw); go_simp; try (with_reducible rfl))
                try simp only [Act.put, List.setIfInBounds_toArray, List.set_cons_zero, List.set_cons_succ]
                refine wpM_take (i := 5) (oi := ⟨some 96, _, _, _, _, _⟩) (v := ?_) rfl (by decide +kernel) (by decide +kernel) (by decide +kernel) (fun _ _ _ h => h) (Or.inl ⟨by rfl, ?_⟩) ⟨c0, c1⟩ ?_
                case refine_2 => (intro w hSw; (try dsimp only at hSw); go_simp; try (with_reducible rfl))
                try simp only [Act.put, List.setIfInBounds_toArray, List.set_cons_zero, List.set_cons_succ]
                refine wpM_take (i := 6) (oi := ⟨some 97, _, _, _, _, _⟩) (v := ?_) rfl (by decide +kernel) (by decide +kernel) (by decide +kernel) (fun _ _ _ h => h) (Or.inl ⟨by rfl, ?_⟩) ⟨c0, c1⟩ ?_
                case refine_2 => (intro w hSw; (try dsimp only at hSw); go_simp; try (with_reducible rfl))
                try simp only [Act.put, List.setIfInBounds_toArray, List.set_cons_zero, List.set_cons_succ]
                refine wpM_take (i := 7) (oi := ⟨some 98, _, _, _, _, _⟩) (v := ?_) rfl (by decide +kernel) (by decide +kernel) (by decide +kernel) (fun _ _ _ h => h) (Or.inl ⟨by rfl, ?_⟩) ⟨c0, c1⟩ ?_
                case refine_2 => (intro w hSw; (try dsimp only at hSw); go_simp; try (with_reducible rfl))
                try simp only [Act.put, List.setIfInBounds_toArray, List.set_cons_zero, List.set_cons_succ]
                refine wpM_take (i := 8) (oi := ⟨some 99, _, _, _, _, _⟩) (v := ?_) rfl (by decide +kernel) (by decide +kernel) (by decide +kernel) (fun _ _ _ h => h) (Or.inl ⟨by rfl, ?_⟩) ⟨c0, c1⟩ ?_
                case refine_2 => (intro w hSw; (try dsimp only at hSw); go_simp; try (with_reducible rfl))
                try simp only [Act.put, List.setIfInBounds_toArray, List.set_cons_zero, List.set_cons_succ]
                refine wpM_take (i := 9) (oi := ⟨some 100, _, _, _, _, _⟩) (v := ?_) rfl (by decide +kernel) (by decide +kernel) (by decide +kernel) (fun _ _ _ h => h) (Or.inl ⟨by rfl, ?_⟩) ⟨c0, c1⟩ ?_
                case refine_2 => (intro w hSw; (try dsimp only at hSw); go_simp; try (with_reducible rfl))
                try simp only [Act.put, List.setIfInBounds_toArray, List.set_cons_zero, List.set_cons_succ]
                refine wpM_take (i := 10) (oi := ⟨some 101, _, _, _, _, _⟩) (v := ?_) rfl (by decide +kernel) (by decide +kernel) (by decide +kernel) (fun _ _ _ h => h) (Or.inl ⟨by rfl, ?_⟩) ⟨c0, c1⟩ ?_
                case refine_2 => (intro w hSw; (try dsimp only at hSw); go_simp; try (with_reducible rfl))
                try simp only [Act.put, List.setIfInBounds_toArray, List.set_cons_zero, List.set_cons_succ]
                refine wpM_done (by decide +kernel) ?_
                simp only [List.drop_succ_cons, List.drop_zero]
                clear e3 c0 c1
                have HWR := Lib.hid (RWrite_any (FO base _) wr.drew r t s' (HRK.out.below (below_drew HBX.out)) (.inl hbr) (.inl hbt) (fun k hk => Nat.lt_of_lt_of_le (HFB1.out k hk) (Nat.le_trans HSZ.out HBX.out.size)) (by omega) ((f + aj : Nat) : Int) (some ⟨gb, 0, none⟩) 64 64 (wsec e ch) (ba_of_blk (w := wr.drew) HKW.out (wsec_len _ _ (by rw [HCL.out]; omega)) (fun hh => by have h1 := HFB1.out gb hh; have h2 := HSZ.out; have h3 := HGBN.out; omega)) (Nat.le_refl _))
                go_wp2_with fail
                refine HWR.out.mono ?_
                rintro e' wz ⟨rfl, hrk4, hc4⟩
                have HRK4 := Lib.hid hrk4
                have HCW := Lib.hid (show Chg (PQ r t) wq wz from (Chg.of_below (below_drew HBX.out)).trans hc4)
                have HC4 := Lib.hid (HC.out.trans (HCW.out.mono (fun k hk => by rcases hk with h | h <;> rw [h] <;> exact .inl (by assumption))))
                have hx4 := St.Wr_x s' ((f + aj : Nat) : Int) (wsec e ch)
                clear hrk4 hc4 HWR HBX HKW HRK HC
                obtain ⟨s4, cd, hs4e⟩ : ∃ a b, s'.Wr ((f + aj : Nat) : Int) (wsec e ch) = (a, b) := ⟨_, _, rfl⟩
                rw [hs4e] at HRK4 hx4
                rw [hs4e]
                have HSE := Lib.hid hs4e
                simp only at HRK4 hx4
                clear hs4e
                by_cases hcd : cd = 0
                · subst hcd
                  have HW2 : Hid (wl e s (f + at0) (X.drop (59 * at0)) = wl e s4 (f + (aj + 1)) (X.drop (59 * (aj + 1)))) := Lib.hid (by
                    rw [HWL.out, wl_ok HNE.out (by rw [← HCHD.out, HSE.out]), ← HCHD.out, HSE.out, List.drop_drop]
                    rfl)
                  go_wp2
                  go_roundw
                  case rel => exact ⟨aj + 1, s4, by go_num, by omega, HW2.out, HRK4.out, HM.out.chg HCW.out hmrt, own_chg HOW.out HCW.out hwrt, by omega, by omega, HC4.out, Nat.le_trans HSZ.out HCW.out.size⟩
                  case measure => simp [intOf]; omega
                · have hq1 : (cd == 0) = false := by simpa using hcd
                  have hq2 : (cd != 0) = true := by simpa using hcd
                  have HAP : Hid (((lgOf f c e kk S).app s b) = (lgOf f c e kk S, s4, cd)) := Lib.hid (by
                    rw [HAPP.out, HWL.out, wl_bad HNE.out (by rw [← HCHD.out, HSE.out]; exact hcd), ← HCHD.out, HSE.out, if_neg hcd])
                  go_wp2
                  go_ret
                  rw [HAP.out]
                  exact ⟨_, rfl, HRK4.out, fun e => absurd e hcd, HC4.out, HMV.out⟩
      · have HCL : Hid (ch.length = (XL - aj * 59)) := Lib.hid (by rw [← hch, List.length_take, HDL.out]; omega)
        have h59i : ((XL - aj * 59 : Nat) : Int) ≤ 59 := by omega
        clear hch
        obtain ⟨gb, hgb⟩ : ∃ x, wq.heap.size = x := ⟨_, rfl⟩
        have HK0 := Lib.hid (show Blk (wq.alloc (.cells cs 5)) gb 5 (bc (rs1 ch 0)).toArray from by rw [rs1_zero, ← hgb]; exact HCS.out wq)
        have HB0 := Lib.hid (show Below wq.heap.size wq (wq.alloc (.cells cs 5)) from (Below.refl _ _).alloc (Nat.le_refl _) _)
        rw [hgb] at HB0
        have hgbn : gb = wq.heap.size := hgb.symm
        have HGB := Lib.hid hgb
        clear hgb
        go_wp2_with fail
        rw [← hgbn]
        have HGBN := Lib.hid hgbn
        clear hgbn
        go_loopw [8] (fun iv wr => ∃ k : Nat, k ≤ (XL - aj * 59) ∧ iv = .int .i64 (k : Int) ∧ Blk wr gb 5 (bc (rs1 ch k)).toArray ∧ Below gb wq wr) (fun iv _ => (XL - aj * 59) - (intOf iv).toNat)
        case atStart => exact ⟨0, Nat.zero_le _, rfl, HK0.out, HB0.out⟩
        case round =>
          clear HK0 HB0
          obtain ⟨k, hk, rfl, hkb, hbx⟩ := hrel
          have HK1 := Lib.hid hkb
          have HB1 := Lib.hid hbx
          clear hkb hbx
          by_cases hlt : k < (XL - aj * 59)
          · have hki : (k : Int) < ((XL - aj * 59 : Nat) : Int) := by omega
            have cc : wr.cell? ⟨sb, aj * 59 + k, none⟩ = some (.int .u8 ((ch[k]'(by rw [HCL.out]; exact hlt)).toNat : Int)) := by
              have := HB1.out.cell (p := ⟨sb, aj * 59 + k, none⟩) (by rw [HGBN.out]; exact block_lt_of_cell (HCH.out k (by rw [HCL.out]; exact hlt)))
              exact this.trans (HCH.out k (by rw [HCL.out]; exact hlt))
            obtain ⟨u0, hu0⟩ : ∃ u, wr.cell? ⟨gb, k, none⟩ = some u := ⟨_, (HK1.out.cell k).trans (Array.getElem?_eq_getElem (by rw [List.size_toArray, bc_len, rs1_len ch k (by rw [HCL.out]; omega) (by rw [HCL.out]; omega)]; omega))⟩
            have hfz : wr.frozen? ⟨gb, k, none⟩ = false := Joins.unfrozen_of_block HK1.out k
            have HK2 := Lib.hid (show Blk (wr.setCell ⟨gb, k, none⟩ (.int .u8 ((ch[k]'(by rw [HCL.out]; exact hlt)).toNat : Int))) gb 5 (bc (rs1 ch (k + 1))).toArray from by
              rw [← rs1_step ch k (by rw [HCL.out]; exact hlt) (by rw [HCL.out]; omega), ← bc_set]
              exact Joins.block_setCell HK1.out _)
            have HB2 := Lib.hid (show Below gb wq (wr.setCell ⟨gb, k, none⟩ (.int .u8 ((ch[k]'(by rw [HCL.out]; exact hlt)).toNat : Int))) from HB1.out.setCell (Nat.le_refl _) _)
            have hx256 := (ch[k]'(by rw [HCL.out]; exact hlt)).toNat_lt
            generalize (ch[k]'(by rw [HCL.out]; exact hlt)).toNat = xb at *
            go_wp2
            go_roundw
            case rel => exact ⟨k + 1, by omega, by go_num, HK2.out, HB2.out⟩
            case measure => simp [intOf]; omega
          · have hkn : k = (XL - aj * 59) := by omega
            have hge : (((XL - aj * 59 : Nat) : Int) : Int) ≤ (k : Int) := by omega
            have hgeB : decide (k < (XL - aj * 59)) = false := by simp; omega
            rw [hkn] at HK1
            clear hkn hlt hk
            obtain ⟨u59, hu59⟩ : ∃ u, wr.cell? ⟨gb, 59, none⟩ = some u := ⟨_, (HK1.out.cell 59).trans (Array.getElem?_eq_getElem (by rw [List.size_toArray, bc_len, rs1_len ch _ (by rw [HCL.out]; omega) (by rw [HCL.out]; omega)]; omega))⟩
            have hf59 : wr.frozen? ⟨gb, 59, none⟩ = false := Joins.unfrozen_of_block HK1.out 59
            have HK2 := Lib.hid (show Blk (wr.setCell ⟨gb, 59, none⟩ (.int .u8 ((XL - aj * 59 : Nat) : Int))) gb 5 (bc (rs2 e ch 0)).toArray from by
              rw [← rs1_mid e ch (by rw [HCL.out]; omega)]
              have := Joins.block_setCell HK1.out (i := 59) (.int .u8 (((XL - aj * 59) : Nat) : Int))
              rw [bc_setI _ _ _ (by omega)] at this
              rw [HCL.out]
              exact this)
            have HB2 := Lib.hid (show Below gb wq (wr.setCell ⟨gb, 59, none⟩ (.int .u8 ((XL - aj * 59 : Nat) : Int))) from HB1.out.setCell (Nat.le_refl _) _)
            clear HK1
            go_wp2_with fail
            go_loopw [9] (fun iv wr => ∃ k : Nat, k ≤ 4 ∧ iv = .int .i64 (k : Int) ∧ Blk wr gb 5 (bc (rs2 e ch k)).toArray ∧ Below gb wq wr) (fun iv _ => 4 - (intOf iv).toNat)
            case atStart => exact ⟨0, Nat.zero_le _, rfl, HK2.out, HB2.out⟩
            case round =>
              clear HK2 HB2 hu59 hf59
              obtain ⟨k, hk, rfl, hkb, hbx⟩ := hrel
              have HK1 := Lib.hid hkb
              have HB1 := Lib.hid hbx
              clear hkb hbx
              by_cases hlt : k < 4
              · have hki : (k : Int) < 4 := by omega
                have c3 : wr.cell? ⟨m, 3, none⟩ = some (.int .u32 (e : Int)) := (HB1.out.cell (p := ⟨m, 3, none⟩) (by rw [HGBN.out]; exact block_lt_of_cell (HM.out.cell 3))).trans (HM.out.cell 3)
                go_wp2_with fail
                refine (rnumB_any wr e he).mono ?_
                rintro e' wy ⟨rfl, hy1, hy2⟩
                have hgl := HK1.out.lt
                have HB3 := Lib.hid (show Below gb wq wy from HB1.out.trans (hy2.mono (Nat.le_of_lt hgl)))
                have HK3 := Lib.hid (HK1.out.below hy2)
                have cc : wy.cell? ⟨wr.heap.size, k, none⟩ = some (.int .u8 (((nb4 e)[k]'(by rw [nb4_len]; exact hlt)).toNat : Int)) := by
                  rw [hy1.cell k, ← bc_at (nb4 e) k (by rw [nb4_len]; exact hlt)]; simp
                have hyl : wr.heap.size < wy.heap.size := hy1.lt
                clear hy1 hy2
                obtain ⟨u0, hu0⟩ : ∃ u, wy.cell? ⟨gb, 60 + k, none⟩ = some u := ⟨_, (HK3.out.cell (60 + k)).trans (Array.getElem?_eq_getElem (by rw [List.size_toArray, bc_len, rs2_len e ch k (by omega) (by rw [HCL.out]; omega)]; omega))⟩
                have hfz : wy.frozen? ⟨gb, 60 + k, none⟩ = false := Joins.unfrozen_of_block HK3.out (60 + k)
                have HK4 := Lib.hid (show Blk (wy.setCell ⟨gb, 60 + k, none⟩ (.int .u8 (((nb4 e)[k]'(by rw [nb4_len]; exact hlt)).toNat : Int))) gb 5 (bc (rs2 e ch (k + 1))).toArray from by
                  rw [← rs2_step e ch k hlt (by rw [HCL.out]; omega), ← bc_set]
                  exact Joins.block_setCell HK3.out _)
                have HB4 := Lib.hid (show Below gb wq (wy.setCell ⟨gb, 60 + k, none⟩ (.int .u8 (((nb4 e)[k]'(by rw [nb4_len]; exact hlt)).toNat : Int))) from HB3.out.setCell (Nat.le_refl _) _)
                have hx256 := ((nb4 e)[k]'(by rw [nb4_len]; exact hlt)).toNat_lt
                generalize ((nb4 e)[k]'(by rw [nb4_len]; exact hlt)).toNat = xb at *
                go_wp2
                go_roundw
                case rel => exact ⟨k + 1, by omega, by go_num, HK4.out, HB4.out⟩
                case measure => simp [intOf]; omega
              · obtain rfl : k = 4 := by omega
                skip
                have HKW := Lib.hid (show Blk wr gb 5 (bc (wsec e ch)).toArray from by rw [← rs2_full]; exact HK1.out)
                have HBX := Lib.hid (show Below wq.heap.size wq wr from HGBN.out ▸ HB1.out)
                clear HK1 HB1
                go_wp2_with fail
                have c0 : wr.drew.cell? ⟨m, 0, none⟩ = some (.pointer (some ⟨r, 0, none⟩)) := keepcell (below_drew HBX.out) (HM.out.cell 0)
                have c1 : wr.drew.cell? ⟨m, 1, none⟩ = some (.int .i64 (f : Int)) := keepcell (below_drew HBX.out) (HM.out.cell 1)
                have e3 : IntKind.i64.wrap ((f : Int) + (aj : Int)) = ((f + aj : Nat) : Int) := by rw [IntWalk.i64_in _ (by omega)]; omega
                refine wp_region_mix 11 (fun w' => w'.cell? ⟨m, 0, none⟩ = some (.pointer (some ⟨r, 0, none⟩)) ∧ w'.cell? ⟨m, 1, none⟩ = some (.int .i64 (f : Int))) (by kernel_rfl) (by decide) ?_
                refine wpM_take (i := 0) (oi := ⟨some 91, _, _, _, _, _⟩) (v := ?_) rfl (by decide +kernel) (by decide +kernel) (by decide +kernel) (fun _ _ _ h => h) (Or.inl ⟨by rfl, ?_⟩) ⟨c0, c1⟩ ?_
                case refine_2 => (intro w hSw; (try dsimp only at hSw); go_simp; try (with_reducible rfl))
                try simp only [Act.put, List.setIfInBounds_toArray, List.set_cons_zero, List.set_cons_succ]
                refine wpM_take (i := 1) (oi := ⟨some 92, _, _, _, _, _⟩) (v := ?_) rfl (by decide +kernel) (by decide +kernel) (by decide +kernel) (fun _ _ _ h => h) (Or.inl ⟨by rfl, ?_⟩) ⟨c0, c1⟩ ?_
                case refine_2 => (intro w hSw; (try dsimp only at hSw); go_simp; try (with_reducible rfl))
                try simp only [Act.put, List.setIfInBounds_toArray, List.set_cons_zero, List.set_cons_succ]
                refine wpM_take (i := 2) (oi := ⟨some 93, _, _, _, _, _⟩) (v := ?_) rfl (by decide +kernel) (by decide +kernel) (by decide +kernel) (fun _ _ _ h => h) (Or.inl ⟨by rfl, ?_⟩) ⟨c0, c1⟩ ?_
                case refine_2 => (intro w hSw; (try dsimp only at hSw); go_simp; try (with_reducible rfl))
                try simp only [Act.put, List.setIfInBounds_toArray, List.set_cons_zero, List.set_cons_succ]
                refine wpM_take (i := 3) (oi := ⟨some 94, _, _, _, _, _⟩) (v := ?_) rfl (by decide +kernel) (by decide +kernel) (by decide +kernel) (fun _ _ _ h => h) (Or.inl ⟨by rfl, ?_⟩) ⟨c0, c1⟩ ?_
                case refine_2 => (intro w hSw; (try dsimp only at hSw); go_simp; try (with_reducible rfl))
                try simp only [Act.put, List.setIfInBounds_toArray, List.set_cons_zero, List.set_cons_succ]
                refine wpM_take (i := 4) (oi := ⟨some 95, _, _, _, _, _⟩) (v := ?_) rfl (by decide +kernel) (by decide +kernel) (by decide +kernel) (fun _ _ _ h => h) (Or.inl ⟨by rfl, ?_⟩) ⟨c0, c1⟩ ?_
                case refine_2 => (intro w hSw; (try dsimp only at hSw); go_simp; try (with_reducible rfl))
                try simp only [Act.put, List.setIfInBounds_toArray, List.set_cons_zero, List.set_cons_succ]
                refine wpM_take (i := 5) (oi := ⟨some 96, _, _, _, _, _⟩) (v := ?_) rfl (by decide +kernel) (by decide +kernel) (by decide +kernel) (fun _ _ _ h => h) (Or.inl ⟨by rfl, ?_⟩) ⟨c0, c1⟩ ?_
                case refine_2 => (intro w hSw; (try dsimp only at hSw); go_simp; try (with_reducible rfl))
                try simp only [Act.put, List.setIfInBounds_toArray, List.set_cons_zero, List.set_cons_succ]
                refine wpM_take (i := 6) (oi := ⟨some 97, _, _, _, _, _⟩) (v := ?_) rfl (by decide +kernel) (by decide +kernel) (by decide +kernel) (fun _ _ _ h => h) (Or.inl ⟨by rfl, ?_⟩) ⟨c0, c1⟩ ?_
                case refine_2 => (intro w hSw; (try dsimp only at hSw); go_simp; try (with_reducible rfl))
                try simp only [Act.put, List.setIfInBounds_toArray, List.set_cons_zero, List.set_cons_succ]
                refine wpM_take (i := 7) (oi := ⟨some 98, _, _, _, _, _⟩) (v := ?_) rfl (by decide +kernel) (by decide +kernel) (by decide +kernel) (fun _ _ _ h => h) (Or.inl ⟨by rfl, ?_⟩) ⟨c0, c1⟩ ?_
                case refine_2 => (intro w hSw; (try dsimp only at hSw); go_simp; try (with_reducible rfl))
                try simp only [Act.put, List.setIfInBounds_toArray, List.set_cons_zero, List.set_cons_succ]
                refine wpM_take (i := 8) (oi := ⟨some 99, _, _, _, _, _⟩) (v := ?_) rfl (by decide +kernel) (by decide +kernel) (by decide +kernel) (fun _ _ _ h => h) (Or.inl ⟨by rfl, ?_⟩) ⟨c0, c1⟩ ?_
                case refine_2 => (intro w hSw; (try dsimp only at hSw); go_simp; try (with_reducible rfl))
                try simp only [Act.put, List.setIfInBounds_toArray, List.set_cons_zero, List.set_cons_succ]
                refine wpM_take (i := 9) (oi := ⟨some 100, _, _, _, _, _⟩) (v := ?_) rfl (by decide +kernel) (by decide +kernel) (by decide +kernel) (fun _ _ _ h => h) (Or.inl ⟨by rfl, ?_⟩) ⟨c0, c1⟩ ?_
                case refine_2 => (intro w hSw; (try dsimp only at hSw); go_simp; try (with_reducible rfl))
                try simp only [Act.put, List.setIfInBounds_toArray, List.set_cons_zero, List.set_cons_succ]
                refine wpM_take (i := 10) (oi := ⟨some 101, _, _, _, _, _⟩) (v := ?_) rfl (by decide +kernel) (by decide +kernel) (by decide +kernel) (fun _ _ _ h => h) (Or.inl ⟨by rfl, ?_⟩) ⟨c0, c1⟩ ?_
                case refine_2 => (intro w hSw; (try dsimp only at hSw); go_simp; try (with_reducible rfl))
                try simp only [Act.put, List.setIfInBounds_toArray, List.set_cons_zero, List.set_cons_succ]
                refine wpM_done (by decide +kernel) ?_
                simp only [List.drop_succ_cons, List.drop_zero]
                clear e3 c0 c1
                have HWR := Lib.hid (RWrite_any (FO base _) wr.drew r t s' (HRK.out.below (below_drew HBX.out)) (.inl hbr) (.inl hbt) (fun k hk => Nat.lt_of_lt_of_le (HFB1.out k hk) (Nat.le_trans HSZ.out HBX.out.size)) (by omega) ((f + aj : Nat) : Int) (some ⟨gb, 0, none⟩) 64 64 (wsec e ch) (ba_of_blk (w := wr.drew) HKW.out (wsec_len _ _ (by rw [HCL.out]; omega)) (fun hh => by have h1 := HFB1.out gb hh; have h2 := HSZ.out; have h3 := HGBN.out; omega)) (Nat.le_refl _))
                go_wp2_with fail
                refine HWR.out.mono ?_
                rintro e' wz ⟨rfl, hrk4, hc4⟩
                have HRK4 := Lib.hid hrk4
                have HCW := Lib.hid (show Chg (PQ r t) wq wz from (Chg.of_below (below_drew HBX.out)).trans hc4)
                have HC4 := Lib.hid (HC.out.trans (HCW.out.mono (fun k hk => by rcases hk with h | h <;> rw [h] <;> exact .inl (by assumption))))
                have hx4 := St.Wr_x s' ((f + aj : Nat) : Int) (wsec e ch)
                clear hrk4 hc4 HWR HBX HKW HRK HC
                obtain ⟨s4, cd, hs4e⟩ : ∃ a b, s'.Wr ((f + aj : Nat) : Int) (wsec e ch) = (a, b) := ⟨_, _, rfl⟩
                rw [hs4e] at HRK4 hx4
                rw [hs4e]
                have HSE := Lib.hid hs4e
                simp only at HRK4 hx4
                clear hs4e
                by_cases hcd : cd = 0
                · subst hcd
                  have HW2 : Hid (wl e s (f + at0) (X.drop (59 * at0)) = wl e s4 (f + (aj + 1)) (X.drop (59 * (aj + 1)))) := Lib.hid (by
                    rw [HWL.out, wl_ok HNE.out (by rw [← HCHD.out, HSE.out]), ← HCHD.out, HSE.out, List.drop_drop]
                    rfl)
                  go_wp2
                  go_roundw
                  case rel => exact ⟨aj + 1, s4, by go_num, by omega, HW2.out, HRK4.out, HM.out.chg HCW.out hmrt, own_chg HOW.out HCW.out hwrt, by omega, by omega, HC4.out, Nat.le_trans HSZ.out HCW.out.size⟩
                  case measure => simp [intOf]; omega
                · have hq1 : (cd == 0) = false := by simpa using hcd
                  have hq2 : (cd != 0) = true := by simpa using hcd
                  have HAP : Hid (((lgOf f c e kk S).app s b) = (lgOf f c e kk S, s4, cd)) := Lib.hid (by
                    rw [HAPP.out, HWL.out, wl_bad HNE.out (by rw [← HCHD.out, HSE.out]; exact hcd), ← HCHD.out, HSE.out, if_neg hcd])
                  go_wp2
                  go_ret
                  rw [HAP.out]
                  exact ⟨_, rfl, HRK4.out, fun e => absurd e hcd, HC4.out, HMV.out⟩
    · have hidx : (XL : Int) ≤ (aj : Int) * 59 := by omega
      have hdn : X.drop (59 * aj) = [] := List.drop_of_length_le (by rw [HXL.out]; omega)
      have HAP : Hid ((lgOf f c e kk S).app s b = (lgOf f c e (kk + 1) X, s', 0)) := Lib.hid (by
        rw [HAPP.out, HWL.out, hdn, wl_nil, if_pos rfl])
      clear hdn
      have hC2 : Chg (fun k => k = m) wq (wq.setCell ⟨m, 5, none⟩ (.int .i64 ((kk : Int) + 1))) := (Chg.refl _ _).set_ rfl
      have HRK2 := Lib.hid (HRK.out.chg hC2 (fun k h => by rw [h]; exact .inl hbm) (fun h => hmrt (.inl h.symm)) (fun h => hmrt (.inr h.symm)))
      have HG2 := Lib.hid (show Rg B (wq.setCell ⟨m, 5, none⟩ (.int .i64 ((kk : Int) + 1))) m r f c e (kk + 1) X (.slice (some ⟨sb, 0, none⟩) XL c5) from ⟨by have h5 := Joins.block_setCell HM.out (i := 5) (.int .i64 ((kk : Int) + 1)); rw [show ((kk : Int) + 1) = ((kk + 1 : Nat) : Int) from by omega] at h5 ⊢; exact h5, own_chg HOW.out hC2 (fun k hk h => hw1 k hk (by rw [h]; exact hbm))⟩)
      have HC2 := Lib.hid (HC.out.trans (hC2.mono (fun k h => by rw [h]; exact .inl hbm)))
      clear hC2
      go_wp2
      go_ret
      rw [HAP.out, hbl2.out, HX.out]
      exact ⟨_, rfl, HRK2.out, fun _ => HG2.out, HC2.out, HMV.out⟩
end Go.Proofs.Ytgpofkabidginaa
