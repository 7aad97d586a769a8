/- A new reference disk of any number of sectors. -/
import Derived.Test.YthhpilkhcomhbaaDoorSnc
import Derived.Test.YthhpilkhcomhbaaDoorRnw
import Derived.Test.YthhpilkhcomhbaaDoorLmt
namespace Go.Proofs.YthhpilkhcomhbaaDoor
open Go.ChangeShapes Go.WideShapes Go.ChangeAt Go.RowKit Go.ChangeMaps

set_option maxRecDepth 100000 in
set_option maxHeartbeats 2000000 in
theorem RNewN_any (w : World) (N : Nat) (hN1 : 1 ≤ N) (hN : N ≤ 60) : Calls Tryd.prog 16 #[.int .i64 (N : Int)] w fun e w' => e = .returned (.tuple #[.pointer (some ⟨w.heap.size, 0, none⟩), .bool true]) ∧ (∃ (v : Value) (G : Nat → Nat), Blk w' w.heap.size 71 #[v, .bool false, .int .i64 0, .int .i64 0, .int .i64 0] ∧ w'.ownsRow w.heap.size 36 1 v N (gs G N) ∧ (∀ i, i < N → Blk w' (G i) 5 (bc zeros).toArray ∧ w.heap.size ≤ G i)) ∧ Below w.heap.size w w' := by
  obtain ⟨i1, hi, hz0, hz1, hz2⟩ := info_parts Tryd.info36
  obtain ⟨cs, hcs, hmk⟩ := make64
  have HCS := Lib.hid (show ∀ W : World, Blk (W.alloc (.cells cs 5)) W.heap.size 5 (bc zeros).toArray from fun W => by rw [hcs.out]; exact Blk.new _ _ _)
  clear hcs
  have hNi1 : (1 : Int) ≤ (N : Int) := by omega
  have hNi2 : (N : Int) ≤ 60 := by omega
  go_enter Tryd.func16, Tryd.ntmps16
  go_wp2
  go_loopw [5] (fun i wr => ∃ (k : Nat) (v : Value) (G : Nat → Nat), k ≤ N ∧ i = .int .i64 (k : Int) ∧ Blk wr w.heap.size 71 #[v, .bool false, .int .i64 0, .int .i64 0, .int .i64 0] ∧ wr.ownsRow w.heap.size 36 1 v k (gs G k) ∧ (∀ i, i < k → Blk wr (G i) 5 (bc zeros).toArray ∧ w.heap.size ≤ G i) ∧ Below w.heap.size w wr) (fun i _ => N - (intOf i).toNat)
  case atStart => exact ⟨0, .slice none 0 0, fun _ => 0, by omega, rfl, Blk.new _ _ _, World.ownsRow_nil _ _ _ _, fun i h => absurd h (by omega), (Below.refl _ w).alloc (Nat.le_refl _) _⟩
  case round =>
    obtain ⟨k, v, G, hk, rfl, hK, hO, hG, hB⟩ := hrel
    have HK := Lib.hid hK
    have HO := Lib.hid hO
    have HG := Lib.hid hG
    have HB := Lib.hid hB
    clear hO hG hB
    by_cases hlt : k < N
    · have hki : (k : Int) < (N : Int) := by omega
      have c0 : wr.cell? ⟨w.heap.size, 0, none⟩ = some v := hK.cell 0
      have hrl : w.heap.size < wr.heap.size := hK.lt
      clear hK
      go_wp2_with fail
      have HO1 := Lib.hid (show (wr.drew.alloc (.cells cs 5)).ownsRow w.heap.size 36 1 v k (gs G k) from HO.out.alloc (.cells cs 5))
      have hcd : wr.drew.cell? ⟨w.heap.size, 0, none⟩ = some v := c0
      refine wp_region_mix 8 (fun w' => w'.cell? ⟨w.heap.size, 0, none⟩ = some v) (by kernel_rfl) (by decide) ?_
      refine wpM_take (i := 0) (oi := ⟨some 19, _, _, _, _, _⟩) (v := ?_) rfl (by decide +kernel) (by decide +kernel) (by decide +kernel) (fun _ _ _ h => h) (Or.inl ⟨by rfl, ?_⟩) hcd ?_
      case refine_2 => (intro w hSw; (try dsimp only at hSw); go_simp; try (with_reducible rfl))
      try simp only [Act.put, List.setIfInBounds_toArray, List.set_cons_zero, List.set_cons_succ]
      refine wpM_take (i := 1) (oi := ⟨some 20, _, _, _, _, _⟩) (v := ?_) rfl (by decide +kernel) (by decide +kernel) (by decide +kernel) (fun _ _ _ h => h) (Or.inl ⟨by rfl, ?_⟩) hcd ?_
      case refine_2 => (intro w hSw; (try dsimp only at hSw); go_simp; try (with_reducible rfl))
      try simp only [Act.put, List.setIfInBounds_toArray, List.set_cons_zero, List.set_cons_succ]
      refine wpM_take (i := 2) (oi := ⟨some 21, _, _, _, _, _⟩) (v := ?_) rfl (by decide +kernel) (by decide +kernel) (by decide +kernel) (fun _ _ _ h => h) (Or.inl ⟨by rfl, ?_⟩) hcd ?_
      case refine_2 => (intro w hSw; (try dsimp only at hSw); go_simp; try (with_reducible rfl))
      try simp only [Act.put, List.setIfInBounds_toArray, List.set_cons_zero, List.set_cons_succ]
      refine wpM_take (i := 3) (oi := ⟨some 22, _, _, _, _, _⟩) (v := ?_) rfl (by decide +kernel) (by decide +kernel) (by decide +kernel) (fun _ _ _ h => h) (Or.inl ⟨by rfl, ?_⟩) hcd ?_
      case refine_2 => (intro w hSw; (try dsimp only at hSw); go_simp; try (with_reducible rfl))
      try simp only [Act.put, List.setIfInBounds_toArray, List.set_cons_zero, List.set_cons_succ]
      refine wpM_take (i := 4) (oi := ⟨some 23, _, _, _, _, _⟩) (v := ?_) rfl (by decide +kernel) (by decide +kernel) (by decide +kernel) (fun _ _ _ h => h) (Or.inl ⟨by rfl, ?_⟩) hcd ?_
      case refine_2 => (intro w hSw; (try dsimp only at hSw); go_simp; try (with_reducible rfl))
      try simp only [Act.put, List.setIfInBounds_toArray, List.set_cons_zero, List.set_cons_succ]
      refine wpM_step (i := 5) (o := ⟨some 24, _, _, _, _, _⟩) rfl (by decide +kernel) (by decide) (fun K hK => ?_)
      go_simp
      refine hK.out _ _ (pastcell hcd) ?_
      clear hK K
      try simp only [Act.put, List.setIfInBounds_toArray, List.set_cons_zero, List.set_cons_succ]
      refine wpM_step (i := 6) (o := ⟨some 25, _, _, _, _, _⟩) rfl (by decide +kernel) (by decide) (fun K hK => ?_)
      go_simp
      refine hK.out _ _ (pastcell (pastcell hcd)) ?_
      clear hK K
      try simp only [Act.put, List.setIfInBounds_toArray, List.set_cons_zero, List.set_cons_succ]
      obtain ⟨W2, hW2⟩ : ∃ W2, ((wr.alloc (.cells cs 5)).alloc (.cells #[.slice (some ⟨wr.heap.size, 0, none⟩) 64 64] 36)).drew = W2 := ⟨_, rfl⟩
      have HW2 := Lib.hid (show Below wr.heap.size wr W2 from by rw [← hW2]; exact below_drew (((Below.refl _ wr).alloc (Nat.le_refl _) _).alloc (by simp) _))
      have HN0 := Lib.hid (show Blk W2 wr.heap.size 5 (bc zeros).toArray from by rw [← hW2]; exact (HCS.out wr).alloc _)
      have HNB := Lib.hid (show Blk W2 (wr.heap.size + 1) 36 [.slice (some ⟨wr.heap.size, 0, none⟩) 64 64].toArray from by rw [← hW2]; exact (Blk.new_ (by simp) rfl : Blk ((wr.alloc (.cells cs 5)).alloc (.cells #[.slice (some ⟨wr.heap.size, 0, none⟩) 64 64] 36)) (wr.heap.size + 1) 36 _))
      have HO2 := Lib.hid (own_below HO.out HW2.out)
      have HK2 := Lib.hid (HK.out.below HW2.out)
      have HSR := Lib.hid (show Src Tryd.prog 1 69 (.slice (some ⟨wr.heap.size + 1, 0, none⟩) 1 1) 1 [.slice (some ⟨wr.heap.size, 0, none⟩) 64 64] W2 from src_blk Tryd.underlying69 rfl (fun u hu => by rw [List.mem_singleton] at hu; rw [hu]; rfl) HNB.out)
      rw [hW2]
      refine wpM_step (i := 7) (o := ⟨some 26, _, _, _, _, _⟩) rfl (by decide +kernel) (by decide) (fun K hK => ?_)
      refine step_append_src W2 rfl (.tmp 23) (.tmp 25) 69 69 rfl w.heap.size 36 i1 (.slice none 0 0) 1 24 Tryd.underlying69 hi hz0 hz1 hz2 rfl v k (gs G k) rfl HO2.out _ 1 _ rfl HSR.out (by unfold maxLen; omega) (by omega) (by have := HW2.out.size; omega) ?_
      intro v' w' own' hg hm
      have HK3 := Lib.hid (HK2.out.grown HO2.out (by decide) hg)
      have HN3 := Lib.hid (HN0.out.grown HO2.out (by decide) hg)
      have HG3 := Lib.hid (show ∀ i, i < k → Blk w' (G i) 5 (bc zeros).toArray ∧ w.heap.size ≤ G i from fun i hi => ⟨((HG.out i hi).1.below HW2.out).grown HO2.out (by decide) hg, (HG.out i hi).2⟩)
      have HB3 := Lib.hid ((HB.out.trans (HW2.out.mono HB.out.size)).grown hg (by have h1 := HW2.out.size; omega) (fun j hj => (HO2.out.lt j hj).1))
      rw [gs_snoc] at own'
      have HO3 := Lib.hid own'
      have c3 : w'.cell? ⟨w.heap.size, 0, none⟩ = some v := HK3.out.cell 0
      refine hK.out _ _ c3 ?_
      clear hK K hg hm own' hW2
      have f3 : w'.frozen? ⟨w.heap.size, 0, none⟩ = false := Joins.unfrozen_of_block HK3.out 0
      try simp only [Act.put, List.setIfInBounds_toArray, List.set_cons_zero, List.set_cons_succ]
      refine wpM_done (by decide +kernel) ?_
      simp only [List.drop_succ_cons, List.drop_zero]
      obtain ⟨A3, a3, rfl, -⟩ := At.of_own HO3.out
      have HK4 := Lib.hid (show Blk (w'.setCell ⟨w.heap.size, 0, none⟩ (.slice A3 (k + 1) a3)) w.heap.size 71 #[.slice A3 (k + 1) a3, .bool false, .int .i64 0, .int .i64 0, .int .i64 0] from Joins.block_setCell HK3.out _)
      have hcc : Chg (fun b => b = w.heap.size) w' (w'.setCell ⟨w.heap.size, 0, none⟩ (.slice A3 (k + 1) a3)) := (Chg.refl _ _).set_ rfl
      have HO4 := Lib.hid (show (w'.setCell ⟨w.heap.size, 0, none⟩ (.slice A3 (k + 1) a3)).ownsRow w.heap.size 36 1 (.slice A3 (k + 1) a3) (k + 1) (gs (fun i => if i = k then wr.heap.size else G i) (k + 1)) from HO3.out.kept (grown_set _ _ _ _) (.inr (own_blk_ne HO3.out HK3.out (by decide))))
      have HG4 := Lib.hid (show ∀ i, i < k + 1 → Blk (w'.setCell ⟨w.heap.size, 0, none⟩ (.slice A3 (k + 1) a3)) (if i = k then wr.heap.size else G i) 5 (bc zeros).toArray ∧ w.heap.size ≤ (if i = k then wr.heap.size else G i) from fun i hi => by
        by_cases hik : i = k
        · rw [if_pos hik]
          exact ⟨HN3.out.chg hcc (by omega), by omega⟩
        · rw [if_neg hik]
          have := HG3.out i (by omega)
          exact ⟨this.1.chg hcc (fun e => by
            have h1 := HK3.out
            have h2 := this.1
            rw [e] at h2
            unfold Blk at h1 h2
            rw [h1] at h2
            simp at h2), this.2⟩)
      have HB4 := Lib.hid (hcc.below HB3.out (fun b e => by rw [e]; exact Nat.le_refl _) HB3.out.size)
      clear hcc
      go_wp2
      go_roundw
      case rel => exact ⟨k + 1, _, _, by omega, by go_num, HK4.out, HO4.out, HG4.out, HB4.out⟩
      case measure => simp [intOf]; omega
    · obtain rfl : k = N := by omega
      go_wp2
      go_ret2
      exact ⟨rfl, ⟨v, G, HK.out, HO.out, HG.out⟩, HB.out⟩
theorem gs_at (G : Nat → Nat) (N i : Nat) (h : i < N) : (gs G N)[i]? = some (.slice (some ⟨G i, 0, none⟩) 64 64) := by simp [gs, h]
theorem new_get (N i : Nat) (h : i < N) : (St.new N).R.getD i [] = zeros := by simp [St.new, List.getD_eq_getElem?_getD, List.getElem?_replicate, h]
theorem Rk_newN {w : World} {B r : Nat} {v : Value} {G : Nat → Nat} {N : Nat} (hN1 : 1 ≤ N) (hN : N ≤ 60) (h1 : Blk w r 71 #[v, .bool false, .int .i64 0, .int .i64 0, .int .i64 0]) (h2 : w.ownsRow B 36 1 v N (gs G N)) (h3 : ∀ i, i < N → Blk w (G i) 5 (bc zeros).toArray ∧ B ≤ G i) (hB : B ≤ r) :
    ∃ t, B ≤ t ∧ r ≠ t ∧ ∀ F : Nat → Prop, (∀ k, F k → k < B ∨ k = r ∨ k = t) → Rk F w r t (St.new N) := by
  have h20 := h2
  have hlen : (St.new N).R.length = N := by simp [St.new]
  rcases h2.2 with ⟨rfl, hl⟩ | ⟨t, cap, cur, rfl, hg, hh, hnc, hcap, hsz, htake⟩
  · omega
  · have hne : r ≠ t := fun e => by
      subst e
      unfold Blk at h1
      rw [hh] at h1
      simp at h1
    refine ⟨t, hg, hne, fun F hF => ⟨cap, cur, ?_, hh, by rw [hsz, hlen]; omega, by rw [hlen]; exact hnc, fun i hi => ?_, hne, St.new_ok (by omega)⟩⟩
    · rw [hlen]; exact h1
    · have hi4 : i < N := by rw [hlen] at hi; exact hi
      obtain ⟨b1, b2⟩ := h3 i hi4
      refine ⟨some ⟨G i, 0, none⟩, 64, ?_, Nat.le_refl _, by decide, ?_⟩
      · have hc := World.ownsRow.cellAt h20 i (by omega)
        rw [show w.cell? ⟨t, i, none⟩ = cur[i]? from Blk.cell hh i] at hc
        rw [hc]
        exact gs_at G N i hi4
      · rw [new_get N i hi4]
        refine ba_of_blk b1 (by decide) (fun e => ?_)
        rcases hF _ e with h | h | h
        · omega
        · rw [h] at b1
          unfold Blk at b1 h1
          rw [h1] at b1
          simp at b1
        · rw [h] at b1
          unfold Blk at b1
          rw [hh] at b1
          simp at b1
end Go.Proofs.YthhpilkhcomhbaaDoor
