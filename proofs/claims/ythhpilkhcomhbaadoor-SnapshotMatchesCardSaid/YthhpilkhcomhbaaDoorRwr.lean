/- The reference of a disk: writing. -/
import Derived.Test.YthhpilkhcomhbaaDoorRks
namespace Go.Proofs.YthhpilkhcomhbaaDoor
open Go.ChangeShapes Go.WideShapes Go.ChangeAt Go.RowKit Go.ChangeMaps

theorem Tryd.info5 : (Tryd.prog.info? 5).map (fun i => (i.zero, i.size, i.bytes)) = some (some (.int .u8 0), 1, 1) := by kernel_rfl
theorem own_empty (w : World) : (w.alloc (.cells #[] 5)).ownsRow w.heap.size 5 1 (.slice (some ⟨w.heap.size, 0, none⟩) 0 0) 0 [] :=
  ⟨rfl, .inr ⟨w.heap.size, 0, #[], rfl, Nat.le_refl _, heap_alloc_new w _, Nat.le_refl _, by decide, rfl, rfl⟩⟩
theorem own_bytes3 {F : Nat → Prop} {w : World} {B : Nat} {v : Value} {l : List UInt8} (h : w.ownsRow B 5 1 v l.length (bc l)) (hF : ∀ k, F k → k < B) : ∃ A c, v = .slice A l.length c ∧ BA F w A l.length l ∧ l.length ≤ c ∧ c ≤ 9223372036854775807 := by
  have h0 := h
  rcases h.2 with ⟨rfl, hl⟩ | ⟨g, cap, cur, rfl, hg, hh, hnc, hcap, hsz, htake⟩
  · exact ⟨none, 0, by rw [hl], ⟨rfl, fun hn => by omega⟩, by omega, by omega⟩
  · refine ⟨_, _, rfl, ⟨rfl, fun hn => ⟨g, 0, rfl, (h0.lt g rfl).2, fun e => by have := hF g e; omega, fun i hi => ?_⟩⟩, hnc, by unfold maxLen at hcap; omega⟩
    rw [Nat.zero_add, World.ownsRow.cellAt h0 i (by omega), bc_at l i hi]
theorem RWrite_fail (F : Nat → Prop) (w : World) (r t : Nat) (s : St) (h : Rk F w r t s) (hf : s.f = true) (i : Int) (v : Value) : Calls Tryd.prog 33 #[.pointer (some ⟨r, 0, none⟩), .int .i64 i, v] w fun e w' => e = .returned (.int .i64 15) ∧ w = w' := by
  obtain ⟨cap, hcap, c0, c1, c2, c3, c4, fz⟩ := h.cells
  rw [hf] at c1
  clear hf h fz
  go_enter Tryd.func33, Tryd.ntmps33
  go_wp2
  go_ret
  exact ⟨rfl, rfl⟩
theorem RWrite_bad (F : Nat → Prop) (w : World) (r t : Nat) (s : St) (h : Rk F w r t s) (hf : s.f = false) (i : Int) (A : Option Addr) (n c : Nat) (hb : ¬ (0 ≤ i ∧ i < s.R.length) ∨ n ≠ 64) : Calls Tryd.prog 33 #[.pointer (some ⟨r, 0, none⟩), .int .i64 i, .slice A n c] w fun e w' => e = .returned (.int .i64 1) ∧ w = w' := by
  obtain ⟨cap, hcap, c0, c1, c2, c3, c4, fz⟩ := h.cells
  have hR : s.R.length ≤ 65536 := h.ok.2.2.1
  rw [hf] at c1
  generalize s.R.length = m at *
  clear hf h fz
  by_cases h0 : i < 0
  · clear hb
    go_enter Tryd.func33, Tryd.ntmps33
    go_wp2
    go_ret
    exact ⟨rfl, rfl⟩
  · by_cases h1 : (m : Int) ≤ i
    · clear hb
      go_enter Tryd.func33, Tryd.ntmps33
      go_wp2
      go_ret
      exact ⟨rfl, rfl⟩
    · have hn : n ≠ 64 := by rcases hb with hb | hb; (· omega); exact hb
      have hn2 : ((n : Int) == 64) = false := by simp; omega
      clear hb hn
      go_enter Tryd.func33, Tryd.ntmps33
      go_wp2
      go_ret
      exact ⟨rfl, rfl⟩
set_option maxRecDepth 100000 in
set_option maxHeartbeats 1000000 in
theorem RWrite_zero (F : Nat → Prop) (w : World) (r t : Nat) (s : St) (h : Rk F w r t s) (hr : F r) (ht : F t) (hFB : ∀ k, F k → k < w.heap.size) (hf : s.f = false) (ha : s.a = 0) (hx : s.x < 1000000000) (k : Nat) (hk : k < s.R.length) (A : Option Addr) (c : Nat) (d : List UInt8) (hd : BA F w A 64 d) (hc : 64 ≤ c) :
    Calls Tryd.prog 33 #[.pointer (some ⟨r, 0, none⟩), .int .i64 (k : Int), .slice A 64 c] w fun e w' => e = .returned (.int .i64 0) ∧ Rk F w' r t { s with R := s.R.set k d, a := s.a - 1, x := s.x + 1 } ∧ Chg (PQ r t) w w' := by
  obtain ⟨i0, hi, hz0, hz1, hz2⟩ := info_parts Tryd.info5
  obtain ⟨cap, hcap, c0, c1, c2, c3, c4, fz⟩ := h.cells
  rw [hf] at c1
  have f2 := fz 2
  have hal : s.a ≤ 9223372036854775807 := h.ok.2.2.2.1
  rw [ha] at c2
  
  have hX : (0 : Int) = ((s.a - 1 : Nat) : Int) := by omega
  have hki : (k : Int) < s.R.length := by omega
  have hkk : (0 : Int) ≤ k := by omega
  have hn : s.R.length ≤ 65536 := h.ok.2.2.1
  have hC0 : Chg (PQ r t) w (w.setCell ⟨r, 2, none⟩ (.int .i64 0)) := (Chg.refl _ _).set_ (.inl rfl)
  have hF2 : ∀ k, PQ r t k → F k := fun k e => by rcases e with e | e <;> rw [e] <;> assumption
  have HW0 := Lib.hid (show Rk F (w.setCell ⟨r, 2, none⟩ (.int .i64 0)) r t { s with a := s.a - 1 } from
    h.put hr rfl ⟨h.ok.1, h.ok.2.1, h.ok.2.2.1, by simp; omega, h.ok.2.2.2.2⟩ ((Chg.refl (fun k => k = r) w).set_ rfl) (fun cap hb => by rw [hX]; exact Joins.block_setCell hb _))
  have HC0 := Lib.hid hC0
  have HBD := Lib.hid (hd.chg (hC0.mono hF2))
  have HFB := Lib.hid (show ∀ k, F k → k < (w.setCell ⟨r, 2, none⟩ (.int .i64 0)).heap.size from fun k e => by simp [World.setCell]; exact hFB k e)
  have HF2 := Lib.hid hF2
  clear h hf fz ha hC0 hF2 hX hFB hd
  go_enter Tryd.func33, Tryd.ntmps33
  go_wp2_with fail
  generalize (w.setCell ⟨r, 2, none⟩ (.int .i64 0)) = W at *
  obtain ⟨cap2, cur, g1, g2, g3, g4, g5, g6, g7⟩ := HW0.out
  have c0 : W.cell? ⟨r, 0, none⟩ = some (.slice (some ⟨t, 0, none⟩) s.R.length cap2) := g1.cell 0
  obtain ⟨A9, c9, e9, -, -, -⟩ := g5 k hk
  have HG2 := Lib.hid (show Blk (W.drew.alloc (.cells #[] 5)) t 36 cur from g2.alloc (.cells #[] 5))
  have HG1 := Lib.hid (show Blk (W.drew.alloc (.cells #[] 5)) r 71 _ from g1.alloc (.cells #[] 5))
  have hrl : r < W.heap.size := g1.lt
  have htl : t < W.heap.size := g2.lt
  have HSRC := Lib.hid (show Src Tryd.prog 1 36 (.slice A 64 c) 64 (bc d) (W.drew.alloc (.cells #[] 5)) from src_at (n := 64) (c := c) (HBD.out.at.below ((below_drew (Below.refl _ W)).alloc (Nat.le_refl _) (.cells #[] 5))))
  clear g1 g3 g4 g5 g6 g7
  go_region_law (first
    | (refine step_app rfl (.tmp 75) (.tmp 76) 36 36 rfl W.heap.size _ _ 5 i0 Tryd.underlying36 hi hz0 hz1 hz2 _ [] rfl (Grows.refl (E := 5) (l := []) (own_empty W.drew) (by simp)) _ 64 d rfl HSRC.out (by simp) ?_; intro v2 w2 G2 z2 k2; obtain ⟨A2, c2', rfl, hb2, hc2, hc3⟩ := own_bytes3 G2.1 HFB.out; have b9 := k2 t 36 cur (by decide) HG2.out; have c9' := (b9.cell k).trans e9; have f9 := Joins.unfrozen_of_block b9 k; have c0' : w2.cell? ⟨r, 0, none⟩ = some (.slice (some ⟨t, 0, none⟩) s.R.length cap2) := (k2 r 71 _ (by decide) HG1.out).cell 0))
  all_goals
    have HDL := Lib.hid (show d.length = 64 from HBD.out.1)
    simp only [List.nil_append, HDL.out] at hb2 hc2 ⊢
    have HB2 := Lib.hid (((below_drew (Below.refl W.heap.size W)).alloc (Nat.le_refl _) (.cells #[] 5)).trans (G2.below_of (own_empty W.drew) (by simp)))
    have HK2 := Lib.hid ((HW0.out.below HB2.out).setSec ht k (by show k < s.R.length; omega) hb2 hc2 hc3)
    have HC2 := Lib.hid (show Chg (PQ r t) w (w2.setCell ⟨t, k, none⟩ (.slice A2 64 c2')) from (HC0.out.trans (Chg.of_below HB2.out)).set_ (.inr rfl))
    clear G2 z2 k2 b9 c9' f9 c0' hb2 HB2 HG1 HG2 HSRC c0 HW0 HC0 HBD
    generalize w2.setCell ⟨t, k, none⟩ (.slice A2 64 c2') = W3 at *
    obtain ⟨cap3, -, -, -, -, -, c4, fz⟩ := HK2.out.cells
    have f4 := fz 4
    clear fz
    go_wp2
    go_ret
    exact ⟨rfl, HK2.out.put hr rfl ⟨HK2.out.ok.1, HK2.out.ok.2.1, HK2.out.ok.2.2.1, HK2.out.ok.2.2.2.1, by simp; omega⟩ ((Chg.refl (fun k => k = r) W3).set_ rfl) (fun cap hb => Joins.block_setCell hb _), HC2.out.set_ (.inl rfl)⟩
end Go.Proofs.YthhpilkhcomhbaaDoor
