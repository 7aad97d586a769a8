/- The reference of a disk: a torn write. -/
import Derived.Test.YthhpilkhcomhbaaDoorRwr
import Derived.Test.YthhpilkhcomhbaaDoorTrn
import Derived.Test.YthhpilkhcomhbaaDoorMix
namespace Go.Proofs.YthhpilkhcomhbaaDoor
open Go.ChangeShapes Go.WideShapes Go.ChangeAt Go.RowKit Go.ChangeMaps

theorem BytesAt.nil2 (w : World) (A : Option Addr) (l : List UInt8) {n : Nat} (h : n = 0) (hl : l.length = 0) : BytesAt w A n l := ⟨by omega, fun h => absurd h (by omega)⟩
set_option maxRecDepth 100000 in
set_option maxHeartbeats 1000000 in
theorem RWrite_torn (F : Nat → Prop) (w : World) (r t : Nat) (s : St) (h : Rk F w r t s) (hr : F r) (ht : F t) (hFB : ∀ k, F k → k < w.heap.size) (hf : s.f = false) (ha : s.a = 1) (k : Nat) (hk : k < s.R.length) (A : Option Addr) (c : Nat) (d : List UInt8) (hd : BA F w A 64 d) (hc : 64 ≤ c) :
    Calls Tryd.prog 33 #[.pointer (some ⟨r, 0, none⟩), .int .i64 (k : Int), .slice A 64 c] w fun e w' => e = .returned (.int .i64 15) ∧ Rk F w' r t { s with R := s.R.set k (d.take s.b ++ (s.R.getD k []).drop s.b), f := true, a := 0 } ∧ Chg (PQ r t) w w' := by
  obtain ⟨i0, hi, hz0, hz1, hz2⟩ := info_parts Tryd.info5
  obtain ⟨cap, hcap, c0, c1, c2, c3, c4, fz⟩ := h.cells
  rw [hf] at c1
  have f2 := fz 2
  have hal : s.a ≤ 9223372036854775807 := h.ok.2.2.2.1
  rw [ha] at c2
  
  have hb64 : s.b ≤ 64 := h.ok.2.1
  have hki : (k : Int) < s.R.length := by omega
  have hkk : (0 : Int) ≤ k := by omega
  have hn : s.R.length ≤ 65536 := h.ok.2.2.1
  have hbb : ((s.b : Nat) : Int) ≤ 64 := by omega
  have hbc : ((s.b : Nat) : Int) ≤ (c : Int) := by omega
  have hb0 : (0 : Int) ≤ (s.b : Int) := by omega
  have HF2 := Lib.hid (show ∀ k, PQ r t k → F k from fun k e => by rcases e with e | e <;> rw [e] <;> assumption)
  obtain ⟨db, doff, rfl⟩ := hd.at.some (by decide)
  obtain ⟨cap2, cur, g1, g2, g3, g4, g5, g6, g7⟩ := h
  have HH := Lib.hid (show Rk F w r t s from ⟨cap2, cur, g1, g2, g3, g4, g5, g6, g7⟩)
  have c0 : w.cell? ⟨r, 0, none⟩ = some (.slice (some ⟨t, 0, none⟩) s.R.length cap2) := g1.cell 0
  obtain ⟨A9, c9, e9, h9, h9', b9⟩ := g5 k hk
  have e9' : w.cell? ⟨t, k, none⟩ = some (.slice A9 64 c9) := (g2.cell k).trans e9
  obtain ⟨ob, ooff, rfl⟩ := b9.at.some (by decide)
  have hbc9 : ((s.b : Nat) : Int) ≤ (c9 : Int) := by omega
  have hrl : r < w.heap.size := g1.lt
  have htl : t < w.heap.size := g2.lt
  have HG2 := Lib.hid (show Blk (w.drew.alloc (.cells #[] 5)) t 36 cur from g2.alloc (.cells #[] 5))
  have HG1 := Lib.hid (show Blk (w.drew.alloc (.cells #[] 5)) r 71 _ from g1.alloc (.cells #[] 5))
  have HSRC := Lib.hid (show Src Tryd.prog 1 36 (.slice (some ⟨db, doff, none⟩) s.b c) s.b (bc (d.take s.b)) (w.drew.alloc (.cells #[] 5)) from src_at (c := c) ((hd.at.below ((below_drew (Below.refl _ w)).alloc (Nat.le_refl _) (.cells #[] 5))).take hb64))
  have HB9 := Lib.hid b9
  have HFB := Lib.hid hFB
  have HBD := Lib.hid hd
  have HTL : Hid ((d.take s.b).length = s.b) := Lib.hid (by rw [List.length_take, hd.1]; omega)
  have HOL : Hid (((s.R.getD k []).drop s.b).length = 64 - s.b) := Lib.hid (by rw [List.length_drop, b9.1])
  have SR2 := Lib.hid (fun (W : World) (hW : Below w.heap.size w W) => show Src Tryd.prog 1 36 (.slice (if c9 = s.b then some ⟨ob, ooff, none⟩ else some ⟨ob, ooff + s.b, none⟩) (64 - s.b) (c9 - s.b)) (64 - s.b) (bc ((s.R.getD k []).drop s.b)) W from by
    split
    · exact src_at (BytesAt.nil2 W _ _ (by omega) (by rw [HOL.out]; omega))
    · exact src_at ((HB9.out.at.below hW).drop hb64))
  have HRES : Hid (d.take s.b ++ (s.R.getD k []).drop s.b = d.take s.b ++ (s.R.getD k []).drop s.b) := Lib.hid rfl
  clear g1 g2 g3 g4 g5 g6 g7 b9 hd hFB hf fz ha
  generalize d.take s.b = tk at *
  generalize (s.R.getD k []).drop s.b = od at *
  go_enter Tryd.func33, Tryd.ntmps33
  go_wp2_with fail
  refine wp_region_mix 27 (fun w' => w'.cell? ⟨r, 0, none⟩ = some (.slice (some ⟨t, 0, none⟩) s.R.length cap2) ∧ w'.cell? ⟨r, 3, none⟩ = some (.int .i64 (s.b : Int)) ∧ w'.cell? ⟨t, k, none⟩ = some (.slice (some ⟨ob, ooff, none⟩) 64 c9)) (by kernel_rfl) (by decide) ?_
  have hS0 : (fun w' => w'.cell? ⟨r, 0, none⟩ = some (.slice (some ⟨t, 0, none⟩) s.R.length cap2) ∧ w'.cell? ⟨r, 3, none⟩ = some (.int .i64 (s.b : Int)) ∧ w'.cell? ⟨t, k, none⟩ = some (.slice (some ⟨ob, ooff, none⟩) 64 c9)) w.drew := ⟨c0, c3, e9'⟩
  refine wpM_take (i := 0) (oi := ⟨some 32, _, _, _, _, _⟩) (v := ?_) rfl (by decide +kernel) (by decide +kernel) (by decide +kernel) (fun _ _ _ h => h) (Or.inl ⟨by rfl, ?_⟩) hS0 ?_
  case refine_2 => (intro w hSw; (try dsimp only at hSw); go_simp; try (with_reducible rfl))
  simp only [Act.put, List.setIfInBounds_toArray, List.set_cons_zero, List.set_cons_succ]
  refine wpM_take (i := 1) (oi := ⟨some 33, _, _, _, _, _⟩) (v := ?_) rfl (by decide +kernel) (by decide +kernel) (by decide +kernel) (fun _ _ _ h => h) (Or.inl ⟨by rfl, ?_⟩) hS0 ?_
  case refine_2 => (intro w hSw; (try dsimp only at hSw); go_simp; try (with_reducible rfl))
  simp only [Act.put, List.setIfInBounds_toArray, List.set_cons_zero, List.set_cons_succ]
  refine wpM_take (i := 2) (oi := ⟨some 34, _, _, _, _, _⟩) (v := ?_) rfl (by decide +kernel) (by decide +kernel) (by decide +kernel) (fun _ _ _ h => h) (Or.inl ⟨by rfl, ?_⟩) hS0 ?_
  case refine_2 => (intro w hSw; (try dsimp only at hSw); go_simp; try (with_reducible rfl))
  simp only [Act.put, List.setIfInBounds_toArray, List.set_cons_zero, List.set_cons_succ]
  refine wpM_take (i := 3) (oi := ⟨some 35, _, _, _, _, _⟩) (v := ?_) rfl (by decide +kernel) (by decide +kernel) (by decide +kernel) (fun _ _ _ h => h) (Or.inl ⟨by rfl, ?_⟩) hS0 ?_
  case refine_2 => (intro w hSw; (try dsimp only at hSw); go_simp; try (with_reducible rfl))
  simp only [Act.put, List.setIfInBounds_toArray, List.set_cons_zero, List.set_cons_succ]
  refine wpM_take (i := 4) (oi := ⟨some 36, _, _, _, _, _⟩) (v := ?_) rfl (by decide +kernel) (by decide +kernel) (by decide +kernel) (fun _ _ _ h => h) (Or.inl ⟨by rfl, ?_⟩) hS0 ?_
  case refine_2 => (intro w hSw; (try dsimp only at hSw); go_simp; try (with_reducible rfl))
  simp only [Act.put, List.setIfInBounds_toArray, List.set_cons_zero, List.set_cons_succ]
  refine wpM_take (i := 6) (oi := ⟨some 38, _, _, _, _, _⟩) (v := ?_) rfl (by decide +kernel) (by decide +kernel) (by decide +kernel) (fun _ _ _ h => h) (Or.inl ⟨by rfl, ?_⟩) hS0 ?_
  case refine_2 => (intro w hSw; (try dsimp only at hSw); go_simp; try (with_reducible rfl))
  simp only [Act.put, List.setIfInBounds_toArray, List.set_cons_zero, List.set_cons_succ]
  refine wpM_take (i := 7) (oi := ⟨some 39, _, _, _, _, _⟩) (v := ?_) rfl (by decide +kernel) (by decide +kernel) (by decide +kernel) (fun _ _ _ h => h) (Or.inl ⟨by rfl, ?_⟩) hS0 ?_
  case refine_2 => (intro w hSw; (try dsimp only at hSw); go_simp; try (with_reducible rfl))
  simp only [Act.put, List.setIfInBounds_toArray, List.set_cons_zero, List.set_cons_succ]
  refine wpM_take (i := 8) (oi := ⟨some 40, _, _, _, _, _⟩) (v := ?_) rfl (by decide +kernel) (by decide +kernel) (by decide +kernel) (fun _ _ _ h => h) (Or.inl ⟨by rfl, ?_⟩) hS0 ?_
  case refine_2 => (intro w hSw; (try dsimp only at hSw); go_simp; try (with_reducible rfl))
  simp only [Act.put, List.setIfInBounds_toArray, List.set_cons_zero, List.set_cons_succ]
  refine wpM_take (i := 9) (oi := ⟨some 41, _, _, _, _, _⟩) (v := ?_) rfl (by decide +kernel) (by decide +kernel) (by decide +kernel) (fun _ _ _ h => h) (Or.inl ⟨by rfl, ?_⟩) hS0 ?_
  case refine_2 => (intro w hSw; (try dsimp only at hSw); go_simp; try (with_reducible rfl))
  simp only [Act.put, List.setIfInBounds_toArray, List.set_cons_zero, List.set_cons_succ]
  refine wpM_take (i := 10) (oi := ⟨some 42, _, _, _, _, _⟩) (v := ?_) rfl (by decide +kernel) (by decide +kernel) (by decide +kernel) (fun _ _ _ h => h) (Or.inl ⟨by rfl, ?_⟩) hS0 ?_
  case refine_2 => (intro w hSw; (try dsimp only at hSw); go_simp; try (with_reducible rfl))
  simp only [Act.put, List.setIfInBounds_toArray, List.set_cons_zero, List.set_cons_succ]
  refine wpM_take (i := 11) (oi := ⟨some 43, _, _, _, _, _⟩) (v := ?_) rfl (by decide +kernel) (by decide +kernel) (by decide +kernel) (fun _ _ _ h => h) (Or.inl ⟨by rfl, ?_⟩) hS0 ?_
  case refine_2 => (intro w hSw; (try dsimp only at hSw); go_simp; try (with_reducible rfl))
  simp only [Act.put, List.setIfInBounds_toArray, List.set_cons_zero, List.set_cons_succ]
  refine wpM_take (i := 13) (oi := ⟨some 45, _, _, _, _, _⟩) (v := ?_) rfl (by decide +kernel) (by decide +kernel) (by decide +kernel) (fun _ _ _ h => h) (Or.inl ⟨by rfl, ?_⟩) hS0 ?_
  case refine_2 => (intro w hSw; (try dsimp only at hSw); go_simp; try (with_reducible rfl))
  simp only [Act.put, List.setIfInBounds_toArray, List.set_cons_zero, List.set_cons_succ]
  refine wpM_take (i := 14) (oi := ⟨some 46, _, _, _, _, _⟩) (v := ?_) rfl (by decide +kernel) (by decide +kernel) (by decide +kernel) (fun _ _ _ h => h) (Or.inl ⟨by rfl, ?_⟩) hS0 ?_
  case refine_2 => (intro w hSw; (try dsimp only at hSw); go_simp; try (with_reducible rfl))
  simp only [Act.put, List.setIfInBounds_toArray, List.set_cons_zero, List.set_cons_succ]
  refine wpM_take (i := 15) (oi := ⟨some 47, _, _, _, _, _⟩) (v := ?_) rfl (by decide +kernel) (by decide +kernel) (by decide +kernel) (fun _ _ _ h => h) (Or.inl ⟨by rfl, ?_⟩) hS0 ?_
  case refine_2 => (intro w hSw; (try dsimp only at hSw); go_simp; try (with_reducible rfl))
  simp only [Act.put, List.setIfInBounds_toArray, List.set_cons_zero, List.set_cons_succ]
  refine wpM_take (i := 16) (oi := ⟨some 48, _, _, _, _, _⟩) (v := ?_) rfl (by decide +kernel) (by decide +kernel) (by decide +kernel) (fun _ _ _ h => h) (Or.inl ⟨by rfl, ?_⟩) hS0 ?_
  case refine_2 => (intro w hSw; (try dsimp only at hSw); go_simp; try (with_reducible rfl))
  simp only [Act.put, List.setIfInBounds_toArray, List.set_cons_zero, List.set_cons_succ]
  refine wpM_take (i := 17) (oi := ⟨some 49, _, _, _, _, _⟩) (v := ?_) rfl (by decide +kernel) (by decide +kernel) (by decide +kernel) (fun _ _ _ h => h) (Or.inl ⟨by rfl, ?_⟩) hS0 ?_
  case refine_2 => (intro w hSw; (try dsimp only at hSw); go_simp; try (with_reducible rfl))
  simp only [Act.put, List.setIfInBounds_toArray, List.set_cons_zero, List.set_cons_succ]
  refine wpM_take (i := 18) (oi := ⟨some 50, _, _, _, _, _⟩) (v := ?_) rfl (by decide +kernel) (by decide +kernel) (by decide +kernel) (fun _ _ _ h => h) (Or.inl ⟨by rfl, ?_⟩) hS0 ?_
  case refine_2 => (intro w hSw; (try dsimp only at hSw); go_simp; try (with_reducible rfl))
  simp only [Act.put, List.setIfInBounds_toArray, List.set_cons_zero, List.set_cons_succ]
  refine wpM_take (i := 19) (oi := ⟨some 51, _, _, _, _, _⟩) (v := ?_) rfl (by decide +kernel) (by decide +kernel) (by decide +kernel) (fun _ _ _ h => h) (Or.inl ⟨by rfl, ?_⟩) hS0 ?_
  case refine_2 => (intro w hSw; (try dsimp only at hSw); go_simp; try (with_reducible rfl))
  simp only [Act.put, List.setIfInBounds_toArray, List.set_cons_zero, List.set_cons_succ]
  refine wpM_take (i := 20) (oi := ⟨some 52, _, _, _, _, _⟩) (v := ?_) rfl (by decide +kernel) (by decide +kernel) (by decide +kernel) (fun _ _ _ h => h) (Or.inl ⟨by rfl, ?_⟩) hS0 ?_
  case refine_2 => (intro w hSw; (try dsimp only at hSw); go_simp; try (with_reducible rfl))
  simp only [Act.put, List.setIfInBounds_toArray, List.set_cons_zero, List.set_cons_succ]
  refine wpM_take (i := 21) (oi := ⟨some 53, _, _, _, _, _⟩) (v := ?_) rfl (by decide +kernel) (by decide +kernel) (by decide +kernel) (fun _ _ _ h => h) (Or.inl ⟨by rfl, ?_⟩) hS0 ?_
  case refine_2 => (intro w hSw; (try dsimp only at hSw); go_simp; try (with_reducible rfl))
  simp only [Act.put, List.setIfInBounds_toArray, List.set_cons_zero, List.set_cons_succ]
  refine wpM_take (i := 22) (oi := ⟨some 54, _, _, _, _, _⟩) (v := ?_) rfl (by decide +kernel) (by decide +kernel) (by decide +kernel) (fun _ _ _ h => h) (Or.inl ⟨by rfl, ?_⟩) hS0 ?_
  case refine_2 => (intro w hSw; (try dsimp only at hSw); go_simp; try (with_reducible rfl))
  simp only [Act.put, List.setIfInBounds_toArray, List.set_cons_zero, List.set_cons_succ]
  refine wpM_take (i := 23) (oi := ⟨some 55, _, _, _, _, _⟩) (v := ?_) rfl (by decide +kernel) (by decide +kernel) (by decide +kernel) (fun _ _ _ h => h) (Or.inl ⟨by rfl, ?_⟩) hS0 ?_
  case refine_2 => (intro w hSw; (try dsimp only at hSw); go_simp; try (with_reducible rfl))
  simp only [Act.put, List.setIfInBounds_toArray, List.set_cons_zero, List.set_cons_succ]
  refine wpM_take (i := 24) (oi := ⟨some 56, _, _, _, _, _⟩) (v := ?_) rfl (by decide +kernel) (by decide +kernel) (by decide +kernel) (fun _ _ _ h => h) (Or.inl ⟨by rfl, ?_⟩) hS0 ?_
  case refine_2 => (intro w hSw; (try dsimp only at hSw); go_simp; try (with_reducible rfl))
  simp only [Act.put, List.setIfInBounds_toArray, List.set_cons_zero, List.set_cons_succ]
  refine wpM_step (i := 5) (o := ⟨some 37, _, _, _, _, _⟩) rfl (by decide +kernel) (by decide) (fun K hK => ?_)
  go_simp
  refine hK.out _ _ ⟨pastcell c0, pastcell c3, pastcell e9'⟩ ?_
  clear hK K
  try simp only [Act.put, List.setIfInBounds_toArray, List.set_cons_zero, List.set_cons_succ]
  refine wpM_step (i := 12) (o := ⟨some 44, _, _, _, _, _⟩) rfl (by decide +kernel) (by decide) (fun K hK => ?_)
  refine step_app rfl (.tmp 37) (.tmp 43) 36 36 rfl w.heap.size _ _ 5 i0 Tryd.underlying36 hi hz0 hz1 hz2 _ [] rfl (Grows.refl (E := 5) (l := []) (own_empty w.drew) (by simp)) _ s.b tk rfl HSRC.out (by simp; omega) ?_
  intro v2 w2 G2 z2 k2
  obtain ⟨A2, c2', rfl, hb2, hc2, hc3⟩ := own_bytes3 G2.1 HFB.out
  have bt := k2 t 36 cur (by decide) HG2.out
  have ct' := (bt.cell k).trans e9
  have br := k2 r 71 _ (by decide) HG1.out
  have c0' : w2.cell? ⟨r, 0, none⟩ = some (.slice (some ⟨t, 0, none⟩) s.R.length cap2) := br.cell 0
  have c3' : w2.cell? ⟨r, 3, none⟩ = some (.int .i64 (s.b : Int)) := br.cell 3
  have HB2 := Lib.hid (((below_drew (Below.refl w.heap.size w)).alloc (Nat.le_refl _) (.cells #[] 5)).trans (G2.below_of (own_empty w.drew) (by simp)))
  refine hK.out _ _ ⟨c0', c3', ct'⟩ ?_
  clear hK K
  simp only [Act.put, List.setIfInBounds_toArray, List.set_cons_zero, List.set_cons_succ]
  refine wpM_step (i := 25) (o := ⟨some 57, _, _, _, _, _⟩) rfl (by decide +kernel) (by decide) (fun K hK => ?_)
  refine step_app rfl (.tmp 44) (.tmp 56) 36 36 rfl w.heap.size _ _ 5 i0 Tryd.underlying36 hi hz0 hz1 hz2 _ tk rfl G2 _ (64 - s.b) od rfl (SR2.out _ HB2.out) (by rw [HTL.out]; omega) ?_
  intro v3 w3 G3 z3 k3
  obtain ⟨A3, c3'', rfl, hb3, hc4, hc5⟩ := own_bytes3 G3.1 HFB.out
  have bt3 := k3 t 36 cur (by decide) bt
  have ct3 := (bt3.cell k).trans e9
  have ft3 := Joins.unfrozen_of_block bt3 k
  have br3 := k3 r 71 _ (by decide) br
  have c03 : w3.cell? ⟨r, 0, none⟩ = some (.slice (some ⟨t, 0, none⟩) s.R.length cap2) := br3.cell 0
  have c33 : w3.cell? ⟨r, 3, none⟩ = some (.int .i64 (s.b : Int)) := br3.cell 3
  refine hK.out _ _ ⟨c03, c33, ct3⟩ ?_
  clear hK K
  simp only [Act.put, List.setIfInBounds_toArray, List.set_cons_zero, List.set_cons_succ]
  refine wpM_take (i := 26) (oi := ⟨some 58, _, _, _, _, _⟩) (v := ?_) rfl (by decide +kernel) (by decide +kernel) (by decide +kernel) (fun _ _ _ h => h) (Or.inl ⟨by rfl, ?_⟩) ⟨c03, c33, ct3⟩ ?_
  case refine_2 => (intro w hSw; (try dsimp only at hSw); go_simp; try (with_reducible rfl))
  simp only [Act.put, List.setIfInBounds_toArray, List.set_cons_zero, List.set_cons_succ]
  refine wpM_done (by decide +kernel) ?_
  have HB3 := Lib.hid (((below_drew (Below.refl w.heap.size w)).alloc (Nat.le_refl _) (.cells #[] 5)).trans (G3.below_of (own_empty w.drew) (by simp)))
  have HLN : Hid (tk.length + od.length = 64) := Lib.hid (by rw [HTL.out, HOL.out]; omega)
  clear G2 G3 z2 z3 k2 k3 hb2 hc2 hc3 bt br HG1 HG2 HSRC SR2 c0' c3' ct' hS0 c0 c3
  simp only [List.drop_succ_cons, List.drop_zero]
  simp only [List.length_append, HLN.out] at hb3 hc4
  try simp only [List.length_append, HLN.out]
  have HK3 := Lib.hid ((HH.out.below HB3.out).setSec ht k (by omega) hb3 hc4 hc5)
  have HC3 := Lib.hid (show Chg (PQ r t) w (w3.setCell ⟨t, k, none⟩ (.slice A3 64 c3'')) from (Chg.of_below HB3.out).set_ (.inr rfl))
  clear hb3 HB3
  go_wp2_with (go_at_call 31; refine (RFail_any F _ r t _ HK3.out hr).mono ?_; rintro e w4 ⟨rfl, hd4, hc4'⟩; have HD4 := Lib.hid hd4; have HC4 := Lib.hid (HC3.out.trans hc4'); clear hd4 hc4')
  all_goals go_ret
  all_goals exact ⟨rfl, HD4.out, HC4.out⟩
end Go.Proofs.YthhpilkhcomhbaaDoor
