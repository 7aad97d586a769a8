/- The bytes of a sector. -/
import Derived.Test.YtgpofkabidginaaWlk
namespace Go.Proofs.Ytgpofkabidginaa
open Go.ChangeShapes Go.WideShapes Go.ChangeAt Go.RowKit Go.ChangeMaps

set_option maxRecDepth 100000 in
set_option maxHeartbeats 1000000 in
theorem sec_any (F : Nat → Prop) (w : World) (g p : Nat) (L : Lg) (h : Lk F w g p L) (he : L.e < 4294967296) (A : Option Addr) (n c : Nat) (d : List UInt8) (hd : BytesAt w A n d) (hn : n ≤ 59) :
    Calls Try.prog 47 #[.pointer (some ⟨g, 0, none⟩), .slice A n c] w fun e w' => e = .returned (.slice (some ⟨w.heap.size, 0, none⟩) 64 64) ∧ Blk w' w.heap.size 5 (bc (wsec L.e d)).toArray ∧ Below w.heap.size w w' := by
  obtain ⟨A0, cap0, hblk, -⟩ := h
  have c3 : w.cell? ⟨g, 3, none⟩ = some (.int .u32 (L.e : Int)) := hblk.cell 3
  have hgl : g < w.heap.size := hblk.lt
  have hdl : d.length = n := hd.1
  generalize L.e = ep at *
  clear hblk
  obtain ⟨cs, hcs, hmk⟩ := make64
  have HK0 := Lib.hid (show Blk (w.alloc (.cells cs 5)) w.heap.size 5 (bc zeros).toArray from by rw [hcs.out]; exact Blk.new _ _ _)
  clear hcs
  obtain ⟨W0, hW0⟩ : ∃ W, W = w.alloc (.cells cs 5) := ⟨_, rfl⟩
  have HB0 := Lib.hid (show Below w.heap.size w W0 from by rw [hW0]; exact (Below.refl _ w).alloc (Nat.le_refl _) _)
  rw [← hW0] at HK0
  obtain ⟨kv, W1, qc, hk1, hb1, hc1⟩ := copy_blk (c := c) (o := 0) 64 rfl HK0.out HB0.out (Nat.le_refl _) (hd.below HB0.out) (by omega)
  rw [hW0] at qc
  have c3a : W1.cell? ⟨g, 3, none⟩ = some (.int .u32 (ep : Int)) := keepcell hb1 c3
  have hs1 : w.heap.size < W1.heap.size := hk1.lt
  have hz64 : (splice zeros 0 d).length = 64 := by unfold splice zeros; simp; omega
  have c59 : ∃ u, W1.cell? ⟨w.heap.size, 59, none⟩ = some u := ⟨_, (hk1.cell 59).trans (Array.getElem?_eq_getElem (by rw [List.size_toArray, bc_len]; omega))⟩
  obtain ⟨u59, c59⟩ := c59
  have f59 : W1.frozen? ⟨w.heap.size, 59, none⟩ = false := Joins.unfrozen_of_block hk1 59
  have hk2 := Joins.block_setCell hk1 (i := 59) (.int .u8 (n : Int))
  rw [bc_setI _ _ n (by omega)] at hk2
  have hb2 : Below w.heap.size w (W1.setCell ⟨w.heap.size, 59, none⟩ (.int .u8 (n : Int))) := hb1.setCell (Nat.le_refl _) _
  have c3b : (W1.setCell ⟨w.heap.size, 59, none⟩ (.int .u8 (n : Int))).cell? ⟨g, 3, none⟩ = some (.int .u32 (ep : Int)) := keepcell hb2 c3
  obtain ⟨W2, hW2⟩ : ∃ W, W = W1.setCell ⟨w.heap.size, 59, none⟩ (.int .u8 (n : Int)) := ⟨_, rfl⟩
  rw [← hW2] at hk2 hb2 c3b
  have HK2 := Lib.hid hk2
  have HB2 := Lib.hid hb2
  have HD := Lib.hid hdl
  have c3d : W2.drew.cell? ⟨g, 3, none⟩ = some (.int .u32 (ep : Int)) := c3b
  have HZ := Lib.hid hz64
  clear hz64 hk1 hb1 hc1 hd hk2 hb2 HK0 HB0 hdl
  have HW2 := Lib.hid hW2
  clear hW2
  have hw0 := hW0
  clear hW0
  go_enter Try.func47, Try.ntmps47
  go_wp2
  rw [← HW2.out]
  refine wp_region_mix 7 (fun w' => w'.cell? ⟨g, 3, none⟩ = some (.int .u32 (ep : Int))) (by kernel_rfl) (by decide) ?_
  refine wpM_take (i := 0) (oi := ⟨some 15, _, _, _, _, _⟩) (v := ?_) rfl (by decide +kernel) (by decide +kernel) (by decide +kernel) (fun _ _ _ h => h) (Or.inl ⟨by rfl, ?_⟩) c3d ?_
  case refine_2 => (intro w hSw; (try dsimp only at hSw); go_simp; try (with_reducible rfl))
  try simp only [Act.put, List.setIfInBounds_toArray, List.set_cons_zero, List.set_cons_succ]
  refine wpM_take (i := 1) (oi := ⟨some 16, _, _, _, _, _⟩) (v := ?_) rfl (by decide +kernel) (by decide +kernel) (by decide +kernel) (fun _ _ _ h => h) (Or.inl ⟨by rfl, ?_⟩) c3d ?_
  case refine_2 => (intro w hSw; (try dsimp only at hSw); go_simp; try (with_reducible rfl))
  try simp only [Act.put, List.setIfInBounds_toArray, List.set_cons_zero, List.set_cons_succ]
  refine wpM_take (i := 2) (oi := ⟨some 17, _, _, _, _, _⟩) (v := ?_) rfl (by decide +kernel) (by decide +kernel) (by decide +kernel) (fun _ _ _ h => h) (Or.inl ⟨by rfl, ?_⟩) c3d ?_
  case refine_2 => (intro w hSw; (try dsimp only at hSw); go_simp; try (with_reducible rfl))
  try simp only [Act.put, List.setIfInBounds_toArray, List.set_cons_zero, List.set_cons_succ]
  refine wpM_take (i := 3) (oi := ⟨some 18, _, _, _, _, _⟩) (v := ?_) rfl (by decide +kernel) (by decide +kernel) (by decide +kernel) (fun _ _ _ h => h) (Or.inl ⟨by rfl, ?_⟩) c3d ?_
  case refine_2 => (intro w hSw; (try dsimp only at hSw); go_simp; try (with_reducible rfl))
  try simp only [Act.put, List.setIfInBounds_toArray, List.set_cons_zero, List.set_cons_succ]
  refine wpM_take (i := 4) (oi := ⟨some 19, _, _, _, _, _⟩) (v := ?_) rfl (by decide +kernel) (by decide +kernel) (by decide +kernel) (fun _ _ _ h => h) (Or.inl ⟨by rfl, ?_⟩) c3d ?_
  case refine_2 => (intro w hSw; (try dsimp only at hSw); go_simp; try (with_reducible rfl))
  try simp only [Act.put, List.setIfInBounds_toArray, List.set_cons_zero, List.set_cons_succ]
  refine wpM_take (i := 5) (oi := ⟨some 20, _, _, _, _, _⟩) (v := ?_) rfl (by decide +kernel) (by decide +kernel) (by decide +kernel) (fun _ _ _ h => h) (Or.inl ⟨by rfl, ?_⟩) c3d ?_
  case refine_2 => (intro w hSw; (try dsimp only at hSw); go_simp; try (with_reducible rfl))
  try simp only [Act.put, List.setIfInBounds_toArray, List.set_cons_zero, List.set_cons_succ]
  refine wpM_step (i := 6) (o := ⟨some 21, _, _, _, _, _⟩) rfl (by decide +kernel) (by decide) (fun K hK => ?_)
  go_simp
  go_at_call 46
  refine (numB_any _ ep he).mono ?_
  rintro e W3 ⟨rfl, hk3, hb3⟩
  have c3e := keepcell hb3 c3d
  have HB3 := Lib.hid (show Below w.heap.size w W3 from (below_drew HB2.out).trans (hb3.mono (by exact HB2.out.size)))
  have HK3 := Lib.hid (hk3)
  have HK2' := Lib.hid (show Blk W3 w.heap.size 5 _ from (show Blk W2.drew w.heap.size 5 _ from HK2.out).below hb3)
  refine hK.out _ _ c3e ?_
  clear hK K
  try simp only [Act.put, List.setIfInBounds_toArray, List.set_cons_zero, List.set_cons_succ]
  refine wpM_done (by decide +kernel) ?_
  simp only [List.drop_succ_cons, List.drop_zero]
  obtain ⟨kv2, W4, qc2, hk4, hb4, hc4⟩ := copy_blk (c := 4) (o := 60) 64 (by simp [HZ.out]) HK2'.out HB3.out (Nat.le_refl _) (bytes_of_blk HK3.out (nb4_len ep)) (by omega)
  rw [wsec_stepsN ep d HD.out hn] at hk4
  have HK4 := Lib.hid hk4
  have HB4 := Lib.hid hb4
  replace qc2 : (Builtin.copy_ #[38, 38] 3 #[.slice (some ⟨w.heap.size, 60, none⟩) 4 4, .slice (some ⟨W2.heap.size, 0, none⟩) 4 4]).run Try.prog W3 = .ok kv2 W4 := qc2
  clear hk4 hb4 hc4
  go_wp2
  go_ret
  exact ⟨rfl, HK4.out, HB4.out⟩
end Go.Proofs.Ytgpofkabidginaa
