/- Values compared. -/
import Derived.Test.YtkigdglipoeaaaaDoorVca
import Derived.StillTailTactics
namespace Go.Proofs.YtkigdglipoeaaaaDoor
open Go.ChangeShapes Go.WideShapes Go.ChangeAt Go.RowKit Go.ChangeMaps

set_option maxRecDepth 100000 in
set_option linter.unusedSimpArgs false in
theorem VCmp_any (k n : Int) (s : ByteArray) (k' n' : Int) (t : ByteArray) (w : World) :
    Calls Tryd.prog 15 #[.agg #[.int .i64 k, .int .i64 n, .string s], .agg #[.int .i64 k', .int .i64 n', .string t]] w fun e w' => e = .returned (.int .i64 (vcmp ⟨k, n, s⟩ ⟨k', n', t⟩)) ∧ Below w.heap.size w w' := by
  have H := Lib.hid (show vcmp ⟨k, n, s⟩ ⟨k', n', t⟩ = if icmp k k' ≠ 0 then icmp k k' else if icmp n n' ≠ 0 then icmp n n' else tcmp s.data.toList t.data.toList by
    unfold vcmp; simp only [ne_eq, icmp_zero])
  obtain ⟨r, hr⟩ : ∃ r, vcmp ⟨k, n, s⟩ ⟨k', n', t⟩ = r := ⟨_, rfl⟩
  rw [hr] at H ⊢
  clear hr
  have C1 := Lib.hid (fun w => Cmp3_any k k' w)
  have C2 := Lib.hid (fun w => Cmp64_any n n' w)
  have C3 := Lib.hid (fun w => StrCmp_any s t w)
  go_enter Tryd.func15, Tryd.ntmps15
  go_wp2_with fail
  obtain ⟨b, hb⟩ : ∃ b, w.heap.size = b := ⟨_, rfl⟩
  have B0 : Below b w ((w.alloc (.cells #[.int .i64 k, .int .i64 n, .string s] 23)).alloc (.cells #[.int .i64 k', .int .i64 n', .string t] 23)) := by
    rw [← hb]; exact ((Below.refl _ w).alloc (Nat.le_refl _) _).alloc (by simp) _
  have y0 : ((w.alloc (.cells #[.int .i64 k, .int .i64 n, .string s] 23)).alloc (.cells #[.int .i64 k', .int .i64 n', .string t] 23)).cell? ⟨b, 0, none⟩ = some (.int .i64 k) := pastcell (newcell 0 _ hb.symm rfl)
  have y1 : ((w.alloc (.cells #[.int .i64 k, .int .i64 n, .string s] 23)).alloc (.cells #[.int .i64 k', .int .i64 n', .string t] 23)).cell? ⟨b, 1, none⟩ = some (.int .i64 n) := pastcell (newcell 1 _ hb.symm rfl)
  have y2 : ((w.alloc (.cells #[.int .i64 k, .int .i64 n, .string s] 23)).alloc (.cells #[.int .i64 k', .int .i64 n', .string t] 23)).cell? ⟨b, 2, none⟩ = some (.string s) := pastcell (newcell 2 _ hb.symm rfl)
  have z0 : ((w.alloc (.cells #[.int .i64 k, .int .i64 n, .string s] 23)).alloc (.cells #[.int .i64 k', .int .i64 n', .string t] 23)).cell? ⟨b + 1, 0, none⟩ = some (.int .i64 k') := newcell 0 _ (by simp [hb]) rfl
  have z1 : ((w.alloc (.cells #[.int .i64 k, .int .i64 n, .string s] 23)).alloc (.cells #[.int .i64 k', .int .i64 n', .string t] 23)).cell? ⟨b + 1, 1, none⟩ = some (.int .i64 n') := newcell 1 _ (by simp [hb]) rfl
  have z2 : ((w.alloc (.cells #[.int .i64 k, .int .i64 n, .string s] 23)).alloc (.cells #[.int .i64 k', .int .i64 n', .string t] 23)).cell? ⟨b + 1, 2, none⟩ = some (.string t) := newcell 2 _ (by simp [hb]) rfl
  have s0 : b ≤ ((w.alloc (.cells #[.int .i64 k, .int .i64 n, .string s] 23)).alloc (.cells #[.int .i64 k', .int .i64 n', .string t] 23)).heap.size := by simp; omega
  rw [hb]
  generalize (w.alloc (.cells #[.int .i64 k, .int .i64 n, .string s] 23)).alloc (.cells #[.int .i64 k', .int .i64 n', .string t] 23) = W at *
  refine wp_region_still_tail 15 (by kernel_rfl) (by kernel_rfl) ?_
  simp only [List.take_succ_cons, List.take_zero, List.drop_succ_cons, List.drop_zero]
  have B1 : Below b w { heap := W.heap, tape := W.tape, drawn := W.drawn + 1, os := W.os, output := W.output } := ⟨B0.os, B0.tape, B0.output, B0.size, B0.block⟩
  obtain ⟨D, hD⟩ : ∃ D : World, ({ heap := W.heap, tape := W.tape, drawn := W.drawn + 1, os := W.os, output := W.output } : World) = D := ⟨_, rfl⟩
  have hc : ∀ a, D.cell? a = W.cell? a := fun a => by rw [← hD]; rfl
  rw [← hc] at y0 y1 y2 z0 z1 z2
  rw [show W.heap.size = D.heap.size by rw [← hD]] at s0
  clear hc
  rw [hD] at B1 ⊢
  clear hD B0
  repeat still_step
  still_call (C1.out _)
  repeat still_step
  still_call (C2.out _)
  repeat still_step
  still_call (C3.out _)
  refine wpStill_nil ?_
  go_wp2_with (go_at_call 36; refine (Or_any _ _ _ _ _ _ (newcell 0 _ rfl rfl) (newcell 1 _ rfl rfl) (newcell 2 _ rfl rfl) H.out).mono ?_; rintro e w' ⟨rfl, rfl⟩)
  go_ret
  exact ⟨rfl, by subst hb; exact B1.alloc s0 _⟩
end Go.Proofs.YtkigdglipoeaaaaDoor
