/- Two equal lists of transactions. -/
import Derived.Test.YtgcjbpiofcggcaaMdl
import Derived.DeepKeys
namespace Go.Proofs.Ytgcjbpiofcggcaa
open Go.ChangeShapes Go.WideShapes Go.ChangeAt Go.RowKit Go.ChangeMaps

theorem Try.cells3 : Try.prog.cellsOf 3 = 1 := by kernel_rfl
theorem eq31 (x y a b : Int) (w : World) : (Op.equalIn 10000 31 (.agg #[.int .i64 x, .int .i64 y]) (.agg #[.int .i64 a, .int .i64 b])).run Try.prog w = .ok ((x == a) && (y == b)) w := by
  have hs : Try.prog.cellsOf 3 = 1 := Try.cells3
  have hu := Try.underlying31
  have hu3 := Try.underlying3
  have hz : ∀ w : World, (sizeOf 3).run Try.prog w = .ok 1 w := fun w => by kernel_rfl
  rw [show (10000 : Nat) = 9999 + 1 by rfl]
  unfold Op.equalIn
  have heq : ∀ (a b : Int) (w : World), (Op.equalIn 9999 3 (.int .i64 a) (.int .i64 b)).run Try.prog w = .ok (a == b) w := fun a b w => run_equalIn_int w 9998 3 .i64 .i64 a b hu3
  have hag : ∀ w : World, (isAgg 3).run Try.prog w = .ok false w := fun w => by kernel_rfl
  have l8 : List.range' 0 2 = [0, 1] := by decide
  simp only [run_underlying hu, Sem.run_bind, Result.andThen_ok, hz, Std.Legacy.Range.forIn_eq_forIn_range', Std.Legacy.Range.size]
  simp [l8, part, hag, heq]
  (repeat' split) <;> simp_all
theorem eq31same (x y : Int) (w : World) : (Op.equalIn 10000 31 (.agg #[.int .i64 x, .int .i64 y]) (.agg #[.int .i64 x, .int .i64 y])).run Try.prog w = .ok true w := by rw [eq31]; simp
set_option maxRecDepth 100000 in
theorem same_any (A : Option Addr) (n c : Nat) (D : Option Addr) (d : Nat) (L : List (Nat × Nat)) (w : World) (hr : At w A n 2 (pC L)) (hs : At w D n 2 (pC L)) (hL : L.length = n) (hn : n ≤ 9223372036854775807) :
    Calls Try.prog 10 #[.slice A n c, .slice D n d] w fun e w' => e = .returned (.bool true) ∧ Below w.heap.size w w' := by
  have HL := Lib.hid hL
  clear hL
  rcases Nat.eq_zero_or_pos n with h0 | h0
  · subst h0
    clear hr hs
    go_enter Try.func10, Try.ntmps10
    go_wp2
    refine wp_loop_rounds 1 ?_
    rw [rounds_succ]
    go_wp2
    go_ret
    exact ⟨rfl, Below.refl _ _⟩
  · obtain ⟨b, off, rfl, hb, hc⟩ := hr.2 h0
    obtain ⟨g, of2, rfl, hg, hc2⟩ := hs.2 h0
    clear hr hs
    go_enter Try.func10, Try.ntmps10
    go_wp2
    go_loopw [13] (fun i wr => ∃ k : Nat, k ≤ n ∧ i = .int .i64 k ∧ Below w.heap.size w wr) (fun i _ => n - (intOf i).toNat)
    case atStart => exact ⟨0, Nat.zero_le _, rfl, Below.refl _ _⟩
    case round =>
      obtain ⟨k, hk, rfl, hB⟩ := hrel
      by_cases hlt : k < n
      · have hkR : k < L.length := by rw [HL.out]; exact hlt
        have c0 := hc _ _ (pC_get0 L k hkR)
        have c1 := hc _ _ (pC_get1 L k hkR)
        have d0 := hc2 _ _ (pC_get0 L k hkR)
        have d1 := hc2 _ _ (pC_get1 L k hkR)
        rw [← Nat.add_assoc] at c1 d1
        have c0 := fun d os => cell_regrown ((hB.cell (p := ⟨b, off + k * 2, none⟩) hb).trans c0) d os
        have c1 := fun d os => cell_regrown ((hB.cell (p := ⟨b, off + k * 2 + 1, none⟩) hb).trans c1) d os
        have d0 := fun d os => cell_regrown ((hB.cell (p := ⟨g, of2 + k * 2, none⟩) hg).trans d0) d os
        have d1 := fun d os => cell_regrown ((hB.cell (p := ⟨g, of2 + k * 2 + 1, none⟩) hg).trans d1) d os
        have HB := Lib.hid hB
        clear hB hc hc2
        generalize L[k] = x at *
        rcases x with ⟨x0, x1⟩
        simp only at c0 c1 d0 d1
        have q31 := eq31same (x0 : Int) (x1 : Int)
        go_wp2
        refine wp_region_quiet_below (by kernel_rfl) (by kernel_rfl) ?_
        repeat (go_big_quiet_step (fail))
        refine wpQuiet_nil ?_
        intro _ hw'
        obtain ⟨⟨dq, osq⟩, hw''⟩ := hw'
        subst hw''
        have HB2 := Lib.hid (more_below HB.out (below_regrown wr dq osq))
        go_wp2
        go_roundw
        case rel => exact ⟨k + 1, by omega, by go_num, HB2.out⟩
        case measure => simp [intOf]; omega
      · obtain rfl : k = n := by omega
        have HB := Lib.hid hB
        clear hB hc hc2
        go_wp2
        go_ret
        exact ⟨rfl, HB.out⟩
end Go.Proofs.Ytgcjbpiofcggcaa
