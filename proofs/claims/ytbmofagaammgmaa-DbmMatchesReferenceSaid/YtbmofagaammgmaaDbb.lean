/- Bound, where it refuses. -/
import Derived.Test.YtbmofagaammgmaaDbn
namespace Go.Proofs.Ytbmofagaammgmaa
open Go.ChangeShapes Go.WideShapes Go.ChangeAt Go.RowKit Go.ChangeMaps

theorem Bound_bad (w : World) (B g n : Nat) (s : St) (h : MX w B g n s) (i j : Int) (hbad : bad n i = true ∨ bad n j = true ∨ Uns s n) : Calls Try.prog 16 #[.pointer (some ⟨g, 0, none⟩), .int .i64 i, .int .i64 j] w fun e w' => e = .returned (.tuple #[.int .i64 0, .bool false]) ∧ Below w.heap.size w w' := by
  obtain ⟨bm, v, M, z, h1, -⟩ := h.all
  have HI := Lib.hid (has_any w g n _ _ _ h1 i)
  have HJ := Lib.hid (has_any w g n _ _ _ h1 j)
  have CU := Lib.hid (fun hu : Uns s n => Sat_uns w B g n s h hu)
  clear h h1
  unfold bad at hbad
  obtain ⟨bi, hbi⟩ : ∃ b, (decide (0 ≤ i) && decide (i ≤ (n : Int))) = b := ⟨_, rfl⟩
  obtain ⟨bj, hbj⟩ : ∃ b, (decide (0 ≤ j) && decide (j ≤ (n : Int))) = b := ⟨_, rfl⟩
  rw [hbi] at HI hbad
  rw [hbj] at HJ hbad
  clear hbi hbj
  cases bi
  · clear hbad
    go_enter Try.func16, Try.ntmps16
    go_wp2_with fail
    refine HI.out.mono ?_
    rintro e w1 ⟨rfl, hx⟩
    subst w1
    go_wp2
    go_ret2
    exact ⟨rfl, Below.refl _ _⟩
  · cases bj
    · clear hbad
      go_enter Try.func16, Try.ntmps16
      go_wp2_with fail
      refine HI.out.mono ?_
      rintro e w1 ⟨rfl, hx⟩
      subst w1
      go_wp2_with fail
      refine HJ.out.mono ?_
      rintro e w1 ⟨rfl, hx⟩
      subst w1
      go_wp2
      go_ret2
      exact ⟨rfl, Below.refl _ _⟩
    · have hu : Uns s n := by simpa using hbad
      have CS := Lib.hid (CU.out hu)
      clear hbad hu CU
      go_enter Try.func16, Try.ntmps16
      go_wp2_with fail
      refine HI.out.mono ?_
      rintro e w1 ⟨rfl, hx⟩
      subst w1
      go_wp2_with fail
      refine HJ.out.mono ?_
      rintro e w1 ⟨rfl, hx⟩
      subst w1
      go_wp2_with fail
      refine CS.out.mono ?_
      rintro e w2 ⟨rfl, hb⟩
      have HB := Lib.hid hb
      clear hb CS
      go_wp2
      go_ret2
      exact ⟨rfl, HB.out⟩
end Go.Proofs.Ytbmofagaammgmaa
