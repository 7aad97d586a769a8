/- The examples of the document. -/
import Derived.Test.YthageombfifffaaDoorFmt
import Derived.Test.YthageombfifffaaDoorRrb
namespace Go.Proofs.YthageombfifffaaDoor
open Go.ChangeShapes Go.WideShapes Go.ChangeAt Go.RowKit Go.ChangeMaps

def exL : List Act := [⟨3, 0, 2, 30⟩]
theorem ex_line : fmtL exL = [99, 114, 97, 115, 104, 32, 50, 32, 51, 48, 10] := by
  have e2 : Lib.itoa 2 = [50] := by
    unfold Lib.itoa; rw [if_neg (by decide)]; unfold Lib.decDigits; rfl
  have e30 : Lib.itoa 30 = [51, 48] := by
    unfold Lib.itoa; rw [if_neg (by decide)]
    show Lib.decDigits 30 = _
    unfold Lib.decDigits
    rw [dif_neg (by decide)]
    unfold Lib.decDigits
    rfl
  show lineS ⟨3, 0, 2, 30⟩ ++ [10] ++ [] = _
  unfold lineS
  simp only [e2, e30]
  rfl
theorem exL_at (w : World) : Acts (w.alloc (.cells #[.int .i64 3, .int .i64 0, .int .i64 2, .int .i64 30] 29)) (some ⟨w.heap.size, 0, none⟩) 1 exL := by
  refine ⟨rfl, fun _ => ⟨w.heap.size, 0, rfl, by simp, fun i h => ?_⟩⟩
  match i, h with
  | 0, _ => exact ⟨newcell 0 _ rfl rfl, newcell 1 _ rfl rfl, newcell 2 _ rfl rfl, newcell 3 _ rfl rfl⟩
theorem exL_ok : ∀ x ∈ exL, x.ok := by
  intro x hx
  simp only [exL, List.mem_singleton] at hx
  subst hx
  exact ⟨by simp, by simp, by simp, by simp, by simp, by simp, by simp, by simp⟩
set_option maxRecDepth 100000 in
set_option maxHeartbeats 1000000 in
theorem awake_any (w : World) (hE : Env w) : Calls Tryd.prog 10 #[] w fun e w' => e = .returned (.bool true) ∧ Below w.heap.size w w' := by
  have C1 := Lib.hid (fun w => RoundRobin_any 2 2 2 2 w rfl rfl)
  have C2 : ∀ w, Env w → Calls Tryd.prog 19 #[.slice (some ⟨w.heap.size, 0, none⟩) 1 1] (w.alloc (.cells #[.int .i64 3, .int .i64 0, .int .i64 2, .int .i64 30] 29)) fun e w' => e = .returned (.tuple #[.string ⟨#[99, 114, 97, 115, 104, 32, 50, 32, 51, 48, 10]⟩, .int .i64 0]) ∧ Below (w.alloc (.cells #[.int .i64 3, .int .i64 0, .int .i64 2, .int .i64 30] 29)).heap.size (w.alloc (.cells #[.int .i64 3, .int .i64 0, .int .i64 2, .int .i64 30] 29)) w' := fun w h => by
    have := Format_yes _ 1 1 exL _ (h.below ((Below.refl _ w).alloc (Nat.le_refl _) _)) (exL_at w) (by decide) exL_ok (by decide)
    rw [ex_line] at this; exact this
  have C2 := Lib.hid C2
  have HE := Lib.hid hE
  clear hE
  go_enter Tryd.func10, Tryd.ntmps10
  go_wp2_with fail
  refine (C1.out _).mono ?_
  rintro e w1 ⟨v, rfl, hown, hb1⟩
  obtain ⟨A, c, rfl, ha⟩ := Acts_own hown
  obtain ⟨b, off, rfl, hb, hc⟩ := ha.2 (by decide)
  have f0 := hc 0 (by decide)
  have f1 := hc 1 (by decide)
  have f2 := hc 2 (by decide)
  have f3 := hc 3 (by decide)
  have HA := Lib.hid ((Below.refl w1.heap.size w1).alloc (Nat.le_refl _) (.cells #[.int .i64 3, .int .i64 0, .int .i64 2, .int .i64 30] 29))
  have B1 := Lib.hid hb1
  clear ha hc hown hb1
  go_wp2_with fail
  refine (C2.out _ (HE.out.below B1.out)).mono ?_
  rintro e w2 ⟨rfl, hb2⟩
  have H2 := HA.out.trans (hb2.mono HA.out.size)
  have c01 : w2.cell? ⟨b, off + 1, none⟩ = some (.int .i64 0) := keepcell H2 f0.2.1
  have c11 : w2.cell? ⟨b, off + 4 + 1, none⟩ = some (.int .i64 1) := keepcell H2 f1.2.1
  have c21 : w2.cell? ⟨b, off + 8 + 1, none⟩ = some (.int .i64 0) := keepcell H2 f2.2.1
  have c30 : w2.cell? ⟨b, off + 12, none⟩ = some (.int .i64 1) := keepcell H2 f3.1
  have c31 : w2.cell? ⟨b, off + 12 + 1, none⟩ = some (.int .i64 1) := keepcell H2 f3.2.1
  have c32 : w2.cell? ⟨b, off + 12 + 2, none⟩ = some (.int .i64 0) := keepcell H2 f3.2.2.1
  have c33 : w2.cell? ⟨b, off + 12 + 3, none⟩ = some (.int .i64 0) := keepcell H2 f3.2.2.2
  have B2 := Lib.hid (B1.out.trans (H2.mono B1.out.size))
  clear f0 f1 f2 f3 H2 hb2
  go_wp2
  go_ret
  exact ⟨rfl, B2.out⟩
end Go.Proofs.YthageombfifffaaDoor
