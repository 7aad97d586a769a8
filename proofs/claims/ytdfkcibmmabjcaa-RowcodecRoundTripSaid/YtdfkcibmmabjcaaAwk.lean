/- The function awake of the laws of this layer returns true. -/
import Derived.Test.YtdfkcibmmabjcaaVal
import Derived.Test.YtdfkcibmmabjcaaHas
namespace Go.Proofs.Ytdfkcibmmabjcaa
open Go.ChangeShapes Go.WideShapes Go.ChangeAt Go.RowKit

theorem End_ex (w : World) : Calls Try.prog 25 #[.string ⟨#[97, 255]⟩] w fun e w' => e = .returned (.tuple #[.string ⟨#[98]⟩, .bool true]) ∧ Below w.heap.size w w' := End_any ⟨#[97, 255]⟩ w (by decide)
theorem Number_ex (w : World) : Calls Try.prog 27 #[.int .i64 (-1)] w fun e w' => e = .returned (.string ⟨#[127, 255, 255, 255, 255, 255, 255, 255]⟩) ∧ Below w.heap.size w w' := Number_any (-1) w (by decide) (by decide)
def ApdEx (w : World) (e : Ending) (w' : World) : Prop := ∃ v', e = .returned v' ∧ Below w.heap.size w w' ∧ (convert 28 9 v').run Try.prog w' = .ok (.string ⟨#[3, 97, 98, 0]⟩) w'
theorem Encode_ex (w : World) : Calls Try.prog 13 #[.agg #[.int .i64 2, .int .i64 0, .string ⟨#[97, 98]⟩]] w (ApdEx w) :=
  (Encode_any 2 0 ⟨#[97, 98]⟩ w (by decide) (by decide) (by decide)).mono fun _ w' ⟨v', he, G⟩ =>
    ⟨v', he, G.is_below rfl, run_string_own w' 28 9 5 w.heap.size v' [3, 97, 98, 0] Try.underlying28 Try.underlying5 Try.underlying9 G.1⟩

theorem awake_any (w : World) : Calls Try.prog 11 #[] w fun e w' => e = .returned (.bool true) ∧ Below w.heap.size w w' := by
  go_enter Try.func11, Try.ntmps11
  go_wp2_with (first
    | (go_at_call 25; refine (End_ex _).mono ?_; rintro e w1 ⟨rfl, h1⟩)
    | (go_at_call 13; refine (Encode_ex _).mono ?_; rintro e w2 ⟨v2, rfl, h2, hc⟩)
    | (go_at_call 27; refine (Number_ex _).mono ?_; rintro e w3 ⟨rfl, h3⟩))
  go_ret
  exact ⟨rfl, (h1.trans (h2.mono h1.size)).trans (h3.mono (h1.trans (h2.mono h1.size)).size)⟩
end Go.Proofs.Ytdfkcibmmabjcaa
