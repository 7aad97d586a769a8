/- Comparing an array of eight bytes with zeros. -/
import Derived.Test.YtpnemkphdminnaaDoorEnv
import Derived.DeepKeys
namespace Go.Proofs.YtpnemkphdminnaaDoor
open Go.ChangeShapes Go.WideShapes Go.ChangeAt Go.RowKit Go.ChangeMaps

theorem eq36 (x0 x1 x2 x3 x4 x5 x6 x7 : Int) (w : World) : (Op.equalIn 10000 36 (.agg #[.int .u8 x0, .int .u8 x1, .int .u8 x2, .int .u8 x3, .int .u8 x4, .int .u8 x5, .int .u8 x6, .int .u8 x7]) (.agg #[.int .u8 0, .int .u8 0, .int .u8 0, .int .u8 0, .int .u8 0, .int .u8 0, .int .u8 0, .int .u8 0])).run Tryd.prog w = .ok ((x0 == 0) && (x1 == 0) && (x2 == 0) && (x3 == 0) && (x4 == 0) && (x5 == 0) && (x6 == 0) && (x7 == 0)) w := by
  have hs : Tryd.prog.cellsOf 5 = 1 := Tryd.cells5
  have hu := Tryd.underlying36
  have hu5 := Tryd.underlying5
  have hz : ∀ w : World, (sizeOf 5).run Tryd.prog w = .ok 1 w := fun w => by kernel_rfl
  rw [show (10000 : Nat) = 9999 + 1 by rfl]
  unfold Op.equalIn
  have heq : ∀ (a b : Int) (w : World), (Op.equalIn 9999 5 (.int .u8 a) (.int .u8 b)).run Tryd.prog w = .ok (a == b) w := fun a b w => run_equalIn_int w 9998 5 .u8 .u8 a b hu5
  have hag : ∀ w : World, (isAgg 5).run Tryd.prog w = .ok false w := fun w => by kernel_rfl
  have l8 : List.range' 0 8 = [0, 1, 2, 3, 4, 5, 6, 7] := by decide
  simp only [run_underlying hu, Sem.run_bind, Result.andThen_ok, hz, Std.Legacy.Range.forIn_eq_forIn_range', Std.Legacy.Range.size]
  simp [l8, part, hag, heq]
  (repeat' split) <;> simp_all
end Go.Proofs.YtpnemkphdminnaaDoor
