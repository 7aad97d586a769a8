/- Sides and values compared. -/
import Derived.Test.YtcocdhndhlegiaaSow
namespace Go.Proofs.Ytcocdhndhlegiaa
open Go.ChangeShapes Go.WideShapes Go.ChangeAt Go.RowKit Go.ChangeMaps

def Sd.eqB (s x : Sd) : Bool := (s.nu == x.nu) && ((s.ot == x.ot) && ((s.lo == x.lo) && ((s.hi == x.hi) && ((s.fr.toList == x.fr.toList) && (s.to.toList == x.to.toList)))))
def V3.eqB (s x : V3) : Bool := (s.k == x.k) && ((s.n == x.n) && (s.s.toList == x.s.toList))
theorem ba_ext {a b : ByteArray} (h : a.toList = b.toList) : a = b := by
  rw [ByteArray.toList_eq, ByteArray.toList_eq] at h
  obtain ⟨a⟩ := a
  obtain ⟨b⟩ := b
  exact congrArg ByteArray.mk (Array.ext' h)
theorem ba_beq (a b : ByteArray) : (a == b) = (a.toList == b.toList) := by
  rw [ByteArray.toList_eq, ByteArray.toList_eq]
  obtain ⟨a⟩ := a
  obtain ⟨b⟩ := b
  show (a == b) = (a.toList == b.toList)
  simp
theorem heq_int (a b : Int) (u : TypeId) (h : Try.prog.underlying u = some (.int .i64)) (w : World) : (Op.equalIn 9998 u (.int .i64 a) (.int .i64 b)).run Try.prog w = .ok (a == b) w := run_equalIn_int w 9997 u .i64 .i64 a b h
theorem heq_bool (a b : Bool) (w : World) : (Op.equalIn 9998 4 (.bool a) (.bool b)).run Try.prog w = .ok (a == b) w := by
  have h := Try.underlying4
  rw [show (9998 : Nat) = 9997 + 1 by rfl]
  unfold Op.equalIn
  simp [run_underlying h]
theorem heq_str (a b : ByteArray) (w : World) : (Op.equalIn 9998 9 (.string a) (.string b)).run Try.prog w = .ok (a.toList == b.toList) w := by
  have h := Try.underlying9
  rw [show (9998 : Nat) = 9997 + 1 by rfl]
  unfold Op.equalIn
  simp [run_underlying h, ba_beq]
theorem eq51 (s x : Sd) (w : World) : (Op.equalIn 9999 51 s.agg x.agg).run Try.prog w = .ok (s.eqB x) w := by
  obtain ⟨nu, ot, lo, hi, fr, to⟩ := s
  obtain ⟨nu2, ot2, lo2, hi2, fr2, to2⟩ := x
  unfold Sd.agg Sd.eqB
  have hu := Try.underlying51
  have z2 : ∀ w : World, (sizeOf 2).run Try.prog w = .ok 1 w := fun w => by kernel_rfl
  have z4 : ∀ w : World, (sizeOf 4).run Try.prog w = .ok 1 w := fun w => by kernel_rfl
  have z9 : ∀ w : World, (sizeOf 9).run Try.prog w = .ok 1 w := fun w => by kernel_rfl
  rw [show (9999 : Nat) = 9998 + 1 by rfl]
  unfold Op.equalIn
  have a2 : ∀ w : World, (isAgg 2).run Try.prog w = .ok false w := fun w => by kernel_rfl
  have a4 : ∀ w : World, (isAgg 4).run Try.prog w = .ok false w := fun w => by kernel_rfl
  have a9 : ∀ w : World, (isAgg 9).run Try.prog w = .ok false w := fun w => by kernel_rfl
  have l6 : List.range' 0 6 = [0, 1, 2, 3, 4, 5] := by decide
  have e2 := fun a b w => heq_int a b 2 Try.underlying2 w
  have e4 := heq_bool
  have e9 := heq_str
  simp only [run_underlying hu, Sem.run_bind, Result.andThen_ok, z2, z4, z9, Std.Legacy.Range.forIn_eq_forIn_range', Std.Legacy.Range.size]
  simp [l6, part, a2, a4, a9, e2, e4, e9, z2, z4, z9]
  (repeat' split) <;> simp_all
theorem eq47 (s x : V3) (w : World) : (Op.equalIn 9999 47 s.agg x.agg).run Try.prog w = .ok (s.eqB x) w := by
  obtain ⟨k, n, t⟩ := s
  obtain ⟨k2, n2, t2⟩ := x
  unfold V3.agg V3.eqB
  have hu := Try.underlying47
  have z2 : ∀ w : World, (sizeOf 2).run Try.prog w = .ok 1 w := fun w => by kernel_rfl
  have z3 : ∀ w : World, (sizeOf 3).run Try.prog w = .ok 1 w := fun w => by kernel_rfl
  have z9 : ∀ w : World, (sizeOf 9).run Try.prog w = .ok 1 w := fun w => by kernel_rfl
  rw [show (9999 : Nat) = 9998 + 1 by rfl]
  unfold Op.equalIn
  have a2 : ∀ w : World, (isAgg 2).run Try.prog w = .ok false w := fun w => by kernel_rfl
  have a3 : ∀ w : World, (isAgg 3).run Try.prog w = .ok false w := fun w => by kernel_rfl
  have a9 : ∀ w : World, (isAgg 9).run Try.prog w = .ok false w := fun w => by kernel_rfl
  have l3 : List.range' 0 3 = [0, 1, 2] := by decide
  have e2 := fun a b w => heq_int a b 2 Try.underlying2 w
  have e3 := fun a b w => heq_int a b 3 Try.underlying3 w
  have e9 := heq_str
  simp only [run_underlying hu, Sem.run_bind, Result.andThen_ok, z2, z3, z9, Std.Legacy.Range.forIn_eq_forIn_range', Std.Legacy.Range.size]
  simp [l3, part, a2, a3, a9, e2, e3, e9, z2, z3, z9]
  (repeat' split) <;> simp_all
end Go.Proofs.Ytcocdhndhlegiaa
