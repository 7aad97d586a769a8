/- Sides of boxes. -/
import Derived.Test.YtgenpldldgplhaaSlc
import Derived.Handy
namespace Go.Proofs.Ytgenpldldgplhaa
open Go.ChangeShapes Go.WideShapes Go.ChangeAt Go.RowKit Go.ChangeMaps

structure Sd where
  nu : Bool
  ot : Bool
  lo : Int
  hi : Int
  fr : ByteArray
  to : ByteArray
def Sd.cells (s : Sd) : List Value := [.bool s.nu, .bool s.ot, .int .i64 s.lo, .int .i64 s.hi, .string s.fr, .string s.to]
def Sd.agg (s : Sd) : Value := .agg #[.bool s.nu, .bool s.ot, .int .i64 s.lo, .int .i64 s.hi, .string s.fr, .string s.to]
structure V3 where
  k : Int
  n : Int
  s : ByteArray
def V3.cells (x : V3) : List Value := [.int .i64 x.k, .int .i64 x.n, .string x.s]
def V3.agg (x : V3) : Value := .agg #[.int .i64 x.k, .int .i64 x.n, .string x.s]
def tle (a b : ByteArray) : Bool := Op.bytesLess a.toList b.toList || a.toList == b.toList
def Sd.inB (s : Sd) (x : V3) : Bool := if x.k = 0 then s.nu else if x.k = 1 then s.ot && (decide (s.lo ≤ x.n) && decide (x.n ≤ s.hi)) else s.ot && (tle s.fr x.s && tle x.s s.to)
def tmx (a b : ByteArray) : ByteArray := if Op.bytesLess a.toList b.toList = false then a else b
def tmn (a b : ByteArray) : ByteArray := if tle a b = true then a else b
theorem run_max_str (ts : Array TypeId) (t : TypeId) (a b : ByteArray) (w : World) : (Builtin.max_ ts t #[.string a, .string b]).run Try.prog w = .ok (.string (tmx a b)) w := by
  simp only [tmx]
  simp [Builtin.max_, Builtin.max2, Op.stringOp, asBool, tle]
theorem run_min_str (ts : Array TypeId) (t : TypeId) (a b : ByteArray) (w : World) : (Builtin.min_ ts t #[.string a, .string b]).run Try.prog w = .ok (.string (tmn a b)) w := by
  simp only [tmn]
  simp [Builtin.min_, Builtin.min2, Op.stringOp, asBool, tle]
def Sd.meetB (s t : Sd) : Bool := (s.nu && t.nu) || (s.ot && (t.ot && (decide ((if t.lo > s.lo then t.lo else s.lo) ≤ (if t.hi < s.hi then t.hi else s.hi)) && tle (tmx s.fr t.fr) (tmn s.to t.to))))
set_option maxRecDepth 100000 in
theorem meets_any (s x : Sd) (w : World) : Calls Try.prog 29 #[s.agg, x.agg] w fun e w' => e = .returned (.bool (s.meetB x)) ∧ Below w.heap.size w w' := by
  obtain ⟨nu, ot, lo, hi, fr, to⟩ := s
  obtain ⟨nu2, ot2, lo2, hi2, fr2, to2⟩ := x
  obtain ⟨r, hr⟩ : ∃ r, Sd.meetB ⟨nu, ot, lo, hi, fr, to⟩ ⟨nu2, ot2, lo2, hi2, fr2, to2⟩ = r := ⟨_, rfl⟩
  unfold Sd.meetB at hr
  dsimp only at hr
  obtain ⟨mx, hmx⟩ : ∃ z, tmx fr fr2 = z := ⟨_, rfl⟩
  obtain ⟨mn, hmn⟩ : ∃ z, tmn to to2 = z := ⟨_, rfl⟩
  have q1 : ∀ w, (Builtin.max_ #[9, 9] 9 #[.string fr, .string fr2]).run Try.prog w = .ok (.string mx) w := fun w => by rw [run_max_str, hmx]
  have q2 : ∀ w, (Builtin.min_ #[9, 9] 9 #[.string to, .string to2]).run Try.prog w = .ok (.string mn) w := fun w => by rw [run_min_str, hmn]
  rw [hmx, hmn] at hr
  have HR := Lib.hid hr
  have HE : Sd.meetB ⟨nu, ot, lo, hi, fr, to⟩ ⟨nu2, ot2, lo2, hi2, fr2, to2⟩ = r := by
    unfold Sd.meetB
    dsimp only
    rw [hmx, hmn]
    exact hr
  rw [HE]
  clear hr hmx hmn HE
  unfold Sd.agg
  go_enter Try.func29, Try.ntmps29
  go_wp2
  all_goals
    go_ret
    refine ⟨ret_bool ?_, ((Below.refl _ w).alloc (Nat.le_refl _) _).alloc (by simp) _⟩
    have HR := HR.out
    unfold tle at HR
    first | (simp_all; done) | (cases r <;> simp_all; done) | grind
end Go.Proofs.Ytgenpldldgplhaa
