/- The least side that contains two. -/
import Derived.Test.YtgenpldldgplhaaSow
import Derived.Test.YtgenpldldgplhaaMix
import Derived.RegionTactic
import Derived.Handy
namespace Go.Proofs.Ytgenpldldgplhaa
open Go.ChangeShapes Go.WideShapes Go.ChangeAt Go.RowKit Go.ChangeMaps

def withM (s t : Sd) : Sd := if s.ot = false then ⟨t.nu || s.nu, t.ot, t.lo, t.hi, t.fr, t.to⟩ else if t.ot = true then ⟨s.nu || t.nu, s.ot, if t.lo < s.lo then t.lo else s.lo, if s.hi < t.hi then t.hi else s.hi, tmn s.fr t.fr, tmx s.to t.to⟩ else ⟨s.nu || t.nu, s.ot, s.lo, s.hi, s.fr, s.to⟩
set_option maxRecDepth 100000 in
set_option maxHeartbeats 2000000 in
theorem with_any (s x : Sd) (w : World) : Calls Try.prog 28 #[s.agg, x.agg] w fun e w' => e = .returned (withM s x).agg ∧ Below w.heap.size w w' := by
  obtain ⟨nu, ot, lo, hi, fr, to⟩ := s
  obtain ⟨nu2, ot2, lo2, hi2, fr2, to2⟩ := x
  obtain ⟨mx, hmx⟩ : ∃ z, tmx to to2 = z := ⟨_, rfl⟩
  obtain ⟨mn, hmn⟩ : ∃ z, tmn fr fr2 = z := ⟨_, rfl⟩
  have q1 : ∀ w, (Builtin.max_ #[9, 9] 9 #[.string to, .string to2]).run Try.prog w = .ok (.string mx) w := fun w => by rw [run_max_str, hmx]
  have q2 : ∀ w, (Builtin.min_ #[9, 9] 9 #[.string fr, .string fr2]).run Try.prog w = .ok (.string mn) w := fun w => by rw [run_min_str, hmn]
  obtain ⟨r, hr⟩ : ∃ r, (withM ⟨nu, ot, lo, hi, fr, to⟩ ⟨nu2, ot2, lo2, hi2, fr2, to2⟩).agg = r := ⟨_, rfl⟩
  rw [hr]
  unfold withM at hr
  dsimp only at hr
  rw [hmx, hmn] at hr
  unfold Sd.agg at hr ⊢
  clear hmx hmn
  cases ot
  case false =>
    have HR := Lib.hid (show Value.agg #[.bool (nu2 || nu), .bool ot2, .int .i64 lo2, .int .i64 hi2, .string fr2, .string to2] = r by rw [← hr]; rfl)
    clear hr
    cases nu2
    all_goals
      go_enter Try.func28, Try.ntmps28
      go_wp2
      go_returns
      refine ⟨?_, (((Below.refl _ w).alloc (Nat.le_refl _) _).alloc (by simp) _).alloc (by simp; omega) _⟩
      rw [← HR.out]; rfl
  case true =>
    cases ot2
    case false =>
      have HR := Lib.hid (show Value.agg #[.bool (nu || nu2), .bool true, .int .i64 lo, .int .i64 hi, .string fr, .string to] = r by rw [← hr]; rfl)
      clear hr
      cases nu
      all_goals
        go_enter Try.func28, Try.ntmps28
        go_wp2
        go_returns
        refine ⟨?_, (((Below.refl _ w).alloc (Nat.le_refl _) _).alloc (by simp) _).alloc (by simp; omega) _⟩
        rw [← HR.out]; rfl
    case true =>
      have HR := Lib.hid (show Value.agg #[.bool (nu || nu2), .bool true, .int .i64 (if lo2 < lo then lo2 else lo), .int .i64 (if hi < hi2 then hi2 else hi), .string mn, .string mx] = r by rw [← hr]; rfl)
      clear hr
      obtain ⟨ml, hml⟩ : ∃ z, (if lo2 < lo then lo2 else lo) = z := ⟨_, rfl⟩
      obtain ⟨mh, hmh⟩ : ∃ z, (if hi < hi2 then hi2 else hi) = z := ⟨_, rfl⟩
      have HR := Lib.hid (show Value.agg #[.bool (nu || nu2), .bool true, .int .i64 ml, .int .i64 mh, .string mn, .string mx] = r by rw [← hml, ← hmh]; exact HR.out)
      have HML := Lib.hid hml
      have HMH := Lib.hid hmh
      clear hml hmh
      cases nu
      all_goals
        go_enter Try.func28, Try.ntmps28
        go_wp2
        go_region
        rw [HML.out, HMH.out]
        go_wp2_with fail
        go_region
        go_wp2
        go_returns
        refine ⟨?_, below_drew (below_drew ((((Below.refl _ w).alloc (Nat.le_refl _) _).alloc (by simp) _).alloc (by simp; omega) _))⟩
        rw [← HR.out]; rfl
end Go.Proofs.Ytgenpldldgplhaa
