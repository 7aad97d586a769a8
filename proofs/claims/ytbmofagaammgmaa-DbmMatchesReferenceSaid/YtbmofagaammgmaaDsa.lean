/- Satisfiable, and keys that are integers. -/
import Derived.Test.YtbmofagaammgmaaDsw
namespace Go.Proofs.Ytbmofagaammgmaa
open Go.ChangeShapes Go.WideShapes Go.ChangeAt Go.RowKit Go.ChangeMaps

theorem qs36 (w : World) (A : Option Addr) (n c : Nat) : (binOp .eql 36 (.slice A n c) (.slice none 0 0)).run Try.prog w = .ok (.bool A.isNone) w := Lib.run_eql_slice_nil w _ _ A n c 0 0 Try.underlying36
theorem Sat_sat (w : World) (B g n : Nat) (s : St) (h : MX w B g n s) (hsat : ∃ r, r < n + 1 ∧ ∀ v, v < n + 1 → (xsk s.c s.prs (n + 1) (r + 1)).getD v 0 = (xsk s.c s.prs (n + 1) r).getD v 0) : Calls Try.prog 15 #[.pointer (some ⟨g, 0, none⟩)] w fun e w' => e = .returned (.bool true) ∧ Below w.heap.size w w' := by
  have CS := Lib.hid (solve_sat w B g n s h hsat)
  have q := qs36
  clear h hsat
  go_enter Try.func15, Try.ntmps15
  go_wp2_with fail
  refine CS.out.mono ?_
  rintro e w1 ⟨gy, cy, Y, rfl, -, -, -, -, -, -, hb⟩
  have HB := Lib.hid hb
  clear hb CS
  go_wp2
  go_ret
  exact ⟨rfl, HB.out⟩
/-- The system has a solution exactly if a round changes nothing. -/
theorem sat_of_sol {w : World} {B g n : Nat} {s : St} (h : MX w B g n s) (x : Nat → Int) (hx : ∀ p ∈ s.prs, x p.1 - x p.2 ≤ s.c p) : ∃ r, r < n + 1 ∧ ∀ v, v < n + 1 → (xsk s.c s.prs (n + 1) (r + 1)).getD v 0 = (xsk s.c s.prs (n + 1) r).getD v 0 := by
  have hP : ∀ p ∈ s.prs, p.1 < n + 1 ∧ p.2 < n + 1 := fun p hp => by
    obtain ⟨q, hq, rfl⟩ := List.mem_map.1 hp
    obtain ⟨⟨a1, a2⟩, a3, a4⟩ := h.ok q hq
    dsimp only
    omega
  refine ⟨n, by omega, fun v hv => ?_⟩
  have h1 := solved hP x hx (k := n) (by omega) hv
  have h2 := xsk_mono (c := s.c) hP (show n ≤ n + 1 by omega) v
  omega
def IK : KV 3 Int where
  kv := fun a => .int .i64 a
  kl := fun a => .int .i64 a
  ok := w64
  keyed := Maps.int_keyed Try.underlying3
  key := fun a h => Maps.keyOf_int_mk Try.underlying3 h
  inj := fun x y h => by injection h
end Go.Proofs.Ytbmofagaammgmaa
