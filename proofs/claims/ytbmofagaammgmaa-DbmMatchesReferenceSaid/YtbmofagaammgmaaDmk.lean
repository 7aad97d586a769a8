/- Pairs as keys. -/
import Derived.Test.YtbmofagaammgmaaBmg
import Derived.Test.YtbmofagaammgmaaBas
import Derived.DeepKeys5
namespace Go.Proofs.Ytbmofagaammgmaa
open Go.ChangeShapes Go.WideShapes Go.ChangeAt Go.RowKit Go.ChangeMaps

def w64 (a : Int) : Prop := (Lit.int .i64 a).wf = true
theorem w64_of {a : Int} (h : -9223372036854775808 ≤ a) (g : a ≤ 9223372036854775807) : w64 a := by
  have h1 : IntKind.i64.min = -9223372036854775808 := rfl
  have h2 : IntKind.i64.max = 9223372036854775807 := rfl
  unfold w64
  simp only [Lit.wf, Bool.and_eq_true, decide_eq_true_eq, h1, h2]
  exact ⟨h, g⟩
theorem keyed72 : Go.Maps.Keyed Try.prog 72 := Go.Maps.Keyed.of_law (deep_law_gate Try.laidOut (by decide +kernel) (by decide +kernel) (by decide +kernel) (by rw [Try.underlying72]))
def kvP (p : Int × Int) : Value := .agg #[.int .i64 p.1, .int .i64 p.2]
theorem key72 (p : Int × Int) (h : w64 p.1 ∧ w64 p.2) : keyOf Try.prog 72 (kvP p) = some (.string (keyBytes [.int .i64 p.1, .int .i64 p.2])) := by
  obtain ⟨h1, h2⟩ := h
  unfold w64 at h1 h2
  have hk : Try.prog.keyType 72 = true := by decide +kernel
  have hf : (kvP p).formed Try.prog 72 = true := by kernel_rfl
  have c1 : Try.prog.cellsOf 72 = 2 := by kernel_rfl
  have c2 : Try.prog.cellsOf 3 = 1 := by kernel_rfl
  obtain ⟨m, hm⟩ : ∃ m, Try.prog.types.size = m + 1 := ⟨Try.prog.types.size - 1, by decide +kernel⟩
  unfold keyOf
  rw [Try.underlying72]
  simp only [hk, hf, Bool.and_self, if_true]
  have e1 : ∀ a : Int, (Lit.int .i64 a).wf = true → Try.prog.keyLits (Try.prog.types.size) 3 [.int .i64 a] = some [.int .i64 a] := fun a ha => by
    rw [hm]
    unfold Program.keyLits
    rw [Try.underlying3]
    simp [ha]
  have e2 : Try.prog.keyLits (Try.prog.types.size + 1) 72 (kvP p).cells.toList = some [.int .i64 p.1, .int .i64 p.2] := by
    unfold Program.keyLits
    rw [Try.underlying72]
    show (if [Value.int .i64 p.1, .int .i64 p.2].length = Try.prog.cellsOf 72 then ((List.range 2).mapM fun i => Try.prog.keyLits Try.prog.types.size 3 (([Value.int .i64 p.1, .int .i64 p.2].drop (i * Try.prog.cellsOf 3)).take (Try.prog.cellsOf 3))).map List.flatten else none) = _
    rw [c1, c2]
    have r : List.range 2 = [0, 1] := rfl
    rw [if_pos (show [Value.int .i64 p.1, .int .i64 p.2].length = 2 from rfl), r]
    simp only [List.mapM_cons, List.mapM_nil]
    show Option.map List.flatten (do let a ← Try.prog.keyLits Try.prog.types.size 3 [.int .i64 p.1]; let b ← (do let b ← Try.prog.keyLits Try.prog.types.size 3 [.int .i64 p.2]; let c ← (pure [] : Option (List (List Lit))); pure (b :: c)); pure (a :: b)) = _
    rw [e1 _ h1, e1 _ h2]
    rfl
  rw [e2]
  rfl
def PK : KV 72 (Int × Int) where
  kv := kvP
  kl := fun p => .string (keyBytes [.int .i64 p.1, .int .i64 p.2])
  ok := fun p => w64 p.1 ∧ w64 p.2
  keyed := keyed72
  key := key72
  inj := fun x y h => by
    unfold kvP at h
    injection h with h
    have h := congrArg Array.toList h
    simp at h
    exact Prod.ext h.1 h.2
end Go.Proofs.Ytbmofagaammgmaa
