/- Sectors that are filled, and compared. -/
import Derived.Test.YthhpilkhcomhbaaDoorDwr
namespace Go.Proofs.YthhpilkhcomhbaaDoor
open Go.ChangeShapes Go.WideShapes Go.ChangeAt Go.RowKit Go.ChangeMaps

theorem bc_set (L : List UInt8) (k : Nat) (b : UInt8) : (bc L).toArray.setIfInBounds k (.int .u8 (b.toNat : Int)) = (bc (L.set k b)).toArray := by
  simp [bc, List.map_set]
theorem rep_set (b z : UInt8) (k m : Nat) : (List.replicate k b ++ List.replicate (m + 1) z).set k b = List.replicate (k + 1) b ++ List.replicate m z := by
  rw [List.set_append, if_neg (by simp)]
  simp only [List.length_replicate, Nat.sub_self, List.replicate_succ (n := m), List.set_cons_zero]
  rw [List.replicate_succ' (n := k)]
  simp
def zeros : List UInt8 := List.replicate 64 0
theorem make64 : ∃ cs : Array Value, Hid (cs = (bc zeros).toArray) ∧ ∀ w : World, (Instr.makeSlice 36 (.int .i64 64) (.int .i64 64)).run Tryd.prog w = .ok (.slice (some ⟨w.heap.size, 0, none⟩) 64 64) (w.alloc (.cells cs 5)) :=
  ⟨Array.replicate 64 (.int .u8 0), Lib.hid (by unfold zeros bc; simp; rfl), fun w => by kernel_rfl⟩
theorem run_copy_spl {P : Program} (w : World) (dT sT ty elem : TypeId) (g off dLen dCap : Nat) (ad : Addr) (sLen sCap : Nat) (cur : List Value) (t : TypeId) (cs : List Value)
    (hu : P.underlying dT = some (.slice elem)) (hs : (P.info? elem).map (·.size) = some 1) (hg : w.heap[g]? = some (.cells cur.toArray t (0, 0))) (hn : cs.length = Nat.min sLen dLen)
    (hsrc : ∀ j v, cs[j]? = some v → w.cell? (ad.add j) = some v) (hfit : off + cs.length ≤ cur.length) (h1 : ∀ v ∈ cs, v.oneCell' = true) :
    (Builtin.copy_ #[dT, sT] ty #[.slice (some ⟨g, off, none⟩) dLen dCap, .slice (some ad) sLen sCap]).run P w = .ok (goInt cs.length) (w.setRow g (splice cur off cs).toArray) := by
  have := run_copy_row (P := P) w dT sT ty elem g off dLen dCap ad sLen sCap cur.toArray t cs hu hs hg hn hsrc (by simpa using hfit) h1
  simpa [splice] using this
/-- A sector that begins with some bytes. -/
def sec64 (d : List UInt8) : List UInt8 := d.take 64 ++ List.replicate (64 - d.length) 1
theorem sec64_len (d : List UInt8) : (sec64 d).length = 64 := by unfold sec64; simp; omega
theorem sec64_splice (d : List UInt8) : splice (List.replicate 64 (1 : UInt8)) 0 (d.take 64) = sec64 d := by
  unfold splice sec64
  rw [List.take_zero, List.nil_append, List.drop_replicate, List.length_take]
  congr 2
  omega
theorem bytes_of_blk {w : World} {g t : Nat} {l : List UInt8} {n : Nat} (h : Blk w g t (bc l).toArray) (hl : l.length = n) : BytesAt w (some ⟨g, 0, none⟩) n l :=
  ⟨hl, fun _ => ⟨g, 0, rfl, h.lt, fun i hi => by rw [Nat.zero_add, h.cell, ← bc_at l i hi]; simp⟩⟩
theorem ba_of_blk {F : Nat → Prop} {w : World} {g t : Nat} {l : List UInt8} {n : Nat} (h : Blk w g t (bc l).toArray) (hl : l.length = n) (hg : ¬ F g) : BA F w (some ⟨g, 0, none⟩) n l :=
  ⟨hl, fun _ => ⟨g, 0, rfl, h.lt, hg, fun i hi => by rw [Nat.zero_add, h.cell, ← bc_at l i hi]; simp⟩⟩
end Go.Proofs.YthhpilkhcomhbaaDoor
