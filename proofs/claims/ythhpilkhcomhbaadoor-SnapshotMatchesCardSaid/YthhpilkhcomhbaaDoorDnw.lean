/- A new disk. -/
import Derived.Test.YthhpilkhcomhbaaDoorFil
import Derived.Laws.MakeOwn
namespace Go.Proofs.YthhpilkhcomhbaaDoor
open Go.ChangeShapes Go.WideShapes Go.ChangeAt Go.RowKit Go.ChangeMaps

def St.new (n : Nat) : St := ⟨List.replicate n zeros, false, 0, 0, 0⟩
theorem St.new_ok {n : Nat} (h : n ≤ 65536) : (St.new n).ok := ⟨fun r hr => by simp [St.new] at hr; rw [hr.2]; simp [zeros], by simp [St.new], by simpa [St.new] using h, by simp [St.new], by simp [St.new]⟩
theorem zero60 : ∃ i z, Tryd.prog.info? 83 = some i ∧ i.zero = some z ∧ i.size = 64 ∧ i.bytes = 64 ∧ z.cells = (bc zeros).toArray := by
  refine ⟨(Tryd.prog.info? 83).get!, .agg (bc zeros).toArray, by kernel_rfl, by kernel_rfl, by kernel_rfl, by kernel_rfl, rfl⟩
theorem bc_rep (m : Nat) : bc (List.replicate m 0) = List.replicate m (.int .u8 0) := by simp [bc]
theorem flat_rep (n : Nat) : (List.replicate n zeros).flatten = List.replicate (n * 64) 0 := by
  unfold zeros
  induction n with
  | zero => rfl
  | succ n ih => rw [List.replicate_succ, List.flatten_cons, ih, List.replicate_append_replicate]; congr 1; omega
theorem made_rep (N m : Nat) (v : Value) (hN : 0 < N) : madeCells (List.replicate N v).toArray m = (List.replicate m v).toArray := by
  apply Array.ext'
  unfold madeCells
  apply List.ext_getElem
  · simp
  · intro i h1 h2
    have h3 : i % N < N := Nat.mod_lt _ hN
    simp [h3]
theorem made60 (m : Nat) : madeCells (bc zeros).toArray m = (bc (List.replicate m 0)).toArray := by
  rw [bc_rep]
  unfold zeros
  rw [bc_rep]
  exact made_rep 64 m _ (by decide)
theorem makeN (n : Nat) (hn : n ≤ 65536) (w : World) : (Instr.makeSlice 66 (.int .i64 (n : Int)) (.int .i64 (n : Int))).run Tryd.prog w = .ok (.slice (some ⟨w.heap.size, 0, none⟩) n n) (w.alloc (.cells (bc (St.new n).R.flatten).toArray 83)) := by
  obtain ⟨i, z, hi, hz, hs, hb, hc⟩ := zero60
  have := run_make (P := Tryd.prog) w 66 83 i z Tryd.underlying66 hi hz .i64 .i64 n n (by omega) (Int.le_refl _) (by rw [hb]; omega) (by omega)
  rw [hs, hc, made60] at this
  simpa [St.new, flat_rep] using this
set_option maxRecDepth 100000 in
theorem New_ok (w : World) (n : Nat) (h1 : 1 ≤ n) (hn : n ≤ 65536) : Calls Tryd.prog 15 #[.int .i64 (n : Int)] w fun e w' => e = .returned (.tuple #[.pointer (some ⟨w.heap.size + 1, 0, none⟩), .int .i64 0]) ∧ Dk w' (w.heap.size + 1) w.heap.size (St.new n) ∧ Below w.heap.size w w' := by
  have hmk := makeN n hn w
  have HO := Lib.hid (St.new_ok hn)
  have HR := Lib.hid (show (St.new n).R.length = n by simp [St.new])
  generalize hfl : bc (St.new n).R.flatten = fl at *
  have t1 : (1 : Int) ≤ n := by omega
  have t2 : (n : Int) ≤ 65536 := by omega
  have HF := Lib.hid hfl
  clear hfl
  go_enter Tryd.func15, Tryd.ntmps15
  go_wp2
  go_ret2
  refine ⟨by simp, ⟨?_, ?_, by omega, HO.out⟩, ((Below.refl _ w).alloc (Nat.le_refl _) _).alloc (by simp) _⟩
  · rw [HR.out]
    exact Blk.new_ (by simp) rfl
  · rw [HF.out]
    exact (Blk.new w 83 _).alloc _
theorem New_bad (w : World) (x : Int) (h : x < 1 ∨ 65536 < x) : Calls Tryd.prog 15 #[.int .i64 x] w fun e w' => e = .returned (.tuple #[.pointer none, .int .i64 1]) ∧ w = w' := by
  rcases h with h | h
  · go_enter Tryd.func15, Tryd.ntmps15
    go_wp2
    go_ret2
    exact ⟨rfl, rfl⟩
  · have h1 : ¬ x < 1 := by omega
    go_enter Tryd.func15, Tryd.ntmps15
    go_wp2
    go_ret2
    exact ⟨rfl, rfl⟩
end Go.Proofs.YthhpilkhcomhbaaDoor
