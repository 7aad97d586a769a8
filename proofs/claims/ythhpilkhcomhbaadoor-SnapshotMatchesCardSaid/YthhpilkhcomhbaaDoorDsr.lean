/- Reading and writing a disk. -/
import Derived.Test.YthhpilkhcomhbaaDoorDsm
import Derived.Deep.MidRow
namespace Go.Proofs.YthhpilkhcomhbaaDoor
open Go.ChangeShapes Go.WideShapes Go.ChangeAt Go.RowKit Go.ChangeMaps

theorem sec_cells {R : List (List UInt8)} (h : ∀ r ∈ R, r.length = 64) {i : Nat} (hi : i < R.length) {j : Nat} {u : Value} (hj : (bc (R.getD i []))[j]? = some u) : (bc R.flatten)[i * 64 + j]? = some u := by
  have h1 := flat_at i h hi
  have hl := getD_len64 h hi
  have hjl : j < 64 := by have := (List.getElem?_eq_some_iff.1 hj).1; rw [bc_len, hl] at this; exact this
  rw [← h1] at hj
  unfold bc at hj ⊢
  rw [List.getElem?_map] at hj ⊢
  rw [List.getElem?_take, if_pos hjl, List.getElem?_drop] at hj
  exact hj
theorem size60 : (Tryd.prog.info? 83).map (·.size) = some 64 := by kernel_rfl
theorem arr60 : Tryd.prog.arrayLen 83 = 64 := by kernel_rfl
set_option maxRecDepth 100000 in
set_option maxHeartbeats 1000000 in
theorem Read_ok (w : World) (p q : Nat) (s : St) (h : Dk w p q s) (hf : s.f = false) (k : Nat) (hk : k < s.R.length) : Calls Tryd.prog 26 #[.pointer (some ⟨p, 0, none⟩), .int .i64 (k : Int)] w fun e w' => ∃ g, e = .returned (.tuple #[.slice (some ⟨g, 0, none⟩) 64 64, .int .i64 0]) ∧ w.heap.size ≤ g ∧ Blk w' g 83 (bc (s.R.getD k [])).toArray ∧ Below w.heap.size w w' := by
  have c0 : w.cell? ⟨p, 0, none⟩ = some (.slice (some ⟨q, 0, none⟩) s.R.length s.R.length) := h.1.cell 0
  have c1 : w.cell? ⟨p, 1, none⟩ = some (.bool s.f) := h.1.cell 1
  have c2 : w.cell? ⟨p, 2, none⟩ = some (.int .i64 (s.a : Int)) := h.1.cell 2
  have c3 : w.cell? ⟨p, 3, none⟩ = some (.int .i64 (s.b : Int)) := h.1.cell 3
  have c4 : w.cell? ⟨p, 4, none⟩ = some (.int .i64 (s.x : Int)) := h.1.cell 4
  have HD := Lib.hid h
  rw [hf] at c1
  have HH := Lib.hid (has_any w p q s h k true (by simp; omega))
  have hki : (k : Int) < s.R.length := by omega
  have hkk : (0 : Int) ≤ (k : Int) := by omega
  have hl := getD_len64 h.2.2.2.1 hk
  have hsec : Hid (w.rangeAt q (k * 64) (bc (s.R.getD k []))) := Lib.hid (fun j u hj => by
    rw [HD.out.2.1.cell]
    have := sec_cells HD.out.2.2.2.1 hk hj
    rw [← Array.getElem?_toList]
    simpa using this)
  generalize s.R.getD k [] = sec at *
  have HONE : Hid ((bc sec).toArray.all (·.oneCell') = true) := Lib.hid (all_oneCell_toArray (bc_one sec))
  have HSZ : Hid ((bc sec).toArray.size = 64) := Lib.hid (by simp [bc_len, hl])
  have HLN : Hid ((Tryd.prog.info? 83).map (·.size) = some (bc sec).length) := Lib.hid (by rw [size60, bc_len, hl])
  have HL2 : Hid ((Tryd.prog.info? 83).map (·.size) = some (bc sec).toArray.size) := Lib.hid (by rw [size60, HSZ.out])
  generalize bc sec = cs at *
  generalize s.R.length = n at *
  clear hf h hl
  have ha := arr60
  go_enter Tryd.func26, Tryd.ntmps26
  go_wp2_with fail
  refine HH.out.mono ?_
  rintro e w2 ⟨rfl, rfl⟩
  go_wp2_with (first | (refine wpList_load_mid (op := ⟨some 21, _, _, _, _, _⟩) rfl 83 _ rfl q (k * 64) rfl cs _ hsec.out Tryd.underlying83 rfl HLN.out ?_) | (refine wpList_store_new (op := ⟨none, _, _, _, _, _⟩) rfl 83 _ _ rfl w _ cs.toArray rfl rfl HL2.out (by rw [HSZ.out]; rfl) HONE.out ?_))
  go_ret2
  exact ⟨w.heap.size, rfl, Nat.le_refl _, Blk.new _ _ _, (Below.refl _ w).alloc (Nat.le_refl _) _⟩
set_option maxRecDepth 100000 in
theorem Read_bad (w : World) (p q : Nat) (s : St) (h : Dk w p q s) (i : Int) (c : Int) (hc : (s.f = true ∧ c = 15) ∨ (s.f = false ∧ ¬ (0 ≤ i ∧ i < s.R.length) ∧ c = 1)) : Calls Tryd.prog 26 #[.pointer (some ⟨p, 0, none⟩), .int .i64 i] w fun e w' => e = .returned (.tuple #[.slice none 0 0, .int .i64 c]) ∧ w = w' := by
  have c0 : w.cell? ⟨p, 0, none⟩ = some (.slice (some ⟨q, 0, none⟩) s.R.length s.R.length) := h.1.cell 0
  have c1 : w.cell? ⟨p, 1, none⟩ = some (.bool s.f) := h.1.cell 1
  have c2 : w.cell? ⟨p, 2, none⟩ = some (.int .i64 (s.a : Int)) := h.1.cell 2
  have c3 : w.cell? ⟨p, 3, none⟩ = some (.int .i64 (s.b : Int)) := h.1.cell 3
  have c4 : w.cell? ⟨p, 4, none⟩ = some (.int .i64 (s.x : Int)) := h.1.cell 4
  rcases hc with ⟨hf, rfl⟩ | ⟨hf, hi, rfl⟩
  · rw [hf] at c1
    clear hf
    go_enter Tryd.func26, Tryd.ntmps26
    go_wp2
    go_ret2
    exact ⟨rfl, rfl⟩
  · have HH := Lib.hid (has_any w p q s h i false (by simpa using hi))
    rw [hf] at c1
    clear hf hi
    go_enter Tryd.func26, Tryd.ntmps26
    go_wp2_with fail
    refine HH.out.mono ?_
    rintro e w2 ⟨rfl, rfl⟩
    go_wp2
    go_ret2
    exact ⟨rfl, rfl⟩
end Go.Proofs.YthhpilkhcomhbaaDoor
