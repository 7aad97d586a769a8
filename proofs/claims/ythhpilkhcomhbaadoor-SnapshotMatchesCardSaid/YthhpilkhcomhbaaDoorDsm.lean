/- The small functions of a disk. -/
import Derived.Test.YthhpilkhcomhbaaDoorDsk
namespace Go.Proofs.YthhpilkhcomhbaaDoor
open Go.ChangeShapes Go.WideShapes Go.ChangeAt Go.RowKit Go.ChangeMaps

theorem arm_blk {w : World} {p q k n : Nat} {s : St} {k' n' : Int} (h : Dk w p q s) (e1 : k' = (k : Int)) (e2 : n' = (n : Int)) : Blk ((w.setCell ⟨p, 2, none⟩ (.int .i64 k')).setCell ⟨p, 3, none⟩ (.int .i64 n')) p 68 #[.slice (some ⟨q, 0, none⟩) s.R.length s.R.length, .bool s.f, .int .i64 (k : Int), .int .i64 (n : Int), .int .i64 (s.x : Int)] := by
  subst e1 e2; exact Joins.block_setCell (Joins.block_setCell h.1 _) _
section
variable (w : World) (p q : Nat) (s : St) (h : Dk w p q s)
include h
theorem Sectors_any : Calls Tryd.prog 46 #[.pointer (some ⟨p, 0, none⟩)] w fun e w' => e = .returned (.int .i64 (s.R.length : Nat)) ∧ w = w' := by
  have c0 : w.cell? ⟨p, 0, none⟩ = some (.slice (some ⟨q, 0, none⟩) s.R.length s.R.length) := h.1.cell 0
  have c1 : w.cell? ⟨p, 1, none⟩ = some (.bool s.f) := h.1.cell 1
  have c2 : w.cell? ⟨p, 2, none⟩ = some (.int .i64 (s.a : Int)) := h.1.cell 2
  have c3 : w.cell? ⟨p, 3, none⟩ = some (.int .i64 (s.b : Int)) := h.1.cell 3
  have c4 : w.cell? ⟨p, 4, none⟩ = some (.int .i64 (s.x : Int)) := h.1.cell 4
  clear h
  generalize s.R.length = n at *
  go_enter Tryd.func46, Tryd.ntmps46
  go_wp2
  go_ret
  exact ⟨rfl, rfl⟩
theorem Failed_any : Calls Tryd.prog 35 #[.pointer (some ⟨p, 0, none⟩)] w fun e w' => e = .returned (.bool s.f) ∧ w = w' := by
  have c0 : w.cell? ⟨p, 0, none⟩ = some (.slice (some ⟨q, 0, none⟩) s.R.length s.R.length) := h.1.cell 0
  have c1 : w.cell? ⟨p, 1, none⟩ = some (.bool s.f) := h.1.cell 1
  have c2 : w.cell? ⟨p, 2, none⟩ = some (.int .i64 (s.a : Int)) := h.1.cell 2
  have c3 : w.cell? ⟨p, 3, none⟩ = some (.int .i64 (s.b : Int)) := h.1.cell 3
  have c4 : w.cell? ⟨p, 4, none⟩ = some (.int .i64 (s.x : Int)) := h.1.cell 4
  clear h
  go_enter Tryd.func35, Tryd.ntmps35
  go_wp2
  go_ret
  exact ⟨rfl, rfl⟩
theorem has_any (i : Int) (b : Bool) (hb : decide (0 ≤ i ∧ i < s.R.length) = b) : Calls Tryd.prog 40 #[.pointer (some ⟨p, 0, none⟩), .int .i64 i] w fun e w' => e = .returned (.bool b) ∧ w = w' := by
  have c0 : w.cell? ⟨p, 0, none⟩ = some (.slice (some ⟨q, 0, none⟩) s.R.length s.R.length) := h.1.cell 0
  have c1 : w.cell? ⟨p, 1, none⟩ = some (.bool s.f) := h.1.cell 1
  have c2 : w.cell? ⟨p, 2, none⟩ = some (.int .i64 (s.a : Int)) := h.1.cell 2
  have c3 : w.cell? ⟨p, 3, none⟩ = some (.int .i64 (s.b : Int)) := h.1.cell 3
  have c4 : w.cell? ⟨p, 4, none⟩ = some (.int .i64 (s.x : Int)) := h.1.cell 4
  clear h
  generalize s.R.length = n at *
  by_cases h0 : 0 ≤ i
  · have HB : Hid (decide (i < (n : Int)) = b) := Lib.hid (by rw [← hb]; simp [h0])
    clear hb
    go_enter Tryd.func40, Tryd.ntmps40
    go_wp2
    go_ret
    exact ⟨ret_bool (by rw [← HB.out]), rfl⟩
  · obtain rfl : b = false := by rw [← hb]; simp [h0]
    have h1 : i < 0 := by omega
    clear hb h0
    go_enter Tryd.func40, Tryd.ntmps40
    go_wp2
    go_ret
    exact ⟨rfl, rfl⟩
theorem Restart_any : Calls Tryd.prog 24 #[.pointer (some ⟨p, 0, none⟩)] w fun e w' => e = .returned (.tuple #[]) ∧ Dk w' p q s.Re ∧ Chg (PQ p q) w w' := by
  have c0 : w.cell? ⟨p, 0, none⟩ = some (.slice (some ⟨q, 0, none⟩) s.R.length s.R.length) := h.1.cell 0
  have c1 : w.cell? ⟨p, 1, none⟩ = some (.bool s.f) := h.1.cell 1
  have c2 : w.cell? ⟨p, 2, none⟩ = some (.int .i64 (s.a : Int)) := h.1.cell 2
  have c3 : w.cell? ⟨p, 3, none⟩ = some (.int .i64 (s.b : Int)) := h.1.cell 3
  have c4 : w.cell? ⟨p, 4, none⟩ = some (.int .i64 (s.x : Int)) := h.1.cell 4
  have f1 : w.frozen? ⟨p, 1, none⟩ = false := Joins.unfrozen_of_block h.1 1
  have f2 : w.frozen? ⟨p, 2, none⟩ = false := Joins.unfrozen_of_block h.1 2
  have f3 : w.frozen? ⟨p, 3, none⟩ = false := Joins.unfrozen_of_block h.1 3
  have f4 : w.frozen? ⟨p, 4, none⟩ = false := Joins.unfrozen_of_block h.1 4
  have HD := Lib.hid h
  clear h
  go_enter Tryd.func24, Tryd.ntmps24
  go_wp2
  go_end0
  exact ⟨rfl, ⟨Joins.block_setCell HD.out.1 _, HD.out.2.1.chg (F := fun k => k = p) ((Chg.refl (fun k => k = p) w).set_ rfl) (fun e => HD.out.2.2.1 e.symm), HD.out.2.2.1, HD.out.2.2.2⟩, (Chg.refl _ _).set_ (.inl rfl)⟩
theorem Fail_any : Calls Tryd.prog 22 #[.pointer (some ⟨p, 0, none⟩)] w fun e w' => e = .returned (.tuple #[]) ∧ Dk w' p q s.Fl ∧ Chg (PQ p q) w w' := by
  have c0 : w.cell? ⟨p, 0, none⟩ = some (.slice (some ⟨q, 0, none⟩) s.R.length s.R.length) := h.1.cell 0
  have c1 : w.cell? ⟨p, 1, none⟩ = some (.bool s.f) := h.1.cell 1
  have c2 : w.cell? ⟨p, 2, none⟩ = some (.int .i64 (s.a : Int)) := h.1.cell 2
  have c3 : w.cell? ⟨p, 3, none⟩ = some (.int .i64 (s.b : Int)) := h.1.cell 3
  have c4 : w.cell? ⟨p, 4, none⟩ = some (.int .i64 (s.x : Int)) := h.1.cell 4
  have f1 : w.frozen? ⟨p, 1, none⟩ = false := Joins.unfrozen_of_block h.1 1
  have f2 : w.frozen? ⟨p, 2, none⟩ = false := Joins.unfrozen_of_block h.1 2
  have f3 : w.frozen? ⟨p, 3, none⟩ = false := Joins.unfrozen_of_block h.1 3
  have f4 : w.frozen? ⟨p, 4, none⟩ = false := Joins.unfrozen_of_block h.1 4
  have HD := Lib.hid h
  clear h
  go_enter Tryd.func22, Tryd.ntmps22
  go_wp2
  go_end0
  exact ⟨rfl, ⟨Joins.block_setCell (Joins.block_setCell HD.out.1 _) _, HD.out.2.1.chg (F := fun k => k = p) (((Chg.refl (fun k => k = p) w).set_ rfl).set_ rfl) (fun e => HD.out.2.2.1 e.symm), HD.out.2.2.1, HD.out.2.2.2.Fl⟩, ((Chg.refl _ _).set_ (.inl rfl)).set_ (.inl rfl)⟩
theorem Arm_any (k n : Int) (hk : k ≤ 9223372036854775807) : Calls Tryd.prog 25 #[.pointer (some ⟨p, 0, none⟩), .int .i64 k, .int .i64 n] w fun e w' => e = .returned (.tuple #[]) ∧ Dk w' p q (s.Ar k n) ∧ Chg (PQ p q) w w' := by
  have c0 : w.cell? ⟨p, 0, none⟩ = some (.slice (some ⟨q, 0, none⟩) s.R.length s.R.length) := h.1.cell 0
  have c1 : w.cell? ⟨p, 1, none⟩ = some (.bool s.f) := h.1.cell 1
  have c2 : w.cell? ⟨p, 2, none⟩ = some (.int .i64 (s.a : Int)) := h.1.cell 2
  have c3 : w.cell? ⟨p, 3, none⟩ = some (.int .i64 (s.b : Int)) := h.1.cell 3
  have c4 : w.cell? ⟨p, 4, none⟩ = some (.int .i64 (s.x : Int)) := h.1.cell 4
  have f1 : w.frozen? ⟨p, 1, none⟩ = false := Joins.unfrozen_of_block h.1 1
  have f2 : w.frozen? ⟨p, 2, none⟩ = false := Joins.unfrozen_of_block h.1 2
  have f3 : w.frozen? ⟨p, 3, none⟩ = false := Joins.unfrozen_of_block h.1 3
  have f4 : w.frozen? ⟨p, 4, none⟩ = false := Joins.unfrozen_of_block h.1 4
  have HD := Lib.hid h
  clear h
  cases hf : s.f
  · have HA : Hid (s.Ar k n = { s with a := k.toNat, b := min n.toNat 64 }) := Lib.hid (by unfold St.Ar; rw [hf]; rfl)
    rw [hf] at c1
    have HF := Lib.hid hf
    have HO := Lib.hid (HD.out.2.2.2.Ar (n := n) hk)
    rw [HA.out] at HO
    clear hf
    go_enter Tryd.func25, Tryd.ntmps25
    go_wp2
    all_goals go_end0
    all_goals exact ⟨rfl, by rw [HA.out]; exact ⟨arm_blk (s := s) (k := k.toNat) (n := min n.toNat 64) HD.out (by omega) (by omega), HD.out.2.1.chg (F := fun k => k = p) (((Chg.refl (fun k => k = p) w).set_ rfl).set_ rfl) (fun e => HD.out.2.2.1 e.symm), HD.out.2.2.1, HO.out⟩, ((Chg.refl _ _).set_ (.inl rfl)).set_ (.inl rfl)⟩
  · have HA : Hid (s.Ar k n = s) := Lib.hid (by unfold St.Ar; rw [hf]; rfl)
    rw [hf] at c1
    clear hf
    go_enter Tryd.func25, Tryd.ntmps25
    go_wp2
    refine bodyPost_ret (results_none rfl _ _ _) rfl ?_
    exact ⟨rfl, by rw [HA.out]; exact HD.out, Chg.refl _ _⟩
end
end Go.Proofs.YthhpilkhcomhbaaDoor
