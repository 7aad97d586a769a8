/- Writing to a disk. -/
import Derived.Test.YthhpilkhcomhbaaDoorDcp
namespace Go.Proofs.YthhpilkhcomhbaaDoor
open Go.ChangeShapes Go.WideShapes Go.ChangeAt Go.RowKit Go.ChangeMaps

theorem Write_fail (w : World) (p q : Nat) (s : St) (h : Dk w p q s) (hf : s.f = true) (i : Int) (v : Value) : Calls Tryd.prog 27 #[.pointer (some ⟨p, 0, none⟩), .int .i64 i, v] w fun e w' => e = .returned (.int .i64 15) ∧ w = w' := by
  have c0 : w.cell? ⟨p, 0, none⟩ = some (.slice (some ⟨q, 0, none⟩) s.R.length s.R.length) := h.1.cell 0
  have c1 : w.cell? ⟨p, 1, none⟩ = some (.bool s.f) := h.1.cell 1
  have c2 : w.cell? ⟨p, 2, none⟩ = some (.int .i64 (s.a : Int)) := h.1.cell 2
  have c3 : w.cell? ⟨p, 3, none⟩ = some (.int .i64 (s.b : Int)) := h.1.cell 3
  have c4 : w.cell? ⟨p, 4, none⟩ = some (.int .i64 (s.x : Int)) := h.1.cell 4
  rw [hf] at c1
  clear hf h
  go_enter Tryd.func27, Tryd.ntmps27
  go_wp2
  go_ret
  exact ⟨rfl, rfl⟩
theorem Write_bad (w : World) (p q : Nat) (s : St) (h : Dk w p q s) (hf : s.f = false) (i : Int) (A : Option Addr) (n c : Nat) (hb : ¬ (0 ≤ i ∧ i < s.R.length) ∨ n ≠ 64) : Calls Tryd.prog 27 #[.pointer (some ⟨p, 0, none⟩), .int .i64 i, .slice A n c] w fun e w' => e = .returned (.int .i64 1) ∧ w = w' := by
  have c0 : w.cell? ⟨p, 0, none⟩ = some (.slice (some ⟨q, 0, none⟩) s.R.length s.R.length) := h.1.cell 0
  have c1 : w.cell? ⟨p, 1, none⟩ = some (.bool s.f) := h.1.cell 1
  have c2 : w.cell? ⟨p, 2, none⟩ = some (.int .i64 (s.a : Int)) := h.1.cell 2
  have c3 : w.cell? ⟨p, 3, none⟩ = some (.int .i64 (s.b : Int)) := h.1.cell 3
  have c4 : w.cell? ⟨p, 4, none⟩ = some (.int .i64 (s.x : Int)) := h.1.cell 4
  rw [hf] at c1
  by_cases hi : 0 ≤ i ∧ i < s.R.length
  · have HH := Lib.hid (has_any w p q s h i true (by simpa using hi))
    have hn : n ≠ 64 := by rcases hb with hb | hb; (· exact absurd hi hb); exact hb
    have hn2 : ((n : Int) == 64) = false := by simp; omega
    clear hf hi hb h
    go_enter Tryd.func27, Tryd.ntmps27
    go_wp2_with fail
    refine HH.out.mono ?_
    rintro e w2 ⟨rfl, rfl⟩
    go_wp2
    go_ret
    exact ⟨rfl, rfl⟩
  · have HH := Lib.hid (has_any w p q s h i false (by simpa using hi))
    clear hf hi hb h
    go_enter Tryd.func27, Tryd.ntmps27
    go_wp2_with fail
    refine HH.out.mono ?_
    rintro e w2 ⟨rfl, rfl⟩
    go_wp2
    go_ret
    exact ⟨rfl, rfl⟩
set_option maxRecDepth 100000 in
set_option maxHeartbeats 1000000 in
theorem Write_torn (w : World) (p q : Nat) (s : St) (h : Dk w p q s) (hf : s.f = false) (ha : s.a = 1) (k : Nat) (hk : k < s.R.length) (A : Option Addr) (c : Nat) (d : List UInt8) (hd : BytesAt w A 64 d) (hc : 64 ≤ c) :
    Calls Tryd.prog 27 #[.pointer (some ⟨p, 0, none⟩), .int .i64 (k : Int), .slice A 64 c] w fun e w' => e = .returned (.int .i64 15) ∧ Dk w' p q { s with R := s.R.set k (d.take s.b ++ (s.R.getD k []).drop s.b), f := true, a := 0 } ∧ Chg (PQ p q) w w' := by
  have c0 : w.cell? ⟨p, 0, none⟩ = some (.slice (some ⟨q, 0, none⟩) s.R.length s.R.length) := h.1.cell 0
  have c1 : w.cell? ⟨p, 1, none⟩ = some (.bool s.f) := h.1.cell 1
  have c2 : w.cell? ⟨p, 2, none⟩ = some (.int .i64 (s.a : Int)) := h.1.cell 2
  have c3 : w.cell? ⟨p, 3, none⟩ = some (.int .i64 (s.b : Int)) := h.1.cell 3
  have c4 : w.cell? ⟨p, 4, none⟩ = some (.int .i64 (s.x : Int)) := h.1.cell 4
  rw [hf] at c1
  rw [ha] at c2
  have HH := Lib.hid (has_any w p q s h k true (by simp; omega))
  have hb64 : s.b ≤ 64 := h.2.2.2.2.1
  have hki : (k : Int) < s.R.length := by omega
  have hkk : (0 : Int) ≤ (k : Int) := by omega
  have hbb : ((s.b : Nat) : Int) ≤ 64 := by omega
  have hb0 : (0 : Int) ≤ (s.b : Int) := by omega
  have hdl : d.length = 64 := hd.1
  have htl : (d.take s.b).length = s.b := by rw [List.length_take]; omega
  have HR := Lib.hid (show Dk w.drew p q s from h)
  have HR := Lib.hid (HR.out.row hk (cs := d.take s.b) (by omega))
  have HDR : Hid (Chg (PQ p q) w w.drew) := Lib.hid (Chg.of_below (below_drew (Below.refl _ _)))
  have HT := Lib.hid (show s.R.set k (d.take s.b ++ (s.R.getD k []).drop (d.take s.b).length) = s.R.set k (d.take s.b ++ (s.R.getD k []).drop s.b) by rw [htl])
  rw [HT.out] at HR
  clear HT
  have HQ := Lib.hid h.2.1
  have HFL := Lib.hid (flat_len64 h.2.2.2.1)
  have HTL := Lib.hid htl
  obtain ⟨b, off, rfl, hbl, hcc⟩ := hd.2 (by decide)
  have HS := Lib.hid (fun j v => src_take (n := s.b) hcc j v)
  have HK := Lib.hid hk
  have HB := Lib.hid hb64
  have hn : s.R.length ≤ 65536 := h.2.2.2.2.2.1
  clear hcc hd hdl htl h hk
  have ha60 := arr60
  have HL := Lib.hid (show (s.R.length : Nat) * 64 = s.R.length * 64 from rfl)
  generalize hbc : bc (d.take s.b) = cs at *
  generalize hfl : bc s.R.flatten = fl at *
  have HCL : Hid (cs.length = s.b) := Lib.hid (by rw [← hbc, bc_len]; exact HTL.out)
  have HFF : Hid (fl.length = s.R.length * 64) := Lib.hid (by rw [← hfl, bc_len]; exact HFL.out)
  have H1 : Hid (∀ v ∈ cs, v.oneCell' = true) := Lib.hid (by rw [← hbc]; exact bc_one _)
  clear hbc hfl HTL HFL HL
  go_enter Tryd.func27, Tryd.ntmps27
  go_wp2_with fail
  refine HH.out.mono ?_
  rintro e w2 ⟨rfl, rfl⟩
  go_wp2_with fail
  go_region_law (refine step_copy_row rfl (.tmp 35) (.tmp 36) 36 36 rfl 5 Tryd.underlying36 size5 q (k * 64) s.b 64 ⟨b, off, none⟩ 64 c rfl rfl fl 83 ?hg cs ?hn ?hs ?hf H1.out ?_; (case hg => exact HQ.out); (case hn => rw [HCL.out]; exact (Nat.min_eq_right HB.out).symm); (case hs => exact HS.out); (case hf => rw [HCL.out, HFF.out]; have := HK.out; have := HB.out; omega))
  all_goals
    have HM := Lib.hid HR.out.1
    have HC := Lib.hid (HDR.out.trans HR.out.2)
    generalize w.drew.setRow q (splice fl (k * 64) cs).toArray = W at *
    clear HR HDR
    go_wp2_with fail
    refine (Fail_any W p q _ HM.out).mono ?_
    rintro e w3 ⟨rfl, hd3, hc3⟩
    have HM := Lib.hid hd3
    have HC := Lib.hid (HC.out.trans hc3)
    clear hd3 hc3
    go_wp2
    go_ret
    exact ⟨rfl, HM.out, HC.out⟩
theorem Dk.set_a {w : World} {p q n : Nat} {s : St} {v : Int} (h : Dk w p q s) (hv : v = (n : Int)) (hn : n ≤ 9223372036854775807) : Dk (w.setCell ⟨p, 2, none⟩ (.int .i64 v)) p q { s with a := n } := by
  subst hv
  exact ⟨Joins.block_setCell h.1 _, h.2.1.chg (F := fun k => k = p) ((Chg.refl (fun k => k = p) w).set_ rfl) (fun e => h.2.2.1 e.symm), h.2.2.1, h.2.2.2.1, h.2.2.2.2.1, h.2.2.2.2.2.1, hn, h.2.2.2.2.2.2.2⟩
theorem Dk.set_x {w : World} {p q n : Nat} {s : St} {v : Int} (h : Dk w p q s) (hv : v = (n : Int)) (hn : n ≤ 1000000000) : Dk (w.setCell ⟨p, 4, none⟩ (.int .i64 v)) p q { s with x := n } := by
  subst hv
  exact ⟨Joins.block_setCell h.1 _, h.2.1.chg (F := fun k => k = p) ((Chg.refl (fun k => k = p) w).set_ rfl) (fun e => h.2.2.1 e.symm), h.2.2.1, h.2.2.2.1, h.2.2.2.2.1, h.2.2.2.2.2.1, h.2.2.2.2.2.2.1, hn⟩
set_option maxRecDepth 100000 in
set_option maxHeartbeats 1000000 in
theorem Write_zero (w : World) (p q : Nat) (s : St) (h : Dk w p q s) (hf : s.f = false) (ha : s.a = 0) (hx : s.x < 1000000000) (k : Nat) (hk : k < s.R.length) (A : Option Addr) (c : Nat) (d : List UInt8) (hd : BA (PQ p q) w A 64 d) (hc : 64 ≤ c) :
    Calls Tryd.prog 27 #[.pointer (some ⟨p, 0, none⟩), .int .i64 (k : Int), .slice A 64 c] w fun e w' => e = .returned (.int .i64 0) ∧ Dk w' p q { s with R := s.R.set k d, a := s.a - 1, x := s.x + 1 } ∧ Chg (PQ p q) w w' := by
  have c0 : w.cell? ⟨p, 0, none⟩ = some (.slice (some ⟨q, 0, none⟩) s.R.length s.R.length) := h.1.cell 0
  have c1 : w.cell? ⟨p, 1, none⟩ = some (.bool s.f) := h.1.cell 1
  have c2 : w.cell? ⟨p, 2, none⟩ = some (.int .i64 (s.a : Int)) := h.1.cell 2
  have c3 : w.cell? ⟨p, 3, none⟩ = some (.int .i64 (s.b : Int)) := h.1.cell 3
  have c4 : w.cell? ⟨p, 4, none⟩ = some (.int .i64 (s.x : Int)) := h.1.cell 4
  have f1 : w.frozen? ⟨p, 1, none⟩ = false := Joins.unfrozen_of_block h.1 1
  have f2 : w.frozen? ⟨p, 2, none⟩ = false := Joins.unfrozen_of_block h.1 2
  have f3 : w.frozen? ⟨p, 3, none⟩ = false := Joins.unfrozen_of_block h.1 3
  have f4 : w.frozen? ⟨p, 4, none⟩ = false := Joins.unfrozen_of_block h.1 4
  rw [hf] at c1
  have HH := Lib.hid (has_any w p q s h k true (by simp; omega))
  have hki : (k : Int) < s.R.length := by omega
  have hkk : (0 : Int) ≤ (k : Int) := by omega
  have HD := Lib.hid h
  have HDL := Lib.hid hd.1
  have HFL := Lib.hid (flat_len64 h.2.2.2.1)
  have HK := Lib.hid hk
  have HG := Lib.hid (getD_len64 h.2.2.2.1 hk)
  have hn : s.R.length ≤ 65536 := h.2.2.2.2.2.1
  have ha60 := arr60
  have hxx : s.x ≤ 1000000000 := h.2.2.2.2.2.2.2
  have hal : s.a ≤ 9223372036854775807 := h.2.2.2.2.2.2.1
  have ha0 : s.a = 0 := ha
  rw [ha0] at c2
  have HM0 : Hid (Dk w p q { s with a := s.a - 1 }) := Lib.hid (by rw [show s.a - 1 = s.a by omega]; exact HD.out)
  have HC0 : Hid (Chg (PQ p q) w w) := Lib.hid (Chg.refl _ _)
  have HBA := Lib.hid (hd.chg HC0.out)
  have HE : Hid (s.R.set k (d ++ (s.R.getD k []).drop d.length) = s.R.set k d) := Lib.hid (by rw [HDL.out, List.drop_of_length_le (by rw [HG.out]; exact Nat.le_refl _), List.append_nil])
  have HROW := Lib.hid (HM0.out.row (k := k) HK.out (cs := d) (by rw [HDL.out]; exact Nat.le_refl _))
  simp only [HE.out] at HROW
  obtain ⟨b, off, rfl, hbl, hbq, hcc⟩ := HBA.out.2 (by decide)
  have HS := Lib.hid (fun j v => src_take (n := 64) hcc j v)
  rw [List.take_of_length_le (by rw [HDL.out]; exact Nat.le_refl _)] at HS
  clear hcc hd h hf HE hbq HBA HG
  have HCL : Hid ((bc d).length = 64) := Lib.hid (by rw [bc_len]; exact HDL.out)
  have HFF : Hid ((bc s.R.flatten).length = s.R.length * 64) := Lib.hid (by rw [bc_len]; exact HFL.out)
  have H1 : Hid (∀ v ∈ bc d, v.oneCell' = true) := Lib.hid (bc_one _)
  have HQ := Lib.hid HM0.out.2.1
  have e1 : IntKind.i64.wrap ((s.x : Int) + 1) = (s.x : Int) + 1 := IntWalk.i64_in _ (by omega)
  simp only at HQ HROW
  generalize bc d = cs at *
  generalize bc s.R.flatten = fl at *
  clear HFL HM0 HD
  have qc : (Builtin.copy_ #[36, 36] 3 #[.slice (some ⟨q, k * 64, none⟩) 64 64, .slice (some ⟨b, off, none⟩) 64 c]).run Tryd.prog w = .ok (goInt cs.length) (World.setRow w q (splice fl (k * 64) cs).toArray) := by
    have := run_copy_row (P := Tryd.prog) w 36 36 3 5 q (k * 64) 64 64 ⟨b, off, none⟩ 64 c fl.toArray 83 cs Tryd.underlying36 size5 HQ.out (by rw [HCL.out]; rfl) HS.out (by have := HK.out; rw [HCL.out]; simp [HFF.out]; omega) H1.out
    simpa [splice] using this
  have c4r : (World.setRow w q (splice fl (k * 64) cs).toArray).cell? ⟨p, 4, none⟩ = some (.int .i64 (s.x : Int)) := HROW.out.1.1.cell 4
  have f4r : (World.setRow w q (splice fl (k * 64) cs).toArray).frozen? ⟨p, 4, none⟩ = false := Joins.unfrozen_of_block HROW.out.1.1 4
  go_enter Tryd.func27, Tryd.ntmps27
  go_wp2_with fail
  refine HH.out.mono ?_
  rintro e w2 ⟨rfl, rfl⟩
  go_wp2
  go_ret
  exact ⟨rfl, HROW.out.1.set_x (by omega) (by simp; omega), (HC0.out.trans HROW.out.2).set_ (.inl rfl)⟩
set_option maxRecDepth 100000 in
set_option maxHeartbeats 1000000 in
theorem Write_more (w : World) (p q : Nat) (s : St) (h : Dk w p q s) (hf : s.f = false) (ha : 2 ≤ s.a) (hx : s.x < 1000000000) (k : Nat) (hk : k < s.R.length) (A : Option Addr) (c : Nat) (d : List UInt8) (hd : BA (PQ p q) w A 64 d) (hc : 64 ≤ c) :
    Calls Tryd.prog 27 #[.pointer (some ⟨p, 0, none⟩), .int .i64 (k : Int), .slice A 64 c] w fun e w' => e = .returned (.int .i64 0) ∧ Dk w' p q { s with R := s.R.set k d, a := s.a - 1, x := s.x + 1 } ∧ Chg (PQ p q) w w' := by
  have c0 : w.cell? ⟨p, 0, none⟩ = some (.slice (some ⟨q, 0, none⟩) s.R.length s.R.length) := h.1.cell 0
  have c1 : w.cell? ⟨p, 1, none⟩ = some (.bool s.f) := h.1.cell 1
  have c2 : w.cell? ⟨p, 2, none⟩ = some (.int .i64 (s.a : Int)) := h.1.cell 2
  have c3 : w.cell? ⟨p, 3, none⟩ = some (.int .i64 (s.b : Int)) := h.1.cell 3
  have c4 : w.cell? ⟨p, 4, none⟩ = some (.int .i64 (s.x : Int)) := h.1.cell 4
  have f1 : w.frozen? ⟨p, 1, none⟩ = false := Joins.unfrozen_of_block h.1 1
  have f2 : w.frozen? ⟨p, 2, none⟩ = false := Joins.unfrozen_of_block h.1 2
  have f3 : w.frozen? ⟨p, 3, none⟩ = false := Joins.unfrozen_of_block h.1 3
  have f4 : w.frozen? ⟨p, 4, none⟩ = false := Joins.unfrozen_of_block h.1 4
  rw [hf] at c1
  have HH := Lib.hid (has_any w p q s h k true (by simp; omega))
  have hki : (k : Int) < s.R.length := by omega
  have hkk : (0 : Int) ≤ (k : Int) := by omega
  have HD := Lib.hid h
  have HDL := Lib.hid hd.1
  have HFL := Lib.hid (flat_len64 h.2.2.2.1)
  have HK := Lib.hid hk
  have HG := Lib.hid (getD_len64 h.2.2.2.1 hk)
  have hn : s.R.length ≤ 65536 := h.2.2.2.2.2.1
  have ha60 := arr60
  have hxx : s.x ≤ 1000000000 := h.2.2.2.2.2.2.2
  have hal : s.a ≤ 9223372036854775807 := h.2.2.2.2.2.2.1
  have ha2 : 2 ≤ s.a := ha
  have hq1 : ((s.a : Int) == 1) = false := by simp; omega
  have hq2 : (0 : Int) < (s.a : Int) := by omega
  have HM0 : Hid (Dk (w.setCell ⟨p, 2, none⟩ (.int .i64 ((s.a : Int) - 1))) p q { s with a := s.a - 1 }) := Lib.hid (HD.out.set_a (by omega) (by omega))
  have HC0 : Hid (Chg (PQ p q) w (w.setCell ⟨p, 2, none⟩ (.int .i64 ((s.a : Int) - 1)))) := Lib.hid ((Chg.refl _ _).set_ (.inl rfl))
  have HBA := Lib.hid (hd.chg HC0.out)
  have HE : Hid (s.R.set k (d ++ (s.R.getD k []).drop d.length) = s.R.set k d) := Lib.hid (by rw [HDL.out, List.drop_of_length_le (by rw [HG.out]; exact Nat.le_refl _), List.append_nil])
  have HROW := Lib.hid (HM0.out.row (k := k) HK.out (cs := d) (by rw [HDL.out]; exact Nat.le_refl _))
  simp only [HE.out] at HROW
  obtain ⟨b, off, rfl, hbl, hbq, hcc⟩ := HBA.out.2 (by decide)
  have HS := Lib.hid (fun j v => src_take (n := 64) hcc j v)
  rw [List.take_of_length_le (by rw [HDL.out]; exact Nat.le_refl _)] at HS
  clear hcc hd h hf HE hbq HBA HG
  have HCL : Hid ((bc d).length = 64) := Lib.hid (by rw [bc_len]; exact HDL.out)
  have HFF : Hid ((bc s.R.flatten).length = s.R.length * 64) := Lib.hid (by rw [bc_len]; exact HFL.out)
  have H1 : Hid (∀ v ∈ bc d, v.oneCell' = true) := Lib.hid (bc_one _)
  have HQ := Lib.hid HM0.out.2.1
  have e1 : IntKind.i64.wrap ((s.x : Int) + 1) = (s.x : Int) + 1 := IntWalk.i64_in _ (by omega)
  simp only at HQ HROW
  generalize bc d = cs at *
  generalize bc s.R.flatten = fl at *
  clear HFL HM0 HD
  have qc : (Builtin.copy_ #[36, 36] 3 #[.slice (some ⟨q, k * 64, none⟩) 64 64, .slice (some ⟨b, off, none⟩) 64 c]).run Tryd.prog (w.setCell ⟨p, 2, none⟩ (.int .i64 ((s.a : Int) - 1))) = .ok (goInt cs.length) (World.setRow (w.setCell ⟨p, 2, none⟩ (.int .i64 ((s.a : Int) - 1))) q (splice fl (k * 64) cs).toArray) := by
    have := run_copy_row (P := Tryd.prog) (w.setCell ⟨p, 2, none⟩ (.int .i64 ((s.a : Int) - 1))) 36 36 3 5 q (k * 64) 64 64 ⟨b, off, none⟩ 64 c fl.toArray 83 cs Tryd.underlying36 size5 HQ.out (by rw [HCL.out]; rfl) HS.out (by have := HK.out; rw [HCL.out]; simp [HFF.out]; omega) H1.out
    simpa [splice] using this
  have c4r : (World.setRow (w.setCell ⟨p, 2, none⟩ (.int .i64 ((s.a : Int) - 1))) q (splice fl (k * 64) cs).toArray).cell? ⟨p, 4, none⟩ = some (.int .i64 (s.x : Int)) := HROW.out.1.1.cell 4
  have f4r : (World.setRow (w.setCell ⟨p, 2, none⟩ (.int .i64 ((s.a : Int) - 1))) q (splice fl (k * 64) cs).toArray).frozen? ⟨p, 4, none⟩ = false := Joins.unfrozen_of_block HROW.out.1.1 4
  go_enter Tryd.func27, Tryd.ntmps27
  go_wp2_with fail
  refine HH.out.mono ?_
  rintro e w2 ⟨rfl, rfl⟩
  go_wp2
  go_ret
  exact ⟨rfl, HROW.out.1.set_x (by omega) (by simp; omega), (HC0.out.trans HROW.out.2).set_ (.inl rfl)⟩
end Go.Proofs.YthhpilkhcomhbaaDoor
