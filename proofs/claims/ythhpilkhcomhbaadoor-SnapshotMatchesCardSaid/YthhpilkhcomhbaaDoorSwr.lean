/- Writing a version. -/
import Derived.Test.YthhpilkhcomhbaaDoorSwf
import Derived.Test.YthhpilkhcomhbaaDoorSwl
import Derived.Test.YthhpilkhcomhbaaDoorOwn
namespace Go.Proofs.YthhpilkhcomhbaaDoor
open Go.ChangeShapes Go.WideShapes Go.ChangeAt Go.RowKit Go.ChangeMaps

theorem Env.chg {F : Nat → Prop} {w w' : World} (h : Env w) (hc : Chg F w w') (h0 : ¬ F 0) : Env w' := ⟨fun i hi => chg_cell hc h.big h0 (h.steps i hi), Nat.lt_of_lt_of_le h.big hc.size⟩
theorem bytes_part {w : World} {b off n : Nat} {l : List UInt8} (h : BytesAt w (some ⟨b, off, none⟩) n l) {k m : Nat} (hk : k + m ≤ n) : BytesAt w (some ⟨b, off + k, none⟩) m ((l.drop k).take m) :=
  (h.drop (k := k) (by omega)).take (k := m) (by omega)
theorem take_min {l : List UInt8} {m : Nat} (h : l.length ≤ m) (h2 : m ≤ 64) : l.take 64 = l.take m := by rw [List.take_of_length_le (by omega), List.take_of_length_le h]
set_option maxRecDepth 100000 in
theorem SWrite_fail (w : World) (p q : Nat) (s : St) (h : Dk w p q s) (hf : s.f = true) (e : Nat) (A : Option Addr) (n c : Nat) (d : List UInt8) :
    Calls Tryd.prog 20 #[.pointer (some ⟨p, 0, none⟩), .int .u32 (e : Int), .slice A n c] w fun e' w' => e' = .returned (.int .i64 (SW s e d).2) ∧ Dk w' p q (SW s e d).1 ∧ Chg (PQ p q) w w' := by
  have HC := Lib.hid (cur_fail w p q s h hf)
  have e0 : SW s e d = (s, 15) := by unfold SW; rw [if_pos hf]
  rw [e0]
  rw [hdrV0] at HC
  unfold lay0 at HC
  have HD := Lib.hid h
  clear h e0 hf
  go_enter Tryd.func20, Tryd.ntmps20
  go_wp2_with fail
  refine HC.out.mono ?_
  rintro e1 w1 ⟨rfl, hb⟩
  have HB := Lib.hid hb
  clear hb
  go_wp2
  go_ret
  have hb2 : Below w1.heap.size w1 ((w1.alloc (.cells #[.int .i64 0, .int .i64 0, .int .i64 0, .int .i64 0, .int .i64 0, .int .i64 0, .int .i64 0, .int .i64 0] 24)).alloc (.cells #[.int .u32 0, .int .u32 0, .int .u64 0] 76)) := ((Below.refl _ w1).alloc (Nat.le_refl _) _).alloc (by simp) _
  exact ⟨rfl, HD.out.below (HB.out.trans (hb2.mono HB.out.size)), Chg.of_below (HB.out.trans (hb2.mono HB.out.size))⟩
set_option maxRecDepth 100000 in
theorem SWrite_small (w : World) (p q : Nat) (s : St) (h : Dk w p q s) (hf : s.f = false) (hn7 : s.R.length < 7) (e : Nat) (A : Option Addr) (n c : Nat) (d : List UInt8) :
    Calls Tryd.prog 20 #[.pointer (some ⟨p, 0, none⟩), .int .u32 (e : Int), .slice A n c] w fun e' w' => e' = .returned (.int .i64 (SW s e d).2) ∧ Dk w' p q (SW s e d).1 ∧ Chg (PQ p q) w w' := by
  have HC := Lib.hid (cur_small w p q s h hf hn7)
  have e0 : SW s e d = (s, 1) := by unfold SW; rw [if_neg (by rw [hf]; decide), if_pos hn7]
  rw [e0]
  rw [hdrV0] at HC
  unfold lay0 at HC
  have HD := Lib.hid h
  clear h e0 hf hn7
  go_enter Tryd.func20, Tryd.ntmps20
  go_wp2_with fail
  refine HC.out.mono ?_
  rintro e1 w1 ⟨rfl, hb⟩
  have HB := Lib.hid hb
  clear hb
  go_wp2
  go_ret
  have hb2 : Below w1.heap.size w1 ((w1.alloc (.cells #[.int .i64 0, .int .i64 0, .int .i64 0, .int .i64 0, .int .i64 0, .int .i64 0, .int .i64 0, .int .i64 0] 24)).alloc (.cells #[.int .u32 0, .int .u32 0, .int .u64 0] 76)) := ((Below.refl _ w1).alloc (Nat.le_refl _) _).alloc (by simp) _
  exact ⟨rfl, HD.out.below (HB.out.trans (hb2.mono HB.out.size)), Chg.of_below (HB.out.trans (hb2.mono HB.out.size))⟩
set_option maxRecDepth 100000 in
theorem SWrite_slot (w : World) (p q : Nat) (s : St) (h : Dk w p q s) (hf : s.f = false) (hn7 : 7 ≤ s.R.length) (hsl : 1 < slotOf s) (e : Nat) (A : Option Addr) (n c : Nat) (d : List UInt8) :
    Calls Tryd.prog 20 #[.pointer (some ⟨p, 0, none⟩), .int .u32 (e : Int), .slice A n c] w fun e' w' => e' = .returned (.int .i64 (SW s e d).2) ∧ Dk w' p q (SW s e d).1 ∧ Chg (PQ p q) w w' := by
  have HC := Lib.hid (cur_slot w p q s h hf hn7 hsl)
  have e0 : SW s e d = (s, 17) := by unfold SW; rw [if_neg (by rw [hf]; decide), if_neg (by omega), if_pos hsl]
  rw [e0]
  rw [hdrV0] at HC
  unfold lay0 at HC
  have HD := Lib.hid h
  clear h e0 hf hn7 hsl
  go_enter Tryd.func20, Tryd.ntmps20
  go_wp2_with fail
  refine HC.out.mono ?_
  rintro e1 w1 ⟨rfl, hb⟩
  have HB := Lib.hid hb
  clear hb
  go_wp2
  go_ret
  have hb2 : Below w1.heap.size w1 ((w1.alloc (.cells #[.int .i64 0, .int .i64 0, .int .i64 0, .int .i64 0, .int .i64 0, .int .i64 0, .int .i64 0, .int .i64 0] 24)).alloc (.cells #[.int .u32 0, .int .u32 0, .int .u64 0] 76)) := ((Below.refl _ w1).alloc (Nat.le_refl _) _).alloc (by simp) _
  exact ⟨rfl, HD.out.below (HB.out.trans (hb2.mono HB.out.size)), Chg.of_below (HB.out.trans (hb2.mono HB.out.size))⟩
set_option maxRecDepth 100000 in
theorem SWrite_old0 (w : World) (p q : Nat) (s : St) (h : Dk w p q s) (hf : s.f = false) (hn7 : 7 ≤ s.R.length) (hsl : slotOf s = 0) (e : Nat) (A : Option Addr) (n c : Nat) (d : List UInt8) (hdl : d.length = n) (hE0 : e ≤ epochOf s) :
    Calls Tryd.prog 20 #[.pointer (some ⟨p, 0, none⟩), .int .u32 (e : Int), .slice A n c] w fun e' w' => e' = .returned (.int .i64 (SW s e d).2) ∧ Dk w' p q (SW s e d).1 ∧ Chg (PQ p q) w w' := by
  have e0 : SW s e d = (s, 1) := by
    unfold SW
    rw [if_neg (by rw [hf]; decide), if_neg (by omega), if_neg (by omega), if_pos hE0]
  rw [e0]
  have hn2 : s.R.length ≤ 65536 := h.2.2.2.2.2.1
  obtain ⟨a, ha⟩ : ∃ a : Int, (areaOf s.R.length : Int) = a := ⟨_, rfl⟩
  have hb16 : 1 ≤ a ∧ a ≤ 16383 := by rw [← ha]; unfold areaOf; omega
  obtain ⟨rn, hrn⟩ : ∃ n, s.R.length = n := ⟨_, rfl⟩
  have HCU := Lib.hid (cur_ok w p q s h hf hn7 (by omega))
  rw [ha, hsl, hdrVe, hrn] at HCU
  unfold layV at HCU
  obtain ⟨E, hE⟩ : ∃ x, epochOf s = x := ⟨_, rfl⟩
  obtain ⟨N, hN⟩ : ∃ x, lenOf s = x := ⟨_, rfl⟩
  obtain ⟨C, hC⟩ : ∃ x, sumOf s = x := ⟨_, rfl⟩
  rw [hE, hN, hC] at HCU
  have hei : (e : Int) ≤ E := by omega

  have HD := Lib.hid h
  clear h e0 hf hn7 hsl hE0 hE hN hC ha hrn hdl hn2
  go_enter Tryd.func20, Tryd.ntmps20
  go_wp2_with fail
  refine HCU.out.mono ?_
  rintro e1 w1 ⟨rfl, hb⟩
  have HB := Lib.hid hb
  clear hb
  go_wp2
  go_ret
  have hb2 : Below w1.heap.size w1 ((w1.alloc (.cells #[.int .i64 0, .int .i64 1, .int .i64 2, .int .i64 3, .int .i64 (3 + a), .int .i64 a, .int .i64 (3 + 2 * a), .int .i64 (rn - (3 + 2 * a))] 24)).alloc (.cells #[.int .u32 (E : Int), .int .u32 (N : Int), .int .u64 (C : Int)] 76)) := ((Below.refl _ w1).alloc (Nat.le_refl _) _).alloc (by simp) _
  exact ⟨rfl, HD.out.below (HB.out.trans (hb2.mono HB.out.size)), Chg.of_below (HB.out.trans (hb2.mono HB.out.size))⟩
set_option maxRecDepth 100000 in
theorem SWrite_full0 (w : World) (p q : Nat) (s : St) (h : Dk w p q s) (hf : s.f = false) (hn7 : 7 ≤ s.R.length) (hsl : slotOf s = 0) (e : Nat) (A : Option Addr) (n c : Nat) (d : List UInt8) (hdl : d.length = n) (hE0 : epochOf s < e) (hfull : 64 * areaOf s.R.length < n) :
    Calls Tryd.prog 20 #[.pointer (some ⟨p, 0, none⟩), .int .u32 (e : Int), .slice A n c] w fun e' w' => e' = .returned (.int .i64 (SW s e d).2) ∧ Dk w' p q (SW s e d).1 ∧ Chg (PQ p q) w w' := by
  have e0 : SW s e d = (s, 16) := by
    unfold SW
    rw [if_neg (by rw [hf]; decide), if_neg (by omega), if_neg (by omega), if_neg (by omega), if_pos (by omega)]
  rw [e0]
  have hn2 : s.R.length ≤ 65536 := h.2.2.2.2.2.1
  obtain ⟨a, ha⟩ : ∃ a : Int, (areaOf s.R.length : Int) = a := ⟨_, rfl⟩
  have hb16 : 1 ≤ a ∧ a ≤ 16383 := by rw [← ha]; unfold areaOf; omega
  obtain ⟨rn, hrn⟩ : ∃ n, s.R.length = n := ⟨_, rfl⟩
  have HCU := Lib.hid (cur_ok w p q s h hf hn7 (by omega))
  rw [ha, hsl, hdrVe, hrn] at HCU
  unfold layV at HCU
  obtain ⟨E, hE⟩ : ∃ x, epochOf s = x := ⟨_, rfl⟩
  obtain ⟨N, hN⟩ : ∃ x, lenOf s = x := ⟨_, rfl⟩
  obtain ⟨C, hC⟩ : ∃ x, sumOf s = x := ⟨_, rfl⟩
  rw [hE, hN, hC] at HCU
  have hei : (E : Int) < e := by omega
  have hfi : a * 64 < (n : Int) := by omega
  have HD := Lib.hid h
  clear h e0 hf hn7 hsl hE0 hE hN hC ha hrn hdl hn2 hfull
  go_enter Tryd.func20, Tryd.ntmps20
  go_wp2_with fail
  refine HCU.out.mono ?_
  rintro e1 w1 ⟨rfl, hb⟩
  have HB := Lib.hid hb
  clear hb
  go_wp2
  go_ret
  have hb2 : Below w1.heap.size w1 ((w1.alloc (.cells #[.int .i64 0, .int .i64 1, .int .i64 2, .int .i64 3, .int .i64 (3 + a), .int .i64 a, .int .i64 (3 + 2 * a), .int .i64 (rn - (3 + 2 * a))] 24)).alloc (.cells #[.int .u32 (E : Int), .int .u32 (N : Int), .int .u64 (C : Int)] 76)) := ((Below.refl _ w1).alloc (Nat.le_refl _) _).alloc (by simp) _
  exact ⟨rfl, HD.out.below (HB.out.trans (hb2.mono HB.out.size)), Chg.of_below (HB.out.trans (hb2.mono HB.out.size))⟩
set_option maxRecDepth 100000 in
theorem SWrite_old1 (w : World) (p q : Nat) (s : St) (h : Dk w p q s) (hf : s.f = false) (hn7 : 7 ≤ s.R.length) (hsl : slotOf s = 1) (e : Nat) (A : Option Addr) (n c : Nat) (d : List UInt8) (hdl : d.length = n) (hE0 : e ≤ epochOf s) :
    Calls Tryd.prog 20 #[.pointer (some ⟨p, 0, none⟩), .int .u32 (e : Int), .slice A n c] w fun e' w' => e' = .returned (.int .i64 (SW s e d).2) ∧ Dk w' p q (SW s e d).1 ∧ Chg (PQ p q) w w' := by
  have e0 : SW s e d = (s, 1) := by
    unfold SW
    rw [if_neg (by rw [hf]; decide), if_neg (by omega), if_neg (by omega), if_pos hE0]
  rw [e0]
  have hn2 : s.R.length ≤ 65536 := h.2.2.2.2.2.1
  obtain ⟨a, ha⟩ : ∃ a : Int, (areaOf s.R.length : Int) = a := ⟨_, rfl⟩
  have hb16 : 1 ≤ a ∧ a ≤ 16383 := by rw [← ha]; unfold areaOf; omega
  obtain ⟨rn, hrn⟩ : ∃ n, s.R.length = n := ⟨_, rfl⟩
  have HCU := Lib.hid (cur_ok w p q s h hf hn7 (by omega))
  rw [ha, hsl, hdrVe, hrn] at HCU
  unfold layV at HCU
  obtain ⟨E, hE⟩ : ∃ x, epochOf s = x := ⟨_, rfl⟩
  obtain ⟨N, hN⟩ : ∃ x, lenOf s = x := ⟨_, rfl⟩
  obtain ⟨C, hC⟩ : ∃ x, sumOf s = x := ⟨_, rfl⟩
  rw [hE, hN, hC] at HCU
  have hei : (e : Int) ≤ E := by omega

  have HD := Lib.hid h
  clear h e0 hf hn7 hsl hE0 hE hN hC ha hrn hdl hn2
  go_enter Tryd.func20, Tryd.ntmps20
  go_wp2_with fail
  refine HCU.out.mono ?_
  rintro e1 w1 ⟨rfl, hb⟩
  have HB := Lib.hid hb
  clear hb
  go_wp2
  go_ret
  have hb2 : Below w1.heap.size w1 ((w1.alloc (.cells #[.int .i64 0, .int .i64 1, .int .i64 2, .int .i64 3, .int .i64 (3 + a), .int .i64 a, .int .i64 (3 + 2 * a), .int .i64 (rn - (3 + 2 * a))] 24)).alloc (.cells #[.int .u32 (E : Int), .int .u32 (N : Int), .int .u64 (C : Int)] 76)) := ((Below.refl _ w1).alloc (Nat.le_refl _) _).alloc (by simp) _
  exact ⟨rfl, HD.out.below (HB.out.trans (hb2.mono HB.out.size)), Chg.of_below (HB.out.trans (hb2.mono HB.out.size))⟩
set_option maxRecDepth 100000 in
theorem SWrite_full1 (w : World) (p q : Nat) (s : St) (h : Dk w p q s) (hf : s.f = false) (hn7 : 7 ≤ s.R.length) (hsl : slotOf s = 1) (e : Nat) (A : Option Addr) (n c : Nat) (d : List UInt8) (hdl : d.length = n) (hE0 : epochOf s < e) (hfull : 64 * areaOf s.R.length < n) :
    Calls Tryd.prog 20 #[.pointer (some ⟨p, 0, none⟩), .int .u32 (e : Int), .slice A n c] w fun e' w' => e' = .returned (.int .i64 (SW s e d).2) ∧ Dk w' p q (SW s e d).1 ∧ Chg (PQ p q) w w' := by
  have e0 : SW s e d = (s, 16) := by
    unfold SW
    rw [if_neg (by rw [hf]; decide), if_neg (by omega), if_neg (by omega), if_neg (by omega), if_pos (by omega)]
  rw [e0]
  have hn2 : s.R.length ≤ 65536 := h.2.2.2.2.2.1
  obtain ⟨a, ha⟩ : ∃ a : Int, (areaOf s.R.length : Int) = a := ⟨_, rfl⟩
  have hb16 : 1 ≤ a ∧ a ≤ 16383 := by rw [← ha]; unfold areaOf; omega
  obtain ⟨rn, hrn⟩ : ∃ n, s.R.length = n := ⟨_, rfl⟩
  have HCU := Lib.hid (cur_ok w p q s h hf hn7 (by omega))
  rw [ha, hsl, hdrVe, hrn] at HCU
  unfold layV at HCU
  obtain ⟨E, hE⟩ : ∃ x, epochOf s = x := ⟨_, rfl⟩
  obtain ⟨N, hN⟩ : ∃ x, lenOf s = x := ⟨_, rfl⟩
  obtain ⟨C, hC⟩ : ∃ x, sumOf s = x := ⟨_, rfl⟩
  rw [hE, hN, hC] at HCU
  have hei : (E : Int) < e := by omega
  have hfi : a * 64 < (n : Int) := by omega
  have HD := Lib.hid h
  clear h e0 hf hn7 hsl hE0 hE hN hC ha hrn hdl hn2 hfull
  go_enter Tryd.func20, Tryd.ntmps20
  go_wp2_with fail
  refine HCU.out.mono ?_
  rintro e1 w1 ⟨rfl, hb⟩
  have HB := Lib.hid hb
  clear hb
  go_wp2
  go_ret
  have hb2 : Below w1.heap.size w1 ((w1.alloc (.cells #[.int .i64 0, .int .i64 1, .int .i64 2, .int .i64 3, .int .i64 (3 + a), .int .i64 a, .int .i64 (3 + 2 * a), .int .i64 (rn - (3 + 2 * a))] 24)).alloc (.cells #[.int .u32 (E : Int), .int .u32 (N : Int), .int .u64 (C : Int)] 76)) := ((Below.refl _ w1).alloc (Nat.le_refl _) _).alloc (by simp) _
  exact ⟨rfl, HD.out.below (HB.out.trans (hb2.mono HB.out.size)), Chg.of_below (HB.out.trans (hb2.mono HB.out.size))⟩
end Go.Proofs.YthhpilkhcomhbaaDoor
