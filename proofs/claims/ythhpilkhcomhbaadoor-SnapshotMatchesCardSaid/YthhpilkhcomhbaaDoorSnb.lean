/- Srw Srx in one text. -/
import Derived.Test.YthhpilkhcomhbaaDoorSna
import Derived.Test.YthhpilkhcomhbaaDoorSwr
import Derived.Test.YthhpilkhcomhbaaDoorRrd
import Derived.BigQuiet
import Derived.Deep.QuietTactic
namespace Go.Proofs.YthhpilkhcomhbaaDoor
open Go.ChangeShapes Go.WideShapes Go.ChangeAt Go.RowKit Go.ChangeMaps
section
set_option maxRecDepth 100000 in
set_option maxHeartbeats 2000000 in
theorem RSW_fail (F : Nat → Prop) (w : World) (r t : Nat) (s : St) (h : Rk F w r t s) (hf : s.f = true) (e n c : Nat) (A : Option Addr) (d : List UInt8) :
    Calls Tryd.prog 29 #[.pointer (some ⟨r, 0, none⟩), .int .u32 (e : Int), .slice A n c] w fun e' w' => e' = .returned (.int .i64 (SW s e d).2) ∧ Rk F w' r t (SW s e d).1 ∧ Chg (PQ r t) w w' := by
  have e0 : SW s e d = (s, 15) := by unfold SW; rw [if_pos hf]
  rw [e0]
  have HC := Lib.hid (begin_fail w r t s h hf)
  unfold lay0 at HC
  have HD := Lib.hid h
  clear h e0 hf
  go_enter Tryd.func29, Tryd.ntmps29
  go_wp2_with fail
  refine HC.out.mono ?_
  rintro e1 w1 ⟨rfl, hb⟩
  have HB := Lib.hid hb
  clear hb
  go_wp2
  go_ret
  have hb2 : Below w1.heap.size w1 (w1.alloc (.cells #[.int .i64 0, .int .i64 0, .int .i64 0, .int .i64 0, .int .i64 0, .int .i64 0, .int .i64 0, .int .i64 0] 28)) := (Below.refl _ w1).alloc (Nat.le_refl _) _
  exact ⟨rfl, HD.out.below (HB.out.trans (hb2.mono HB.out.size)), Chg.of_below (HB.out.trans (hb2.mono HB.out.size))⟩
set_option maxRecDepth 100000 in
set_option maxHeartbeats 2000000 in
theorem RSW_small (F : Nat → Prop) (w : World) (r t : Nat) (s : St) (h : Rk F w r t s) (hf : s.f = false) (hn7 : s.R.length < 7) (e n c : Nat) (A : Option Addr) (d : List UInt8) :
    Calls Tryd.prog 29 #[.pointer (some ⟨r, 0, none⟩), .int .u32 (e : Int), .slice A n c] w fun e' w' => e' = .returned (.int .i64 (SW s e d).2) ∧ Rk F w' r t (SW s e d).1 ∧ Chg (PQ r t) w w' := by
  have e0 : SW s e d = (s, 1) := by unfold SW; rw [if_neg (by rw [hf]; decide), if_pos hn7]
  rw [e0]
  have HC := Lib.hid (begin_small w r t s h hf hn7)
  unfold lay0 at HC
  have HD := Lib.hid h
  clear h e0 hf hn7
  go_enter Tryd.func29, Tryd.ntmps29
  go_wp2_with fail
  refine HC.out.mono ?_
  rintro e1 w1 ⟨rfl, hb⟩
  have HB := Lib.hid hb
  clear hb
  go_wp2
  go_ret
  have hb2 : Below w1.heap.size w1 (w1.alloc (.cells #[.int .i64 0, .int .i64 0, .int .i64 0, .int .i64 0, .int .i64 0, .int .i64 0, .int .i64 0, .int .i64 0] 28)) := (Below.refl _ w1).alloc (Nat.le_refl _) _
  exact ⟨rfl, HD.out.below (HB.out.trans (hb2.mono HB.out.size)), Chg.of_below (HB.out.trans (hb2.mono HB.out.size))⟩
set_option maxRecDepth 100000 in
set_option maxHeartbeats 2000000 in
theorem RSW_slot (F : Nat → Prop) (w : World) (r t : Nat) (s : St) (h : Rk F w r t s) (hf : s.f = false) (hn7 : 7 ≤ s.R.length) (hsl : 1 < slotOf s) (e n c : Nat) (A : Option Addr) (d : List UInt8) :
    Calls Tryd.prog 29 #[.pointer (some ⟨r, 0, none⟩), .int .u32 (e : Int), .slice A n c] w fun e' w' => e' = .returned (.int .i64 (SW s e d).2) ∧ Rk F w' r t (SW s e d).1 ∧ Chg (PQ r t) w w' := by
  have e0 : SW s e d = (s, 17) := by unfold SW; rw [if_neg (by rw [hf]; decide), if_neg (by omega), if_pos hsl]
  rw [e0]
  have HC := Lib.hid (begin_slot w r t s h hf hn7 hsl)
  obtain ⟨a, ha⟩ : ∃ a : Int, (areaOf s.R.length : Int) = a := ⟨_, rfl⟩
  obtain ⟨rn, hrn⟩ : ∃ n, s.R.length = n := ⟨_, rfl⟩
  rw [ha, hrn] at HC
  unfold layV at HC
  have HD := Lib.hid h
  clear h e0 hf hn7 hsl ha hrn
  go_enter Tryd.func29, Tryd.ntmps29
  go_wp2_with fail
  refine HC.out.mono ?_
  rintro e1 w1 ⟨rfl, hb⟩
  have HB := Lib.hid hb
  clear hb
  go_wp2
  go_ret
  have hb2 : Below w1.heap.size w1 (w1.alloc (.cells #[.int .i64 0, .int .i64 1, .int .i64 2, .int .i64 3, .int .i64 (3 + a), .int .i64 a, .int .i64 (3 + 2 * a), .int .i64 (rn - (3 + 2 * a))] 28)) := (Below.refl _ w1).alloc (Nat.le_refl _) _
  exact ⟨rfl, HD.out.below (HB.out.trans (hb2.mono HB.out.size)), Chg.of_below (HB.out.trans (hb2.mono HB.out.size))⟩
theorem bytes_first {w : World} {b off n : Nat} {l : List UInt8} {m : Nat} (h : BytesAt w (some ⟨b, off, none⟩) n l) (hk : m ≤ n) : BytesAt w (some ⟨b, off, none⟩) m (l.take m) := by
  have h1 := bytes_part h (k := 0) (m := m) (by omega)
  simpa using h1
set_option maxRecDepth 100000 in
set_option maxHeartbeats 2000000 in
theorem RSW_old0 (F : Nat → Prop) (w : World) (r t : Nat) (s : St) (h : Rk F w r t s) (hf : s.f = false) (hn7 : 7 ≤ s.R.length) (hsl : slotOf s = 0) (e n c : Nat) (A : Option Addr) (d : List UInt8) (he32 : e < 4294967296) (hn : n ≤ 100000000) (hdl : d.length = n) (hE0 : e ≤ epochOf s) :
    Calls Tryd.prog 29 #[.pointer (some ⟨r, 0, none⟩), .int .u32 (e : Int), .slice A n c] w fun e' w' => e' = .returned (.int .i64 (SW s e d).2) ∧ Rk F w' r t (SW s e d).1 ∧ Chg (PQ r t) w w' := by
  have e0 : SW s e d = (s, 1) := by
    unfold SW
    rw [if_neg (by rw [hf]; decide), if_neg (by omega), if_neg (by omega), if_pos hE0]
  rw [e0]
  have hn2 : s.R.length ≤ 65536 := h.ok.2.2.1
  have hl0 := getD_len64 (i := 1 + 0) h.ok.1 (by omega)
  obtain ⟨a, ha⟩ : ∃ a : Int, (areaOf s.R.length : Int) = a := ⟨_, rfl⟩
  have hb16 : 1 ≤ a ∧ a ≤ 16383 := by rw [← ha]; unfold areaOf; omega
  have HCU := Lib.hid (begin_ok w r t s h hf hn7 (by omega))
  have HE := Lib.hid (show val ((s.R.getD (1 + 0) []).take 4) = epochOf s by unfold epochOf hdOf; rw [hsl])
  have HD := Lib.hid h
  obtain ⟨E, hE⟩ : ∃ x, epochOf s = x := ⟨_, rfl⟩
  obtain ⟨rn, hrn⟩ : ∃ n, s.R.length = n := ⟨_, rfl⟩
  have HRN := Lib.hid hrn
  have hr7 : 7 ≤ rn := by omega
  rw [ha, hsl, hrn] at HCU
  rw [hE] at HE hE0
  unfold layV at HCU
  have hE1 : decide (e ≤ E) = true := by simpa using hE0
  have hE2 : decide ((e : Int) ≤ (E : Int)) = true := by simp; omega
  clear h e0 hf hsl hE0 hE ha hrn hn2 hdl hl0
  go_enter Tryd.func29, Tryd.ntmps29
  go_wp2_with fail
  refine HCU.out.mono ?_
  rintro e1 w1 ⟨rfl, hb⟩
  have hrl : r < w1.heap.size := by obtain ⟨_, _, c0, _⟩ := (HD.out.below hb).cells; simpa using block_lt_of_cell c0
  have htl : t < w1.heap.size := by obtain ⟨_, _, c0, _⟩ := (HD.out.below hb).sec (1 + 0) (by rw [HRN.out]; omega); simpa using block_lt_of_cell c0
  obtain ⟨W, hW⟩ : ∃ W, W = w1.alloc (.cells #[.int .i64 0, .int .i64 1, .int .i64 2, .int .i64 3, .int .i64 (3 + a), .int .i64 a, .int .i64 (3 + 2 * a), .int .i64 (rn - (3 + 2 * a))] 28) := ⟨_, rfl⟩
  have hb2 : Below w.heap.size w W := by rw [hW]; exact hb.trans (((Below.refl _ w1).alloc (Nat.le_refl _) _).mono hb.size)
  have HL := Lib.hid (show Blk W w1.heap.size 28 #[.int .i64 0, .int .i64 1, .int .i64 2, .int .i64 3, .int .i64 (3 + a), .int .i64 a, .int .i64 (3 + 2 * a), .int .i64 (rn - (3 + 2 * a))] by rw [hW]; exact Blk.new w1 28 _)
  have HNP := Lib.hid (show ¬ PQ r t w1.heap.size from fun hk => by rcases hk with hk | hk <;> omega)
  replace HD := Lib.hid (HD.out.below hb2)
  have HBW := Lib.hid hb2
  clear hb hb2 HCU hrl htl
  go_upto_region 2 with fail
  rw [← hW]
  clear hW
  generalize w1.heap.size = gl at *
  obtain ⟨cap2, hcap2, k0, -⟩ := HD.out.cells
  rw [HRN.out] at k0 hcap2
  obtain ⟨A9, c9, k1, hc9, -, hba, -⟩ := HD.out.sec (1 + 0) (by rw [HRN.out]; omega)
  have k1 : W.cell? ⟨t, 1, none⟩ = some (.slice A9 64 c9) := k1
  obtain ⟨b9, o9, rfl⟩ := hba.at.some (by decide)
  have k2 : W.cell? ⟨gl, 1, none⟩ = some (.int .i64 1) := HL.out.cell 1
  have k3 : W.cell? ⟨gl, 5, none⟩ = some (.int .i64 a) := HL.out.cell 5
  have CV := Lib.hid (fun (m : Nat) => value_any (some ⟨b9, o9, none⟩) 4 c9 _ (W.drewN m) (bytes_first (m := 4) (hba.at.below (below_drewN (Below.refl _ W))) (by decide)) (by decide))
  rw [HE.out] at CV
  have x1 : ((1 : Int) + 0) < rn := by omega
  have x2 : 1 < rn := by omega
  have x3 : (4 : Int) ≤ c9 := by omega
  have x4 : (1 : Int) < rn := by omega
  clear hba
  go_wp2_with fail
  go_quiet ((go_at_call 42; exact Calls.quiet_of_same (CV.out _)))
  go_wp2
  go_ret
  exact ⟨rfl, HD.out.below (below_drewN (Below.refl _ W)), (Chg.of_below HBW.out).trans (Chg.of_below (below_drewN (Below.refl _ W)))⟩
set_option maxRecDepth 100000 in
set_option maxHeartbeats 2000000 in
theorem RSW_full0 (F : Nat → Prop) (w : World) (r t : Nat) (s : St) (h : Rk F w r t s) (hf : s.f = false) (hn7 : 7 ≤ s.R.length) (hsl : slotOf s = 0) (e n c : Nat) (A : Option Addr) (d : List UInt8) (he32 : e < 4294967296) (hn : n ≤ 100000000) (hdl : d.length = n) (hE0 : epochOf s < e) (hfull : 64 * areaOf s.R.length < n) :
    Calls Tryd.prog 29 #[.pointer (some ⟨r, 0, none⟩), .int .u32 (e : Int), .slice A n c] w fun e' w' => e' = .returned (.int .i64 (SW s e d).2) ∧ Rk F w' r t (SW s e d).1 ∧ Chg (PQ r t) w w' := by
  have e0 : SW s e d = (s, 16) := by
    unfold SW
    rw [if_neg (by rw [hf]; decide), if_neg (by omega), if_neg (by omega), if_neg (by omega), if_pos (by omega)]
  rw [e0]
  have hn2 : s.R.length ≤ 65536 := h.ok.2.2.1
  have hl0 := getD_len64 (i := 1 + 0) h.ok.1 (by omega)
  obtain ⟨a, ha⟩ : ∃ a : Int, (areaOf s.R.length : Int) = a := ⟨_, rfl⟩
  have hb16 : 1 ≤ a ∧ a ≤ 16383 := by rw [← ha]; unfold areaOf; omega
  have HCU := Lib.hid (begin_ok w r t s h hf hn7 (by omega))
  have HE := Lib.hid (show val ((s.R.getD (1 + 0) []).take 4) = epochOf s by unfold epochOf hdOf; rw [hsl])
  have HD := Lib.hid h
  obtain ⟨E, hE⟩ : ∃ x, epochOf s = x := ⟨_, rfl⟩
  obtain ⟨rn, hrn⟩ : ∃ n, s.R.length = n := ⟨_, rfl⟩
  have HRN := Lib.hid hrn
  have hr7 : 7 ≤ rn := by omega
  rw [ha, hsl, hrn] at HCU
  rw [hE] at HE hE0
  unfold layV at HCU
  have hfi : 64 * a < (n : Int) := by omega
  have hE1 : decide (e ≤ E) = false := by simp; omega
  have hE2 : decide ((e : Int) ≤ (E : Int)) = false := by simp; omega
  have hwa : IntKind.i64.wrap (64 * a) = 64 * a := by rw [IntWalk.i64_in _ (by omega)]
  have hfj : decide (64 * a < (n : Int)) = true := decide_eq_true hfi
  have hfk : a * 64 < (n : Int) := by omega
  clear h e0 hf hsl hE0 hE ha hrn hn2 hdl hl0 hfull
  go_enter Tryd.func29, Tryd.ntmps29
  go_wp2_with fail
  refine HCU.out.mono ?_
  rintro e1 w1 ⟨rfl, hb⟩
  have hrl : r < w1.heap.size := by obtain ⟨_, _, c0, _⟩ := (HD.out.below hb).cells; simpa using block_lt_of_cell c0
  have htl : t < w1.heap.size := by obtain ⟨_, _, c0, _⟩ := (HD.out.below hb).sec (1 + 0) (by rw [HRN.out]; omega); simpa using block_lt_of_cell c0
  obtain ⟨W, hW⟩ : ∃ W, W = w1.alloc (.cells #[.int .i64 0, .int .i64 1, .int .i64 2, .int .i64 3, .int .i64 (3 + a), .int .i64 a, .int .i64 (3 + 2 * a), .int .i64 (rn - (3 + 2 * a))] 28) := ⟨_, rfl⟩
  have hb2 : Below w.heap.size w W := by rw [hW]; exact hb.trans (((Below.refl _ w1).alloc (Nat.le_refl _) _).mono hb.size)
  have HL := Lib.hid (show Blk W w1.heap.size 28 #[.int .i64 0, .int .i64 1, .int .i64 2, .int .i64 3, .int .i64 (3 + a), .int .i64 a, .int .i64 (3 + 2 * a), .int .i64 (rn - (3 + 2 * a))] by rw [hW]; exact Blk.new w1 28 _)
  have HNP := Lib.hid (show ¬ PQ r t w1.heap.size from fun hk => by rcases hk with hk | hk <;> omega)
  replace HD := Lib.hid (HD.out.below hb2)
  have HBW := Lib.hid hb2
  clear hb hb2 HCU hrl htl
  go_upto_region 2 with fail
  rw [← hW]
  clear hW
  generalize w1.heap.size = gl at *
  obtain ⟨cap2, hcap2, k0, -⟩ := HD.out.cells
  rw [HRN.out] at k0 hcap2
  obtain ⟨A9, c9, k1, hc9, -, hba, -⟩ := HD.out.sec (1 + 0) (by rw [HRN.out]; omega)
  have k1 : W.cell? ⟨t, 1, none⟩ = some (.slice A9 64 c9) := k1
  obtain ⟨b9, o9, rfl⟩ := hba.at.some (by decide)
  have k2 : W.cell? ⟨gl, 1, none⟩ = some (.int .i64 1) := HL.out.cell 1
  have k3 : W.cell? ⟨gl, 5, none⟩ = some (.int .i64 a) := HL.out.cell 5
  have CV := Lib.hid (fun (m : Nat) => value_any (some ⟨b9, o9, none⟩) 4 c9 _ (W.drewN m) (bytes_first (m := 4) (hba.at.below (below_drewN (Below.refl _ W))) (by decide)) (by decide))
  rw [HE.out] at CV
  have x1 : ((1 : Int) + 0) < rn := by omega
  have x2 : 1 < rn := by omega
  have x3 : (4 : Int) ≤ c9 := by omega
  have x4 : (1 : Int) < rn := by omega
  clear hba
  go_wp2_with fail
  go_quiet ((go_at_call 42; exact Calls.quiet_of_same (CV.out _)))
  go_wp2
  go_ret
  exact ⟨rfl, HD.out.below (below_drewN (Below.refl _ W)), (Chg.of_below HBW.out).trans (Chg.of_below (below_drewN (Below.refl _ W)))⟩
set_option maxRecDepth 100000 in
set_option maxHeartbeats 2000000 in
theorem RSW_old1 (F : Nat → Prop) (w : World) (r t : Nat) (s : St) (h : Rk F w r t s) (hf : s.f = false) (hn7 : 7 ≤ s.R.length) (hsl : slotOf s = 1) (e n c : Nat) (A : Option Addr) (d : List UInt8) (he32 : e < 4294967296) (hn : n ≤ 100000000) (hdl : d.length = n) (hE0 : e ≤ epochOf s) :
    Calls Tryd.prog 29 #[.pointer (some ⟨r, 0, none⟩), .int .u32 (e : Int), .slice A n c] w fun e' w' => e' = .returned (.int .i64 (SW s e d).2) ∧ Rk F w' r t (SW s e d).1 ∧ Chg (PQ r t) w w' := by
  have e0 : SW s e d = (s, 1) := by
    unfold SW
    rw [if_neg (by rw [hf]; decide), if_neg (by omega), if_neg (by omega), if_pos hE0]
  rw [e0]
  have hn2 : s.R.length ≤ 65536 := h.ok.2.2.1
  have hl0 := getD_len64 (i := 1 + 1) h.ok.1 (by omega)
  obtain ⟨a, ha⟩ : ∃ a : Int, (areaOf s.R.length : Int) = a := ⟨_, rfl⟩
  have hb16 : 1 ≤ a ∧ a ≤ 16383 := by rw [← ha]; unfold areaOf; omega
  have HCU := Lib.hid (begin_ok w r t s h hf hn7 (by omega))
  have HE := Lib.hid (show val ((s.R.getD (1 + 1) []).take 4) = epochOf s by unfold epochOf hdOf; rw [hsl])
  have HD := Lib.hid h
  obtain ⟨E, hE⟩ : ∃ x, epochOf s = x := ⟨_, rfl⟩
  obtain ⟨rn, hrn⟩ : ∃ n, s.R.length = n := ⟨_, rfl⟩
  have HRN := Lib.hid hrn
  have hr7 : 7 ≤ rn := by omega
  rw [ha, hsl, hrn] at HCU
  rw [hE] at HE hE0
  unfold layV at HCU
  have hE1 : decide (e ≤ E) = true := by simpa using hE0
  have hE2 : decide ((e : Int) ≤ (E : Int)) = true := by simp; omega
  clear h e0 hf hsl hE0 hE ha hrn hn2 hdl hl0
  go_enter Tryd.func29, Tryd.ntmps29
  go_wp2_with fail
  refine HCU.out.mono ?_
  rintro e1 w1 ⟨rfl, hb⟩
  have hrl : r < w1.heap.size := by obtain ⟨_, _, c0, _⟩ := (HD.out.below hb).cells; simpa using block_lt_of_cell c0
  have htl : t < w1.heap.size := by obtain ⟨_, _, c0, _⟩ := (HD.out.below hb).sec (1 + 1) (by rw [HRN.out]; omega); simpa using block_lt_of_cell c0
  obtain ⟨W, hW⟩ : ∃ W, W = w1.alloc (.cells #[.int .i64 0, .int .i64 1, .int .i64 2, .int .i64 3, .int .i64 (3 + a), .int .i64 a, .int .i64 (3 + 2 * a), .int .i64 (rn - (3 + 2 * a))] 28) := ⟨_, rfl⟩
  have hb2 : Below w.heap.size w W := by rw [hW]; exact hb.trans (((Below.refl _ w1).alloc (Nat.le_refl _) _).mono hb.size)
  have HL := Lib.hid (show Blk W w1.heap.size 28 #[.int .i64 0, .int .i64 1, .int .i64 2, .int .i64 3, .int .i64 (3 + a), .int .i64 a, .int .i64 (3 + 2 * a), .int .i64 (rn - (3 + 2 * a))] by rw [hW]; exact Blk.new w1 28 _)
  have HNP := Lib.hid (show ¬ PQ r t w1.heap.size from fun hk => by rcases hk with hk | hk <;> omega)
  replace HD := Lib.hid (HD.out.below hb2)
  have HBW := Lib.hid hb2
  clear hb hb2 HCU hrl htl
  go_upto_region 2 with fail
  rw [← hW]
  clear hW
  generalize w1.heap.size = gl at *
  obtain ⟨cap2, hcap2, k0, -⟩ := HD.out.cells
  rw [HRN.out] at k0 hcap2
  obtain ⟨A9, c9, k1, hc9, -, hba, -⟩ := HD.out.sec (1 + 1) (by rw [HRN.out]; omega)
  have k1 : W.cell? ⟨t, 2, none⟩ = some (.slice A9 64 c9) := k1
  obtain ⟨b9, o9, rfl⟩ := hba.at.some (by decide)
  have k2 : W.cell? ⟨gl, 2, none⟩ = some (.int .i64 2) := HL.out.cell 2
  have k3 : W.cell? ⟨gl, 5, none⟩ = some (.int .i64 a) := HL.out.cell 5
  have CV := Lib.hid (fun (m : Nat) => value_any (some ⟨b9, o9, none⟩) 4 c9 _ (W.drewN m) (bytes_first (m := 4) (hba.at.below (below_drewN (Below.refl _ W))) (by decide)) (by decide))
  rw [HE.out] at CV
  have x1 : ((1 : Int) + 1) < rn := by omega
  have x2 : 2 < rn := by omega
  have x3 : (4 : Int) ≤ c9 := by omega
  have x4 : (2 : Int) < rn := by omega
  clear hba
  go_wp2_with fail
  go_quiet ((go_at_call 42; exact Calls.quiet_of_same (CV.out _)))
  go_wp2
  go_ret
  exact ⟨rfl, HD.out.below (below_drewN (Below.refl _ W)), (Chg.of_below HBW.out).trans (Chg.of_below (below_drewN (Below.refl _ W)))⟩
set_option maxRecDepth 100000 in
set_option maxHeartbeats 2000000 in
theorem RSW_full1 (F : Nat → Prop) (w : World) (r t : Nat) (s : St) (h : Rk F w r t s) (hf : s.f = false) (hn7 : 7 ≤ s.R.length) (hsl : slotOf s = 1) (e n c : Nat) (A : Option Addr) (d : List UInt8) (he32 : e < 4294967296) (hn : n ≤ 100000000) (hdl : d.length = n) (hE0 : epochOf s < e) (hfull : 64 * areaOf s.R.length < n) :
    Calls Tryd.prog 29 #[.pointer (some ⟨r, 0, none⟩), .int .u32 (e : Int), .slice A n c] w fun e' w' => e' = .returned (.int .i64 (SW s e d).2) ∧ Rk F w' r t (SW s e d).1 ∧ Chg (PQ r t) w w' := by
  have e0 : SW s e d = (s, 16) := by
    unfold SW
    rw [if_neg (by rw [hf]; decide), if_neg (by omega), if_neg (by omega), if_neg (by omega), if_pos (by omega)]
  rw [e0]
  have hn2 : s.R.length ≤ 65536 := h.ok.2.2.1
  have hl0 := getD_len64 (i := 1 + 1) h.ok.1 (by omega)
  obtain ⟨a, ha⟩ : ∃ a : Int, (areaOf s.R.length : Int) = a := ⟨_, rfl⟩
  have hb16 : 1 ≤ a ∧ a ≤ 16383 := by rw [← ha]; unfold areaOf; omega
  have HCU := Lib.hid (begin_ok w r t s h hf hn7 (by omega))
  have HE := Lib.hid (show val ((s.R.getD (1 + 1) []).take 4) = epochOf s by unfold epochOf hdOf; rw [hsl])
  have HD := Lib.hid h
  obtain ⟨E, hE⟩ : ∃ x, epochOf s = x := ⟨_, rfl⟩
  obtain ⟨rn, hrn⟩ : ∃ n, s.R.length = n := ⟨_, rfl⟩
  have HRN := Lib.hid hrn
  have hr7 : 7 ≤ rn := by omega
  rw [ha, hsl, hrn] at HCU
  rw [hE] at HE hE0
  unfold layV at HCU
  have hfi : 64 * a < (n : Int) := by omega
  have hE1 : decide (e ≤ E) = false := by simp; omega
  have hE2 : decide ((e : Int) ≤ (E : Int)) = false := by simp; omega
  have hwa : IntKind.i64.wrap (64 * a) = 64 * a := by rw [IntWalk.i64_in _ (by omega)]
  have hfj : decide (64 * a < (n : Int)) = true := decide_eq_true hfi
  have hfk : a * 64 < (n : Int) := by omega
  clear h e0 hf hsl hE0 hE ha hrn hn2 hdl hl0 hfull
  go_enter Tryd.func29, Tryd.ntmps29
  go_wp2_with fail
  refine HCU.out.mono ?_
  rintro e1 w1 ⟨rfl, hb⟩
  have hrl : r < w1.heap.size := by obtain ⟨_, _, c0, _⟩ := (HD.out.below hb).cells; simpa using block_lt_of_cell c0
  have htl : t < w1.heap.size := by obtain ⟨_, _, c0, _⟩ := (HD.out.below hb).sec (1 + 1) (by rw [HRN.out]; omega); simpa using block_lt_of_cell c0
  obtain ⟨W, hW⟩ : ∃ W, W = w1.alloc (.cells #[.int .i64 0, .int .i64 1, .int .i64 2, .int .i64 3, .int .i64 (3 + a), .int .i64 a, .int .i64 (3 + 2 * a), .int .i64 (rn - (3 + 2 * a))] 28) := ⟨_, rfl⟩
  have hb2 : Below w.heap.size w W := by rw [hW]; exact hb.trans (((Below.refl _ w1).alloc (Nat.le_refl _) _).mono hb.size)
  have HL := Lib.hid (show Blk W w1.heap.size 28 #[.int .i64 0, .int .i64 1, .int .i64 2, .int .i64 3, .int .i64 (3 + a), .int .i64 a, .int .i64 (3 + 2 * a), .int .i64 (rn - (3 + 2 * a))] by rw [hW]; exact Blk.new w1 28 _)
  have HNP := Lib.hid (show ¬ PQ r t w1.heap.size from fun hk => by rcases hk with hk | hk <;> omega)
  replace HD := Lib.hid (HD.out.below hb2)
  have HBW := Lib.hid hb2
  clear hb hb2 HCU hrl htl
  go_upto_region 2 with fail
  rw [← hW]
  clear hW
  generalize w1.heap.size = gl at *
  obtain ⟨cap2, hcap2, k0, -⟩ := HD.out.cells
  rw [HRN.out] at k0 hcap2
  obtain ⟨A9, c9, k1, hc9, -, hba, -⟩ := HD.out.sec (1 + 1) (by rw [HRN.out]; omega)
  have k1 : W.cell? ⟨t, 2, none⟩ = some (.slice A9 64 c9) := k1
  obtain ⟨b9, o9, rfl⟩ := hba.at.some (by decide)
  have k2 : W.cell? ⟨gl, 2, none⟩ = some (.int .i64 2) := HL.out.cell 2
  have k3 : W.cell? ⟨gl, 5, none⟩ = some (.int .i64 a) := HL.out.cell 5
  have CV := Lib.hid (fun (m : Nat) => value_any (some ⟨b9, o9, none⟩) 4 c9 _ (W.drewN m) (bytes_first (m := 4) (hba.at.below (below_drewN (Below.refl _ W))) (by decide)) (by decide))
  rw [HE.out] at CV
  have x1 : ((1 : Int) + 1) < rn := by omega
  have x2 : 2 < rn := by omega
  have x3 : (4 : Int) ≤ c9 := by omega
  have x4 : (2 : Int) < rn := by omega
  clear hba
  go_wp2_with fail
  go_quiet ((go_at_call 42; exact Calls.quiet_of_same (CV.out _)))
  go_wp2
  go_ret
  exact ⟨rfl, HD.out.below (below_drewN (Below.refl _ W)), (Chg.of_below HBW.out).trans (Chg.of_below (below_drewN (Below.refl _ W)))⟩
end

section
set_option maxRecDepth 100000 in
set_option maxHeartbeats 2000000 in
theorem RSW_ok0 (F : Nat → Prop) (w : World) (r t : Nat) (s : St) (h : Rk F w r t s) (hr : F r) (ht : F t) (hFB : ∀ k, F k → k < w.heap.size) (hf : s.f = false) (hn7 : 7 ≤ s.R.length) (hsl : slotOf s = 0) (e n c : Nat) (hx : s.x + n + 2 < 1000000000) (he32 : e < 4294967296) (A : Option Addr) (d : List UInt8) (hd : BA F w A n d) (hn : n ≤ 100000) (hnc : n ≤ c) (hcc : c ≤ 9223372036854775807) (hE0 : epochOf s < e) (hfit : n ≤ 64 * areaOf s.R.length) :
    Calls Tryd.prog 29 #[.pointer (some ⟨r, 0, none⟩), .int .u32 (e : Int), .slice A n c] w fun e' w' => e' = .returned (.int .i64 (SW s e d).2) ∧ Rk F w' r t (SW s e d).1 ∧ Chg (PQ r t) w w' := by
  have hdl : d.length = n := hd.1
  obtain ⟨sw, hsw⟩ : ∃ x, SW s e d = x := ⟨_, rfl⟩
  have e0 := hsw
  rw [SW_go (o := 1) hf hn7 (by omega) (by omega) hE0 (by rw [hdl]; exact hfit)] at e0
  obtain ⟨bb, hbb⟩ : ∃ x, 3 + 1 * areaOf s.R.length = x := ⟨_, rfl⟩
  rw [hbb, hdl] at e0
  rw [hsw]
  have hn2 : s.R.length ≤ 65536 := h.ok.2.2.1
  have hl0 := getD_len64 (i := 1 + 0) h.ok.1 (by omega)
  obtain ⟨a, ha⟩ : ∃ a : Int, (areaOf s.R.length : Int) = a := ⟨_, rfl⟩
  have hb16 : 1 ≤ a ∧ a ≤ 16383 := by rw [← ha]; unfold areaOf; omega
  have HCU := Lib.hid (begin_ok w r t s h hf hn7 (by omega))
  have HE := Lib.hid (show val ((s.R.getD (1 + 0) []).take 4) = epochOf s by unfold epochOf hdOf; rw [hsl])
  have HD := Lib.hid h
  obtain ⟨E, hE⟩ : ∃ x, epochOf s = x := ⟨_, rfl⟩
  obtain ⟨rn, hrn⟩ : ∃ n, s.R.length = n := ⟨_, rfl⟩
  have HRN := Lib.hid hrn
  have hr7 : 7 ≤ rn := by omega
  rw [ha, hsl, hrn] at HCU
  rw [hE] at HE hE0
  unfold layV at HCU
  have hbI : (bb : Int) = 3 + a := by rw [← hbb]; simp only [Nat.zero_mul, Nat.one_mul]; omega
  have hE1 : decide (e ≤ E) = false := by simp; omega
  have hE2 : decide ((e : Int) ≤ (E : Int)) = false := by simp; omega
  have hwa : IntKind.i64.wrap (64 * a) = 64 * a := by rw [IntWalk.i64_in _ (by omega)]
  have hfj : decide (64 * a < (n : Int)) = false := decide_eq_false (by omega)
  have hfk : ¬ a * 64 < (n : Int) := by omega
  have hfl : ¬ 64 * a < (n : Int) := by omega
  have HSW := Lib.hid e0
  have HA0 := Lib.hid hd
  have HDL := Lib.hid hdl
  have HFB := Lib.hid hFB
  have HFR := Lib.hid hr
  have HFT := Lib.hid ht
  have HF2 := Lib.hid (show ∀ k, PQ r t k → F k from fun k e => by rcases e with e | e <;> rw [e] <;> assumption)
  clear h e0 hf hsl hE0 hE ha hrn hn2 hdl hl0 hsw hd hbb hfit hFB hr ht
  go_enter Tryd.func29, Tryd.ntmps29
  go_wp2_with fail
  refine HCU.out.mono ?_
  rintro e1 w1 ⟨rfl, hb⟩
  have hrl : r < w1.heap.size := by obtain ⟨_, _, c0, _⟩ := (HD.out.below hb).cells; simpa using block_lt_of_cell c0
  have htl : t < w1.heap.size := by obtain ⟨_, _, c0, _⟩ := (HD.out.below hb).sec (1 + 0) (by rw [HRN.out]; omega); simpa using block_lt_of_cell c0
  obtain ⟨W, hW⟩ : ∃ W, W = w1.alloc (.cells #[.int .i64 0, .int .i64 1, .int .i64 2, .int .i64 3, .int .i64 (3 + a), .int .i64 a, .int .i64 (3 + 2 * a), .int .i64 (rn - (3 + 2 * a))] 28) := ⟨_, rfl⟩
  have hb2 : Below w.heap.size w W := by rw [hW]; exact hb.trans (((Below.refl _ w1).alloc (Nat.le_refl _) _).mono hb.size)
  have HL := Lib.hid (show Blk W w1.heap.size 28 #[.int .i64 0, .int .i64 1, .int .i64 2, .int .i64 3, .int .i64 (3 + a), .int .i64 a, .int .i64 (3 + 2 * a), .int .i64 (rn - (3 + 2 * a))] by rw [hW]; exact Blk.new w1 28 _)
  have HNP := Lib.hid (show ¬ PQ r t w1.heap.size from fun hk => by rcases hk with hk | hk <;> omega)
  replace HD := Lib.hid (HD.out.below hb2)
  have HBW := Lib.hid hb2
  clear hb hb2 HCU hrl htl
  go_upto_region 2 with fail
  rw [← hW]
  clear hW
  generalize w1.heap.size = gl at *
  obtain ⟨cap2, hcap2, k0, -⟩ := HD.out.cells
  rw [HRN.out] at k0 hcap2
  obtain ⟨A9, c9, k1, hc9, -, hba, -⟩ := HD.out.sec (1 + 0) (by rw [HRN.out]; omega)
  have k1 : W.cell? ⟨t, 1, none⟩ = some (.slice A9 64 c9) := k1
  obtain ⟨b9, o9, rfl⟩ := hba.at.some (by decide)
  have k2 : W.cell? ⟨gl, 1, none⟩ = some (.int .i64 1) := HL.out.cell 1
  have k3 : W.cell? ⟨gl, 5, none⟩ = some (.int .i64 a) := HL.out.cell 5
  have CV := Lib.hid (fun (m : Nat) => value_any (some ⟨b9, o9, none⟩) 4 c9 _ (W.drewN m) (bytes_first (m := 4) (hba.at.below (below_drewN (Below.refl _ W))) (by decide)) (by decide))
  rw [HE.out] at CV
  have x1 : ((1 : Int) + 0) < rn := by omega
  have x2 : 1 < rn := by omega
  have x3 : (4 : Int) ≤ c9 := by omega
  have x4 : (1 : Int) < rn := by omega
  clear hba
  go_wp2_with fail
  go_quiet ((go_at_call 42; exact Calls.quiet_of_same (CV.out _)))
  have HA := Lib.hid (HA0.out.below (HBW.out.trans (show Below w.heap.size W (W.drewN nq) from (below_drewN (Below.refl _ W)).mono HBW.out.size)))
  have HDQ := Lib.hid (HD.out.below (below_drewN (n := nq) (Below.refl _ W)))
  have HLQ := Lib.hid (HL.out.below (below_drewN (n := nq) (Below.refl _ W)))
  have HCW := Lib.hid (show Chg (PQ r t) w (W.drewN nq) from (Chg.of_below HBW.out).trans (Chg.of_below (below_drewN (Below.refl _ W))))
  have HFW := Lib.hid (show ∀ k, F k → k < (W.drewN nq).heap.size from fun k hk => Nat.lt_of_lt_of_le (HFB.out k hk) HCW.out.size)
  have k3 : (W.drewN nq).cell? ⟨gl, 5, none⟩ = some (.int .i64 a) := HLQ.out.cell 5
  clear HD HL HA0 HBW HFB k0 k1 k2 CV hcap2 hc9 x1 x2 x3 x4 HRN
  generalize W.drewN nq = W at *
  go_wp2_with fail
  go_loopw [11] (fun iv wr => ∃ (j : Nat) (sk : St), iv = .int .i64 (j : Int) ∧ 64 * j < n + 64 ∧ Rk F wr r t sk ∧ wall n s bb d = wall n sk (bb + j) (d.drop (64 * j)) ∧ sk.x ≤ s.x + j ∧ Chg (PQ r t) W wr) (fun iv _ => n + 64 - (intOf iv).toNat)
  case atStart => exact ⟨0, s, rfl, by omega, HDQ.out, rfl, by omega, Chg.refl _ _⟩
  case round =>
    obtain ⟨j, sk, rfl, hin, hdk, hwl, hxk, hcg⟩ := hrel
    have HK := Lib.hid hdk
    have HWA := Lib.hid hwl
    have HCG := Lib.hid hcg
    clear hdk hwl hcg k3
    obtain ⟨i, hij⟩ : ∃ i, 64 * j = i := ⟨_, rfl⟩
    have HIJ := Lib.hid hij
    have hji : j ≤ i := by omega
    rw [hij] at hin HWA
    have e0 : IntKind.i64.wrap (64 * (j : Int)) = (i : Int) := by rw [IntWalk.i64_in _ (by omega)]; omega
    have e00 : 64 * (j : Int) = (i : Int) := by omega
    have e01 : (j : Int) * 64 = (i : Int) := by omega
    clear hij
    have HFR2 := Lib.hid (show ∀ k, F k → k < wr.heap.size from fun k hk => Nat.lt_of_lt_of_le (HFW.out k hk) HCG.out.size)
    by_cases hlt : i < n
    · have hlti : (i : Int) < n := by omega
      obtain ⟨b, off, rfl⟩ := HA.out.at.some (by omega)
      obtain ⟨rr, hrr⟩ : ∃ x, sk.Wr ((bb + j : Nat) : Int) (padS ((d.drop i).take 64)) = x := ⟨_, rfl⟩
      have e1 : IntKind.i64.wrap ((i : Int) + 64) = (i : Int) + 64 := by rw [IntWalk.i64_in _ (by omega)]
      have e3 : IntKind.i64.wrap (3 + a + (j : Int)) = 3 + a + (j : Int) := by rw [IntWalk.i64_in _ (by omega)]
      have hic : (i : Int) ≤ c := by omega
      have hnci : (n : Int) ≤ c := by omega
      have h0i : (0 : Int) ≤ i := by omega
      obtain ⟨m, tt, hm, e7, e70, e8, e10, e12, e13⟩ : ∃ m t : Nat, (m = 64 ∨ m = n - i) ∧ (if (n : Int) < (i : Int) + 64 then (n : Int) else (i : Int) + 64) = (t : Int) ∧ min ((i : Int) + 64) (n : Int) = (t : Int) ∧ i + m ≤ n ∧ (t : Int) ≤ c ∧ t - i = m ∧ i ≤ t := by
        by_cases h64 : (n : Int) < (i : Int) + 64
        · exact ⟨n - i, n, .inr rfl, by rw [if_pos h64], by omega, by omega, by omega, rfl, by omega⟩
        · exact ⟨64, i + 64, .inl rfl, by rw [if_neg h64]; omega, by omega, by omega, by omega, by omega, by omega⟩
      have e14 : (i : Int) ≤ tt := by omega
      have e11 : ¬ c = i := by omega
      have hm64 : m ≤ 64 := by omega
      have e4 : (d.drop i).take m = (d.drop i).take 64 := by
        rcases hm with hm | hm
        · rw [hm]
        · exact (take_min (by rw [List.length_drop, HDL.out]; omega) hm64).symm
      have HE4 := Lib.hid e4
      have HR := Lib.hid hrr
      clear hm hrr e4
      go_wp2_with fail
      have hD : Below wr.heap.size wr wr.drew := below_drew (Below.refl _ _)
      have HKD := Lib.hid (HK.out.below hD)
      have HAD := Lib.hid ((HA.out.chg (HCG.out.mono HF2.out)).below hD)
      have HFD := Lib.hid (show ∀ k, F k → k < wr.drew.heap.size from HFR2.out)
      replace HCG := Lib.hid (HCG.out.trans (Chg.of_below hD))
      have cl : wr.drew.cell? ⟨gl, 4, none⟩ = some (.int .i64 (3 + a)) := (HLQ.out.chg HCG.out HNP.out).cell 4
      clear hD HK
      refine wp_region_mix 10 (fun w' => w'.cell? ⟨gl, 4, none⟩ = some (.int .i64 (3 + a))) (by kernel_rfl) (by decide) ?_
      generalize wr.drew = D at *
      have CF := Lib.hid (fill_any (some ⟨b, off + i, none⟩) m (c - i) _ D (bytes_part (k := i) (m := m) HAD.out.at (by omega)) hm64)
      rw [HE4.out] at CF
      refine wpM_take (i := 0) (oi := ⟨some 64, _, _, _, _, _⟩) (v := ?_) rfl (by decide +kernel) (by decide +kernel) (by decide +kernel) (fun _ _ _ h => h) (Or.inl ⟨by rfl, ?_⟩) cl ?_
      case refine_2 => (intro w hSw; (try dsimp only at hSw); go_simp; try (with_reducible rfl))
      try simp only [Act.put, List.setIfInBounds_toArray, List.set_cons_zero, List.set_cons_succ]
      refine wpM_take (i := 1) (oi := ⟨some 65, _, _, _, _, _⟩) (v := ?_) rfl (by decide +kernel) (by decide +kernel) (by decide +kernel) (fun _ _ _ h => h) (Or.inl ⟨by rfl, ?_⟩) cl ?_
      case refine_2 => (intro w hSw; (try dsimp only at hSw); go_simp; try (with_reducible rfl))
      try simp only [Act.put, List.setIfInBounds_toArray, List.set_cons_zero, List.set_cons_succ]
      refine wpM_take (i := 2) (oi := ⟨some 66, _, _, _, _, _⟩) (v := ?_) rfl (by decide +kernel) (by decide +kernel) (by decide +kernel) (fun _ _ _ h => h) (Or.inl ⟨by rfl, ?_⟩) cl ?_
      case refine_2 => (intro w hSw; (try dsimp only at hSw); go_simp; try (with_reducible rfl))
      try simp only [Act.put, List.setIfInBounds_toArray, List.set_cons_zero, List.set_cons_succ]
      refine wpM_take (i := 3) (oi := ⟨some 67, _, _, _, _, _⟩) (v := ?_) rfl (by decide +kernel) (by decide +kernel) (by decide +kernel) (fun _ _ _ h => h) (Or.inl ⟨by rfl, ?_⟩) cl ?_
      case refine_2 => (intro w hSw; (try dsimp only at hSw); go_simp; try (with_reducible rfl))
      try simp only [Act.put, List.setIfInBounds_toArray, List.set_cons_zero, List.set_cons_succ]
      refine wpM_take (i := 4) (oi := ⟨some 68, _, _, _, _, _⟩) (v := ?_) rfl (by decide +kernel) (by decide +kernel) (by decide +kernel) (fun _ _ _ h => h) (Or.inl ⟨by rfl, ?_⟩) cl ?_
      case refine_2 => (intro w hSw; (try dsimp only at hSw); go_simp; try (with_reducible rfl))
      try simp only [Act.put, List.setIfInBounds_toArray, List.set_cons_zero, List.set_cons_succ]
      refine wpM_take (i := 5) (oi := ⟨some 69, _, _, _, _, _⟩) (v := ?_) rfl (by decide +kernel) (by decide +kernel) (by decide +kernel) (fun _ _ _ h => h) (Or.inl ⟨by rfl, ?_⟩) cl ?_
      case refine_2 => (intro w hSw; (try dsimp only at hSw); go_simp; try (with_reducible rfl))
      try simp only [Act.put, List.setIfInBounds_toArray, List.set_cons_zero, List.set_cons_succ]
      refine wpM_take (i := 6) (oi := ⟨some 70, _, _, _, _, _⟩) (v := ?_) rfl (by decide +kernel) (by decide +kernel) (by decide +kernel) (fun _ _ _ h => h) (Or.inl ⟨by rfl, ?_⟩) cl ?_
      case refine_2 => (intro w hSw; (try dsimp only at hSw); go_simp; try (with_reducible rfl))
      try simp only [Act.put, List.setIfInBounds_toArray, List.set_cons_zero, List.set_cons_succ]
      refine wpM_take (i := 7) (oi := ⟨some 71, _, _, _, _, _⟩) (v := ?_) rfl (by decide +kernel) (by decide +kernel) (by decide +kernel) (fun _ _ _ h => h) (Or.inl ⟨by rfl, ?_⟩) cl ?_
      case refine_2 => (intro w hSw; (try dsimp only at hSw); go_simp; try (with_reducible rfl))
      try simp only [Act.put, List.setIfInBounds_toArray, List.set_cons_zero, List.set_cons_succ]
      refine wpM_step (i := 8) (o := ⟨some 72, _, _, _, _, _⟩) rfl (by decide +kernel) (by decide) (fun K hK => ?_)
      go_simp
      go_at_call 43
      refine (CF.out).mono ?_
      rintro e9 w9 ⟨v9, rfl, ho9, hb9⟩
      obtain ⟨A9, c9, hv9, hba9, hc9, hcm9⟩ := own_bytes3 (F := F) ho9 HFD.out
      rw [padS_len] at hba9 hc9 hv9
      subst hv9
      have cl9 := keepcell hb9 cl
      refine hK.out _ _ cl9 ?_
      clear hK K
      try simp only [Act.put, List.setIfInBounds_toArray, List.set_cons_zero, List.set_cons_succ]
      refine wpM_step (i := 9) (o := ⟨some 73, _, _, _, _, _⟩) rfl (by decide +kernel) (by decide) (fun K hK => ?_)
      go_simp
      go_at_call 33
      refine (RWrite_any F w9 r t sk (HKD.out.below hb9) HFR.out HFT.out (fun k hk => Nat.lt_of_lt_of_le (HFD.out k hk) hb9.size) (by omega) (3 + a + (j : Int)) A9 64 c9 _ hba9 hc9).mono ?_
      rintro e10 w10 ⟨rfl, hd10, hc10⟩
      rw [show 3 + a + (j : Int) = ((bb + j : Nat) : Int) by omega, HR.out] at hd10 ⊢
      have HK10 := Lib.hid hd10
      have HCG := Lib.hid ((HCG.out.trans (Chg.of_below hb9)).trans hc10)
      have cl10 : w10.cell? ⟨gl, 4, none⟩ = some (.int .i64 (3 + a)) := (HLQ.out.chg HCG.out HNP.out).cell 4
      refine hK.out _ _ cl10 ?_
      clear hK K
      try simp only [Act.put, List.setIfInBounds_toArray, List.set_cons_zero, List.set_cons_succ]
      refine wpM_done (by decide +kernel) ?_
      simp only [List.drop_succ_cons, List.drop_zero]
      clear hd10 hc10 ho9 hba9 hb9 hc9 hcm9 cl cl9 cl10 CF HKD HAD HFD HFR2
      by_cases hr0 : rr.2 = 0
      · rw [hr0]
        go_wp2
        go_roundw
        case rel =>
          refine ⟨j + 1, rr.1, by go_num, by have := HIJ.out; omega, HK10.out, ?_, ?_, HCG.out⟩
          · rw [HWA.out, wall_ok (by rw [List.length_drop, HDL.out]; omega) (by intro h0; have := congrArg List.length h0; rw [List.length_drop, HDL.out] at this; simp at this; omega) (by rw [HR.out]; exact hr0), HR.out, List.drop_drop, show i + 64 = 64 * (j + 1) by have := HIJ.out; omega]
            rfl
          · rw [← HR.out]
            exact Nat.le_trans (St.Wr_x _ _ _) (by omega)
        case measure => simp [intOf]; omega
      · have HFI : Hid (sw = rr) := Lib.hid (by
          have e5 := wall_bad (n := n) (s := sk) (i := bb + j) (d := d.drop i) (by rw [List.length_drop, HDL.out]; omega) (by intro h0; have := congrArg List.length h0; rw [List.length_drop, HDL.out] at this; simp at this; omega) (by rw [HR.out]; exact hr0)
          rw [← HSW.out, HWA.out, e5, HR.out, if_neg hr0])
        have hr1 : decide (rr.2 = 0) = false := by simpa using hr0
        go_wp2
        go_ret
        rw [HFI.out]
        exact ⟨rfl, HK10.out, HCW.out.trans HCG.out⟩
    · have hge : (n : Int) ≤ i := by omega
      have hgn : ¬ (i : Int) < n := by omega
      have hdn : d.drop i = [] := List.drop_of_length_le (by rw [HDL.out]; omega)
      have HFI : Hid (fin2 sk e n (crc 0 d) 1 = sw) := Lib.hid (by
        have e5 := HSW.out
        rw [HWA.out, hdn, wall_nil] at e5
        simpa using e5)
      have hxk2 : sk.x + 2 < 1000000000 := by omega
      have HXK := Lib.hid hxk2
      clear hdn hxk hxk2
      obtain ⟨rr, hrr⟩ : ∃ x, sk.Wr ((1 + 1 : Nat) : Int) (hdr e n (crc 0 d)) = x := ⟨_, rfl⟩
      have HR := Lib.hid hrr
      clear hrr
      go_wp2_with fail
      have hD : Below wr.heap.size wr wr.drew := below_drew (Below.refl _ _)
      have HKD := Lib.hid (HK.out.below hD)
      have HAD := Lib.hid ((HA.out.chg (HCG.out.mono HF2.out)).below hD)
      have HFD := Lib.hid (show ∀ k, F k → k < wr.drew.heap.size from HFR2.out)
      replace HCG := Lib.hid (HCG.out.trans (Chg.of_below hD))
      have cl : wr.drew.cell? ⟨gl, 2, none⟩ = some (.int .i64 (2)) := (HLQ.out.chg HCG.out HNP.out).cell 2
      clear hD HK
      refine wp_region_mix 9 (fun w' => w'.cell? ⟨gl, 2, none⟩ = some (.int .i64 (2))) (by kernel_rfl) (by decide) ?_
      generalize wr.drew = D at *
      have CH := Lib.hid (Header_any e A n c d D HAD.out.at he32 hn)
      refine wpM_take (i := 0) (oi := ⟨some 77, _, _, _, _, _⟩) (v := ?_) rfl (by decide +kernel) (by decide +kernel) (by decide +kernel) (fun _ _ _ h => h) (Or.inl ⟨by rfl, ?_⟩) cl ?_
      case refine_2 => (intro w hSw; (try dsimp only at hSw); go_simp; try (with_reducible rfl))
      try simp only [Act.put, List.setIfInBounds_toArray, List.set_cons_zero, List.set_cons_succ]
      refine wpM_take (i := 1) (oi := ⟨some 78, _, _, _, _, _⟩) (v := ?_) rfl (by decide +kernel) (by decide +kernel) (by decide +kernel) (fun _ _ _ h => h) (Or.inl ⟨by rfl, ?_⟩) cl ?_
      case refine_2 => (intro w hSw; (try dsimp only at hSw); go_simp; try (with_reducible rfl))
      try simp only [Act.put, List.setIfInBounds_toArray, List.set_cons_zero, List.set_cons_succ]
      refine wpM_take (i := 2) (oi := ⟨some 79, _, _, _, _, _⟩) (v := ?_) rfl (by decide +kernel) (by decide +kernel) (by decide +kernel) (fun _ _ _ h => h) (Or.inl ⟨by rfl, ?_⟩) cl ?_
      case refine_2 => (intro w hSw; (try dsimp only at hSw); go_simp; try (with_reducible rfl))
      try simp only [Act.put, List.setIfInBounds_toArray, List.set_cons_zero, List.set_cons_succ]
      refine wpM_take (i := 3) (oi := ⟨some 80, _, _, _, _, _⟩) (v := ?_) rfl (by decide +kernel) (by decide +kernel) (by decide +kernel) (fun _ _ _ h => h) (Or.inl ⟨by rfl, ?_⟩) cl ?_
      case refine_2 => (intro w hSw; (try dsimp only at hSw); go_simp; try (with_reducible rfl))
      try simp only [Act.put, List.setIfInBounds_toArray, List.set_cons_zero, List.set_cons_succ]
      refine wpM_take (i := 4) (oi := ⟨some 81, _, _, _, _, _⟩) (v := ?_) rfl (by decide +kernel) (by decide +kernel) (by decide +kernel) (fun _ _ _ h => h) (Or.inl ⟨by rfl, ?_⟩) cl ?_
      case refine_2 => (intro w hSw; (try dsimp only at hSw); go_simp; try (with_reducible rfl))
      try simp only [Act.put, List.setIfInBounds_toArray, List.set_cons_zero, List.set_cons_succ]
      refine wpM_take (i := 5) (oi := ⟨some 82, _, _, _, _, _⟩) (v := ?_) rfl (by decide +kernel) (by decide +kernel) (by decide +kernel) (fun _ _ _ h => h) (Or.inl ⟨by rfl, ?_⟩) cl ?_
      case refine_2 => (intro w hSw; (try dsimp only at hSw); go_simp; try (with_reducible rfl))
      try simp only [Act.put, List.setIfInBounds_toArray, List.set_cons_zero, List.set_cons_succ]
      refine wpM_take (i := 6) (oi := ⟨some 83, _, _, _, _, _⟩) (v := ?_) rfl (by decide +kernel) (by decide +kernel) (by decide +kernel) (fun _ _ _ h => h) (Or.inl ⟨by rfl, ?_⟩) cl ?_
      case refine_2 => (intro w hSw; (try dsimp only at hSw); go_simp; try (with_reducible rfl))
      try simp only [Act.put, List.setIfInBounds_toArray, List.set_cons_zero, List.set_cons_succ]
      refine wpM_step (i := 7) (o := ⟨some 84, _, _, _, _, _⟩) rfl (by decide +kernel) (by decide) (fun K hK => ?_)
      go_simp
      go_at_call 44
      refine CH.out.mono ?_
      rintro e9 w9 ⟨v9, rfl, ho9, hb9⟩
      obtain ⟨A9, c9, hv9, hba9, hc9, hcm9⟩ := own_bytes3 (F := F) ho9 HFD.out
      rw [hdr_len] at hba9 hc9 hv9
      subst hv9
      have cl9 := keepcell hb9 cl
      refine hK.out _ _ cl9 ?_
      clear hK K
      try simp only [Act.put, List.setIfInBounds_toArray, List.set_cons_zero, List.set_cons_succ]
      refine wpM_step (i := 8) (o := ⟨some 85, _, _, _, _, _⟩) rfl (by decide +kernel) (by decide) (fun K hK => ?_)
      go_simp
      go_at_call 33
      refine (RWrite_any F w9 r t sk (HKD.out.below hb9) HFR.out HFT.out (fun k hk => Nat.lt_of_lt_of_le (HFD.out k hk) hb9.size) (by have := HXK.out; omega) 2 A9 64 c9 _ hba9 hc9).mono ?_
      rintro e10 w10 ⟨rfl, hd10, hc10⟩
      rw [show sk.Wr 2 (hdr e n (crc 0 d)) = rr from HR.out] at hd10 ⊢
      have HK10 := Lib.hid hd10
      have HCG := Lib.hid ((HCG.out.trans (Chg.of_below hb9)).trans hc10)
      have cl10 : w10.cell? ⟨gl, 2, none⟩ = some (.int .i64 (2)) := (HLQ.out.chg HCG.out HNP.out).cell 2
      refine hK.out _ _ cl10 ?_
      clear hK K
      try simp only [Act.put, List.setIfInBounds_toArray, List.set_cons_zero, List.set_cons_succ]
      refine wpM_done (by decide +kernel) ?_
      simp only [List.drop_succ_cons, List.drop_zero]
      clear hd10 hc10 ho9 hba9 hb9 hc9 hcm9 cl cl9 cl10 CH HKD HAD
      by_cases hr0 : rr.2 = 0
      · rw [hr0]
        have HF3 : Hid (rr.1.Wr 0 (padS [UInt8.ofNat 1]) = sw) := Lib.hid (by
          have := HFI.out
          unfold fin2 at this
          rw [HR.out, if_pos hr0] at this
          exact this)
        have hrx : rr.1.x < 1000000000 := by
          have h1 := St.Wr_x sk ((1 + 1 : Nat) : Int) (hdr e n (crc 0 d))
          rw [HR.out] at h1
          have := HXK.out
          omega
        go_wp2_with fail
        have hD : Below w10.heap.size w10 w10.drew := below_drew (Below.refl _ _)
        have HK10 := Lib.hid (HK10.out.below hD)
        replace HCG := Lib.hid (HCG.out.trans (Chg.of_below hD))
        have HFD := Lib.hid (show ∀ k, F k → k < w10.drew.heap.size from fun k hk => Nat.lt_of_lt_of_le (HFW.out k hk) HCG.out.size)
        have cl : w10.drew.cell? ⟨gl, 0, none⟩ = some (.int .i64 (0)) := (HLQ.out.chg HCG.out HNP.out).cell 0
        clear hD
        refine wp_region_mix 8 (fun w' => w'.cell? ⟨gl, 0, none⟩ = some (.int .i64 (0))) (by kernel_rfl) (by decide) ?_
        generalize w10.drew = D at *
        have hbn : Below D.heap.size D (D.alloc (.cells #[.int .u8 1] 5)) := (Below.refl _ _).alloc (Nat.le_refl _) _
        have hkn : Blk (D.alloc (.cells #[.int .u8 1] 5)) D.heap.size 5 (bc [UInt8.ofNat 1]).toArray := Blk.new D 5 _
        have CF := Lib.hid (fill_any (some ⟨D.heap.size, 0, none⟩) 1 1 [UInt8.ofNat 1] _ (bytes_of_blk hkn rfl) (by decide))
        have HKN := Lib.hid (HK10.out.below hbn)
        have cl0 := keepcell hbn cl
        replace HCG := Lib.hid (HCG.out.trans (Chg.of_below hbn))
        have HFD2 := Lib.hid (show ∀ k, F k → k < (D.alloc (.cells #[.int .u8 1] 5)).heap.size from fun k hk => Nat.lt_of_lt_of_le (HFD.out k hk) hbn.size)
        clear hbn hkn
        refine wpM_take (i := 0) (oi := ⟨some 89, _, _, _, _, _⟩) (v := ?_) rfl (by decide +kernel) (by decide +kernel) (by decide +kernel) (fun _ _ _ h => h) (Or.inl ⟨by rfl, ?_⟩) cl ?_
        case refine_2 => (intro w hSw; (try dsimp only at hSw); go_simp; try (with_reducible rfl))
        try simp only [Act.put, List.setIfInBounds_toArray, List.set_cons_zero, List.set_cons_succ]
        refine wpM_take (i := 1) (oi := ⟨some 90, _, _, _, _, _⟩) (v := ?_) rfl (by decide +kernel) (by decide +kernel) (by decide +kernel) (fun _ _ _ h => h) (Or.inl ⟨by rfl, ?_⟩) cl ?_
        case refine_2 => (intro w hSw; (try dsimp only at hSw); go_simp; try (with_reducible rfl))
        try simp only [Act.put, List.setIfInBounds_toArray, List.set_cons_zero, List.set_cons_succ]
        refine wpM_take (i := 2) (oi := ⟨some 91, _, _, _, _, _⟩) (v := ?_) rfl (by decide +kernel) (by decide +kernel) (by decide +kernel) (fun _ _ _ h => h) (Or.inl ⟨by rfl, ?_⟩) cl ?_
        case refine_2 => (intro w hSw; (try dsimp only at hSw); go_simp; try (with_reducible rfl))
        try simp only [Act.put, List.setIfInBounds_toArray, List.set_cons_zero, List.set_cons_succ]
        refine wpM_take (i := 3) (oi := ⟨some 92, _, _, _, _, _⟩) (v := ?_) rfl (by decide +kernel) (by decide +kernel) (by decide +kernel) (fun _ _ _ h => h) (Or.inl ⟨by rfl, ?_⟩) cl ?_
        case refine_2 => (intro w hSw; (try dsimp only at hSw); go_simp; try (with_reducible rfl))
        try simp only [Act.put, List.setIfInBounds_toArray, List.set_cons_zero, List.set_cons_succ]
        refine wpM_take (i := 4) (oi := ⟨some 93, _, _, _, _, _⟩) (v := ?_) rfl (by decide +kernel) (by decide +kernel) (by decide +kernel) (fun _ _ _ h => h) (Or.inl ⟨by rfl, ?_⟩) cl ?_
        case refine_2 => (intro w hSw; (try dsimp only at hSw); go_simp; try (with_reducible rfl))
        try simp only [Act.put, List.setIfInBounds_toArray, List.set_cons_zero, List.set_cons_succ]
        refine wpM_step (i := 5) (o := ⟨some 94, _, _, _, _, _⟩) rfl (by decide +kernel) (by decide) (fun K hK => ?_)
        go_simp
        refine hK.out _ _ cl0 ?_
        clear hK K
        try simp only [Act.put, List.setIfInBounds_toArray, List.set_cons_zero, List.set_cons_succ]
        refine wpM_step (i := 6) (o := ⟨some 95, _, _, _, _, _⟩) rfl (by decide +kernel) (by decide) (fun K hK => ?_)
        go_simp
        go_at_call 43
        refine (CF.out).mono ?_
        rintro e9 w9 ⟨v9, rfl, ho9, hb9⟩
        obtain ⟨A9, c9, hv9, hba9, hc9, hcm9⟩ := own_bytes3 (F := F) ho9 HFD2.out
        rw [padS_len] at hba9 hc9 hv9
        subst hv9
        have cl9 := keepcell hb9 cl0
        refine hK.out _ _ cl9 ?_
        clear hK K
        try simp only [Act.put, List.setIfInBounds_toArray, List.set_cons_zero, List.set_cons_succ]
        refine wpM_step (i := 7) (o := ⟨some 96, _, _, _, _, _⟩) rfl (by decide +kernel) (by decide) (fun K hK => ?_)
        go_simp
        go_at_call 33
        refine (RWrite_any F w9 r t rr.1 (HKN.out.below hb9) HFR.out HFT.out (fun k hk => Nat.lt_of_lt_of_le (HFD2.out k hk) hb9.size) hrx 0 A9 64 c9 _ hba9 hc9).mono ?_
        rintro e10 w12 ⟨rfl, hd10, hc10⟩
        rw [HF3.out] at hd10 ⊢
        have HK12 := Lib.hid hd10
        have HCG := Lib.hid ((HCG.out.trans (Chg.of_below hb9)).trans hc10)
        have cl10 : w12.cell? ⟨gl, 0, none⟩ = some (.int .i64 (0)) := (HLQ.out.chg HCG.out HNP.out).cell 0
        refine hK.out _ _ cl10 ?_
        clear hK K
        try simp only [Act.put, List.setIfInBounds_toArray, List.set_cons_zero, List.set_cons_succ]
        refine wpM_done (by decide +kernel) ?_
        simp only [List.drop_succ_cons, List.drop_zero]
        go_wp2
        go_ret
        exact ⟨rfl, HK12.out, HCW.out.trans HCG.out⟩
      · have HF3 : Hid (rr = sw) := Lib.hid (by
          have := HFI.out
          unfold fin2 at this
          rw [HR.out, if_neg hr0] at this
          exact this)
        have hr1 : decide (rr.2 = 0) = false := by simpa using hr0
        go_wp2
        go_ret
        rw [← HF3.out]
        exact ⟨rfl, HK10.out, HCW.out.trans HCG.out⟩
set_option maxRecDepth 100000 in
set_option maxHeartbeats 2000000 in
theorem RSW_ok1 (F : Nat → Prop) (w : World) (r t : Nat) (s : St) (h : Rk F w r t s) (hr : F r) (ht : F t) (hFB : ∀ k, F k → k < w.heap.size) (hf : s.f = false) (hn7 : 7 ≤ s.R.length) (hsl : slotOf s = 1) (e n c : Nat) (hx : s.x + n + 2 < 1000000000) (he32 : e < 4294967296) (A : Option Addr) (d : List UInt8) (hd : BA F w A n d) (hn : n ≤ 100000) (hnc : n ≤ c) (hcc : c ≤ 9223372036854775807) (hE0 : epochOf s < e) (hfit : n ≤ 64 * areaOf s.R.length) :
    Calls Tryd.prog 29 #[.pointer (some ⟨r, 0, none⟩), .int .u32 (e : Int), .slice A n c] w fun e' w' => e' = .returned (.int .i64 (SW s e d).2) ∧ Rk F w' r t (SW s e d).1 ∧ Chg (PQ r t) w w' := by
  have hdl : d.length = n := hd.1
  obtain ⟨sw, hsw⟩ : ∃ x, SW s e d = x := ⟨_, rfl⟩
  have e0 := hsw
  rw [SW_go (o := 0) hf hn7 (by omega) (by omega) hE0 (by rw [hdl]; exact hfit)] at e0
  obtain ⟨bb, hbb⟩ : ∃ x, 3 + 0 * areaOf s.R.length = x := ⟨_, rfl⟩
  rw [hbb, hdl] at e0
  rw [hsw]
  have hn2 : s.R.length ≤ 65536 := h.ok.2.2.1
  have hl0 := getD_len64 (i := 1 + 1) h.ok.1 (by omega)
  obtain ⟨a, ha⟩ : ∃ a : Int, (areaOf s.R.length : Int) = a := ⟨_, rfl⟩
  have hb16 : 1 ≤ a ∧ a ≤ 16383 := by rw [← ha]; unfold areaOf; omega
  have HCU := Lib.hid (begin_ok w r t s h hf hn7 (by omega))
  have HE := Lib.hid (show val ((s.R.getD (1 + 1) []).take 4) = epochOf s by unfold epochOf hdOf; rw [hsl])
  have HD := Lib.hid h
  obtain ⟨E, hE⟩ : ∃ x, epochOf s = x := ⟨_, rfl⟩
  obtain ⟨rn, hrn⟩ : ∃ n, s.R.length = n := ⟨_, rfl⟩
  have HRN := Lib.hid hrn
  have hr7 : 7 ≤ rn := by omega
  rw [ha, hsl, hrn] at HCU
  rw [hE] at HE hE0
  unfold layV at HCU
  have hbI : (bb : Int) = 3 := by rw [← hbb]; simp only [Nat.zero_mul, Nat.one_mul]; omega
  have hE1 : decide (e ≤ E) = false := by simp; omega
  have hE2 : decide ((e : Int) ≤ (E : Int)) = false := by simp; omega
  have hwa : IntKind.i64.wrap (64 * a) = 64 * a := by rw [IntWalk.i64_in _ (by omega)]
  have hfj : decide (64 * a < (n : Int)) = false := decide_eq_false (by omega)
  have hfk : ¬ a * 64 < (n : Int) := by omega
  have hfl : ¬ 64 * a < (n : Int) := by omega
  have HSW := Lib.hid e0
  have HA0 := Lib.hid hd
  have HDL := Lib.hid hdl
  have HFB := Lib.hid hFB
  have HFR := Lib.hid hr
  have HFT := Lib.hid ht
  have HF2 := Lib.hid (show ∀ k, PQ r t k → F k from fun k e => by rcases e with e | e <;> rw [e] <;> assumption)
  clear h e0 hf hsl hE0 hE ha hrn hn2 hdl hl0 hsw hd hbb hfit hFB hr ht
  go_enter Tryd.func29, Tryd.ntmps29
  go_wp2_with fail
  refine HCU.out.mono ?_
  rintro e1 w1 ⟨rfl, hb⟩
  have hrl : r < w1.heap.size := by obtain ⟨_, _, c0, _⟩ := (HD.out.below hb).cells; simpa using block_lt_of_cell c0
  have htl : t < w1.heap.size := by obtain ⟨_, _, c0, _⟩ := (HD.out.below hb).sec (1 + 1) (by rw [HRN.out]; omega); simpa using block_lt_of_cell c0
  obtain ⟨W, hW⟩ : ∃ W, W = w1.alloc (.cells #[.int .i64 0, .int .i64 1, .int .i64 2, .int .i64 3, .int .i64 (3 + a), .int .i64 a, .int .i64 (3 + 2 * a), .int .i64 (rn - (3 + 2 * a))] 28) := ⟨_, rfl⟩
  have hb2 : Below w.heap.size w W := by rw [hW]; exact hb.trans (((Below.refl _ w1).alloc (Nat.le_refl _) _).mono hb.size)
  have HL := Lib.hid (show Blk W w1.heap.size 28 #[.int .i64 0, .int .i64 1, .int .i64 2, .int .i64 3, .int .i64 (3 + a), .int .i64 a, .int .i64 (3 + 2 * a), .int .i64 (rn - (3 + 2 * a))] by rw [hW]; exact Blk.new w1 28 _)
  have HNP := Lib.hid (show ¬ PQ r t w1.heap.size from fun hk => by rcases hk with hk | hk <;> omega)
  replace HD := Lib.hid (HD.out.below hb2)
  have HBW := Lib.hid hb2
  clear hb hb2 HCU hrl htl
  go_upto_region 2 with fail
  rw [← hW]
  clear hW
  generalize w1.heap.size = gl at *
  obtain ⟨cap2, hcap2, k0, -⟩ := HD.out.cells
  rw [HRN.out] at k0 hcap2
  obtain ⟨A9, c9, k1, hc9, -, hba, -⟩ := HD.out.sec (1 + 1) (by rw [HRN.out]; omega)
  have k1 : W.cell? ⟨t, 2, none⟩ = some (.slice A9 64 c9) := k1
  obtain ⟨b9, o9, rfl⟩ := hba.at.some (by decide)
  have k2 : W.cell? ⟨gl, 2, none⟩ = some (.int .i64 2) := HL.out.cell 2
  have k3 : W.cell? ⟨gl, 5, none⟩ = some (.int .i64 a) := HL.out.cell 5
  have CV := Lib.hid (fun (m : Nat) => value_any (some ⟨b9, o9, none⟩) 4 c9 _ (W.drewN m) (bytes_first (m := 4) (hba.at.below (below_drewN (Below.refl _ W))) (by decide)) (by decide))
  rw [HE.out] at CV
  have x1 : ((1 : Int) + 1) < rn := by omega
  have x2 : 2 < rn := by omega
  have x3 : (4 : Int) ≤ c9 := by omega
  have x4 : (2 : Int) < rn := by omega
  clear hba
  go_wp2_with fail
  go_quiet ((go_at_call 42; exact Calls.quiet_of_same (CV.out _)))
  have HA := Lib.hid (HA0.out.below (HBW.out.trans (show Below w.heap.size W (W.drewN nq) from (below_drewN (Below.refl _ W)).mono HBW.out.size)))
  have HDQ := Lib.hid (HD.out.below (below_drewN (n := nq) (Below.refl _ W)))
  have HLQ := Lib.hid (HL.out.below (below_drewN (n := nq) (Below.refl _ W)))
  have HCW := Lib.hid (show Chg (PQ r t) w (W.drewN nq) from (Chg.of_below HBW.out).trans (Chg.of_below (below_drewN (Below.refl _ W))))
  have HFW := Lib.hid (show ∀ k, F k → k < (W.drewN nq).heap.size from fun k hk => Nat.lt_of_lt_of_le (HFB.out k hk) HCW.out.size)
  have k3 : (W.drewN nq).cell? ⟨gl, 5, none⟩ = some (.int .i64 a) := HLQ.out.cell 5
  clear HD HL HA0 HBW HFB k0 k1 k2 CV hcap2 hc9 x1 x2 x3 x4 HRN
  generalize W.drewN nq = W at *
  go_wp2_with fail
  go_loopw [11] (fun iv wr => ∃ (j : Nat) (sk : St), iv = .int .i64 (j : Int) ∧ 64 * j < n + 64 ∧ Rk F wr r t sk ∧ wall n s bb d = wall n sk (bb + j) (d.drop (64 * j)) ∧ sk.x ≤ s.x + j ∧ Chg (PQ r t) W wr) (fun iv _ => n + 64 - (intOf iv).toNat)
  case atStart => exact ⟨0, s, rfl, by omega, HDQ.out, rfl, by omega, Chg.refl _ _⟩
  case round =>
    obtain ⟨j, sk, rfl, hin, hdk, hwl, hxk, hcg⟩ := hrel
    have HK := Lib.hid hdk
    have HWA := Lib.hid hwl
    have HCG := Lib.hid hcg
    clear hdk hwl hcg k3
    obtain ⟨i, hij⟩ : ∃ i, 64 * j = i := ⟨_, rfl⟩
    have HIJ := Lib.hid hij
    have hji : j ≤ i := by omega
    rw [hij] at hin HWA
    have e0 : IntKind.i64.wrap (64 * (j : Int)) = (i : Int) := by rw [IntWalk.i64_in _ (by omega)]; omega
    have e00 : 64 * (j : Int) = (i : Int) := by omega
    have e01 : (j : Int) * 64 = (i : Int) := by omega
    clear hij
    have HFR2 := Lib.hid (show ∀ k, F k → k < wr.heap.size from fun k hk => Nat.lt_of_lt_of_le (HFW.out k hk) HCG.out.size)
    by_cases hlt : i < n
    · have hlti : (i : Int) < n := by omega
      obtain ⟨b, off, rfl⟩ := HA.out.at.some (by omega)
      obtain ⟨rr, hrr⟩ : ∃ x, sk.Wr ((bb + j : Nat) : Int) (padS ((d.drop i).take 64)) = x := ⟨_, rfl⟩
      have e1 : IntKind.i64.wrap ((i : Int) + 64) = (i : Int) + 64 := by rw [IntWalk.i64_in _ (by omega)]
      have e3 : IntKind.i64.wrap (3 + (j : Int)) = 3 + (j : Int) := by rw [IntWalk.i64_in _ (by omega)]
      have hic : (i : Int) ≤ c := by omega
      have hnci : (n : Int) ≤ c := by omega
      have h0i : (0 : Int) ≤ i := by omega
      obtain ⟨m, tt, hm, e7, e70, e8, e10, e12, e13⟩ : ∃ m t : Nat, (m = 64 ∨ m = n - i) ∧ (if (n : Int) < (i : Int) + 64 then (n : Int) else (i : Int) + 64) = (t : Int) ∧ min ((i : Int) + 64) (n : Int) = (t : Int) ∧ i + m ≤ n ∧ (t : Int) ≤ c ∧ t - i = m ∧ i ≤ t := by
        by_cases h64 : (n : Int) < (i : Int) + 64
        · exact ⟨n - i, n, .inr rfl, by rw [if_pos h64], by omega, by omega, by omega, rfl, by omega⟩
        · exact ⟨64, i + 64, .inl rfl, by rw [if_neg h64]; omega, by omega, by omega, by omega, by omega, by omega⟩
      have e14 : (i : Int) ≤ tt := by omega
      have e11 : ¬ c = i := by omega
      have hm64 : m ≤ 64 := by omega
      have e4 : (d.drop i).take m = (d.drop i).take 64 := by
        rcases hm with hm | hm
        · rw [hm]
        · exact (take_min (by rw [List.length_drop, HDL.out]; omega) hm64).symm
      have HE4 := Lib.hid e4
      have HR := Lib.hid hrr
      clear hm hrr e4
      go_wp2_with fail
      have hD : Below wr.heap.size wr wr.drew := below_drew (Below.refl _ _)
      have HKD := Lib.hid (HK.out.below hD)
      have HAD := Lib.hid ((HA.out.chg (HCG.out.mono HF2.out)).below hD)
      have HFD := Lib.hid (show ∀ k, F k → k < wr.drew.heap.size from HFR2.out)
      replace HCG := Lib.hid (HCG.out.trans (Chg.of_below hD))
      have cl : wr.drew.cell? ⟨gl, 3, none⟩ = some (.int .i64 (3)) := (HLQ.out.chg HCG.out HNP.out).cell 3
      clear hD HK
      refine wp_region_mix 10 (fun w' => w'.cell? ⟨gl, 3, none⟩ = some (.int .i64 (3))) (by kernel_rfl) (by decide) ?_
      generalize wr.drew = D at *
      have CF := Lib.hid (fill_any (some ⟨b, off + i, none⟩) m (c - i) _ D (bytes_part (k := i) (m := m) HAD.out.at (by omega)) hm64)
      rw [HE4.out] at CF
      refine wpM_take (i := 0) (oi := ⟨some 64, _, _, _, _, _⟩) (v := ?_) rfl (by decide +kernel) (by decide +kernel) (by decide +kernel) (fun _ _ _ h => h) (Or.inl ⟨by rfl, ?_⟩) cl ?_
      case refine_2 => (intro w hSw; (try dsimp only at hSw); go_simp; try (with_reducible rfl))
      try simp only [Act.put, List.setIfInBounds_toArray, List.set_cons_zero, List.set_cons_succ]
      refine wpM_take (i := 1) (oi := ⟨some 65, _, _, _, _, _⟩) (v := ?_) rfl (by decide +kernel) (by decide +kernel) (by decide +kernel) (fun _ _ _ h => h) (Or.inl ⟨by rfl, ?_⟩) cl ?_
      case refine_2 => (intro w hSw; (try dsimp only at hSw); go_simp; try (with_reducible rfl))
      try simp only [Act.put, List.setIfInBounds_toArray, List.set_cons_zero, List.set_cons_succ]
      refine wpM_take (i := 2) (oi := ⟨some 66, _, _, _, _, _⟩) (v := ?_) rfl (by decide +kernel) (by decide +kernel) (by decide +kernel) (fun _ _ _ h => h) (Or.inl ⟨by rfl, ?_⟩) cl ?_
      case refine_2 => (intro w hSw; (try dsimp only at hSw); go_simp; try (with_reducible rfl))
      try simp only [Act.put, List.setIfInBounds_toArray, List.set_cons_zero, List.set_cons_succ]
      refine wpM_take (i := 3) (oi := ⟨some 67, _, _, _, _, _⟩) (v := ?_) rfl (by decide +kernel) (by decide +kernel) (by decide +kernel) (fun _ _ _ h => h) (Or.inl ⟨by rfl, ?_⟩) cl ?_
      case refine_2 => (intro w hSw; (try dsimp only at hSw); go_simp; try (with_reducible rfl))
      try simp only [Act.put, List.setIfInBounds_toArray, List.set_cons_zero, List.set_cons_succ]
      refine wpM_take (i := 4) (oi := ⟨some 68, _, _, _, _, _⟩) (v := ?_) rfl (by decide +kernel) (by decide +kernel) (by decide +kernel) (fun _ _ _ h => h) (Or.inl ⟨by rfl, ?_⟩) cl ?_
      case refine_2 => (intro w hSw; (try dsimp only at hSw); go_simp; try (with_reducible rfl))
      try simp only [Act.put, List.setIfInBounds_toArray, List.set_cons_zero, List.set_cons_succ]
      refine wpM_take (i := 5) (oi := ⟨some 69, _, _, _, _, _⟩) (v := ?_) rfl (by decide +kernel) (by decide +kernel) (by decide +kernel) (fun _ _ _ h => h) (Or.inl ⟨by rfl, ?_⟩) cl ?_
      case refine_2 => (intro w hSw; (try dsimp only at hSw); go_simp; try (with_reducible rfl))
      try simp only [Act.put, List.setIfInBounds_toArray, List.set_cons_zero, List.set_cons_succ]
      refine wpM_take (i := 6) (oi := ⟨some 70, _, _, _, _, _⟩) (v := ?_) rfl (by decide +kernel) (by decide +kernel) (by decide +kernel) (fun _ _ _ h => h) (Or.inl ⟨by rfl, ?_⟩) cl ?_
      case refine_2 => (intro w hSw; (try dsimp only at hSw); go_simp; try (with_reducible rfl))
      try simp only [Act.put, List.setIfInBounds_toArray, List.set_cons_zero, List.set_cons_succ]
      refine wpM_take (i := 7) (oi := ⟨some 71, _, _, _, _, _⟩) (v := ?_) rfl (by decide +kernel) (by decide +kernel) (by decide +kernel) (fun _ _ _ h => h) (Or.inl ⟨by rfl, ?_⟩) cl ?_
      case refine_2 => (intro w hSw; (try dsimp only at hSw); go_simp; try (with_reducible rfl))
      try simp only [Act.put, List.setIfInBounds_toArray, List.set_cons_zero, List.set_cons_succ]
      refine wpM_step (i := 8) (o := ⟨some 72, _, _, _, _, _⟩) rfl (by decide +kernel) (by decide) (fun K hK => ?_)
      go_simp
      go_at_call 43
      refine (CF.out).mono ?_
      rintro e9 w9 ⟨v9, rfl, ho9, hb9⟩
      obtain ⟨A9, c9, hv9, hba9, hc9, hcm9⟩ := own_bytes3 (F := F) ho9 HFD.out
      rw [padS_len] at hba9 hc9 hv9
      subst hv9
      have cl9 := keepcell hb9 cl
      refine hK.out _ _ cl9 ?_
      clear hK K
      try simp only [Act.put, List.setIfInBounds_toArray, List.set_cons_zero, List.set_cons_succ]
      refine wpM_step (i := 9) (o := ⟨some 73, _, _, _, _, _⟩) rfl (by decide +kernel) (by decide) (fun K hK => ?_)
      go_simp
      go_at_call 33
      refine (RWrite_any F w9 r t sk (HKD.out.below hb9) HFR.out HFT.out (fun k hk => Nat.lt_of_lt_of_le (HFD.out k hk) hb9.size) (by omega) (3 + (j : Int)) A9 64 c9 _ hba9 hc9).mono ?_
      rintro e10 w10 ⟨rfl, hd10, hc10⟩
      rw [show 3 + (j : Int) = ((bb + j : Nat) : Int) by omega, HR.out] at hd10 ⊢
      have HK10 := Lib.hid hd10
      have HCG := Lib.hid ((HCG.out.trans (Chg.of_below hb9)).trans hc10)
      have cl10 : w10.cell? ⟨gl, 3, none⟩ = some (.int .i64 (3)) := (HLQ.out.chg HCG.out HNP.out).cell 3
      refine hK.out _ _ cl10 ?_
      clear hK K
      try simp only [Act.put, List.setIfInBounds_toArray, List.set_cons_zero, List.set_cons_succ]
      refine wpM_done (by decide +kernel) ?_
      simp only [List.drop_succ_cons, List.drop_zero]
      clear hd10 hc10 ho9 hba9 hb9 hc9 hcm9 cl cl9 cl10 CF HKD HAD HFD HFR2
      by_cases hr0 : rr.2 = 0
      · rw [hr0]
        go_wp2
        go_roundw
        case rel =>
          refine ⟨j + 1, rr.1, by go_num, by have := HIJ.out; omega, HK10.out, ?_, ?_, HCG.out⟩
          · rw [HWA.out, wall_ok (by rw [List.length_drop, HDL.out]; omega) (by intro h0; have := congrArg List.length h0; rw [List.length_drop, HDL.out] at this; simp at this; omega) (by rw [HR.out]; exact hr0), HR.out, List.drop_drop, show i + 64 = 64 * (j + 1) by have := HIJ.out; omega]
            rfl
          · rw [← HR.out]
            exact Nat.le_trans (St.Wr_x _ _ _) (by omega)
        case measure => simp [intOf]; omega
      · have HFI : Hid (sw = rr) := Lib.hid (by
          have e5 := wall_bad (n := n) (s := sk) (i := bb + j) (d := d.drop i) (by rw [List.length_drop, HDL.out]; omega) (by intro h0; have := congrArg List.length h0; rw [List.length_drop, HDL.out] at this; simp at this; omega) (by rw [HR.out]; exact hr0)
          rw [← HSW.out, HWA.out, e5, HR.out, if_neg hr0])
        have hr1 : decide (rr.2 = 0) = false := by simpa using hr0
        go_wp2
        go_ret
        rw [HFI.out]
        exact ⟨rfl, HK10.out, HCW.out.trans HCG.out⟩
    · have hge : (n : Int) ≤ i := by omega
      have hgn : ¬ (i : Int) < n := by omega
      have hdn : d.drop i = [] := List.drop_of_length_le (by rw [HDL.out]; omega)
      have HFI : Hid (fin2 sk e n (crc 0 d) 0 = sw) := Lib.hid (by
        have e5 := HSW.out
        rw [HWA.out, hdn, wall_nil] at e5
        simpa using e5)
      have hxk2 : sk.x + 2 < 1000000000 := by omega
      have HXK := Lib.hid hxk2
      clear hdn hxk hxk2
      obtain ⟨rr, hrr⟩ : ∃ x, sk.Wr ((1 + 0 : Nat) : Int) (hdr e n (crc 0 d)) = x := ⟨_, rfl⟩
      have HR := Lib.hid hrr
      clear hrr
      go_wp2_with fail
      have hD : Below wr.heap.size wr wr.drew := below_drew (Below.refl _ _)
      have HKD := Lib.hid (HK.out.below hD)
      have HAD := Lib.hid ((HA.out.chg (HCG.out.mono HF2.out)).below hD)
      have HFD := Lib.hid (show ∀ k, F k → k < wr.drew.heap.size from HFR2.out)
      replace HCG := Lib.hid (HCG.out.trans (Chg.of_below hD))
      have cl : wr.drew.cell? ⟨gl, 1, none⟩ = some (.int .i64 (1)) := (HLQ.out.chg HCG.out HNP.out).cell 1
      clear hD HK
      refine wp_region_mix 9 (fun w' => w'.cell? ⟨gl, 1, none⟩ = some (.int .i64 (1))) (by kernel_rfl) (by decide) ?_
      generalize wr.drew = D at *
      have CH := Lib.hid (Header_any e A n c d D HAD.out.at he32 hn)
      refine wpM_take (i := 0) (oi := ⟨some 77, _, _, _, _, _⟩) (v := ?_) rfl (by decide +kernel) (by decide +kernel) (by decide +kernel) (fun _ _ _ h => h) (Or.inl ⟨by rfl, ?_⟩) cl ?_
      case refine_2 => (intro w hSw; (try dsimp only at hSw); go_simp; try (with_reducible rfl))
      try simp only [Act.put, List.setIfInBounds_toArray, List.set_cons_zero, List.set_cons_succ]
      refine wpM_take (i := 1) (oi := ⟨some 78, _, _, _, _, _⟩) (v := ?_) rfl (by decide +kernel) (by decide +kernel) (by decide +kernel) (fun _ _ _ h => h) (Or.inl ⟨by rfl, ?_⟩) cl ?_
      case refine_2 => (intro w hSw; (try dsimp only at hSw); go_simp; try (with_reducible rfl))
      try simp only [Act.put, List.setIfInBounds_toArray, List.set_cons_zero, List.set_cons_succ]
      refine wpM_take (i := 2) (oi := ⟨some 79, _, _, _, _, _⟩) (v := ?_) rfl (by decide +kernel) (by decide +kernel) (by decide +kernel) (fun _ _ _ h => h) (Or.inl ⟨by rfl, ?_⟩) cl ?_
      case refine_2 => (intro w hSw; (try dsimp only at hSw); go_simp; try (with_reducible rfl))
      try simp only [Act.put, List.setIfInBounds_toArray, List.set_cons_zero, List.set_cons_succ]
      refine wpM_take (i := 3) (oi := ⟨some 80, _, _, _, _, _⟩) (v := ?_) rfl (by decide +kernel) (by decide +kernel) (by decide +kernel) (fun _ _ _ h => h) (Or.inl ⟨by rfl, ?_⟩) cl ?_
      case refine_2 => (intro w hSw; (try dsimp only at hSw); go_simp; try (with_reducible rfl))
      try simp only [Act.put, List.setIfInBounds_toArray, List.set_cons_zero, List.set_cons_succ]
      refine wpM_take (i := 4) (oi := ⟨some 81, _, _, _, _, _⟩) (v := ?_) rfl (by decide +kernel) (by decide +kernel) (by decide +kernel) (fun _ _ _ h => h) (Or.inl ⟨by rfl, ?_⟩) cl ?_
      case refine_2 => (intro w hSw; (try dsimp only at hSw); go_simp; try (with_reducible rfl))
      try simp only [Act.put, List.setIfInBounds_toArray, List.set_cons_zero, List.set_cons_succ]
      refine wpM_take (i := 5) (oi := ⟨some 82, _, _, _, _, _⟩) (v := ?_) rfl (by decide +kernel) (by decide +kernel) (by decide +kernel) (fun _ _ _ h => h) (Or.inl ⟨by rfl, ?_⟩) cl ?_
      case refine_2 => (intro w hSw; (try dsimp only at hSw); go_simp; try (with_reducible rfl))
      try simp only [Act.put, List.setIfInBounds_toArray, List.set_cons_zero, List.set_cons_succ]
      refine wpM_take (i := 6) (oi := ⟨some 83, _, _, _, _, _⟩) (v := ?_) rfl (by decide +kernel) (by decide +kernel) (by decide +kernel) (fun _ _ _ h => h) (Or.inl ⟨by rfl, ?_⟩) cl ?_
      case refine_2 => (intro w hSw; (try dsimp only at hSw); go_simp; try (with_reducible rfl))
      try simp only [Act.put, List.setIfInBounds_toArray, List.set_cons_zero, List.set_cons_succ]
      refine wpM_step (i := 7) (o := ⟨some 84, _, _, _, _, _⟩) rfl (by decide +kernel) (by decide) (fun K hK => ?_)
      go_simp
      go_at_call 44
      refine CH.out.mono ?_
      rintro e9 w9 ⟨v9, rfl, ho9, hb9⟩
      obtain ⟨A9, c9, hv9, hba9, hc9, hcm9⟩ := own_bytes3 (F := F) ho9 HFD.out
      rw [hdr_len] at hba9 hc9 hv9
      subst hv9
      have cl9 := keepcell hb9 cl
      refine hK.out _ _ cl9 ?_
      clear hK K
      try simp only [Act.put, List.setIfInBounds_toArray, List.set_cons_zero, List.set_cons_succ]
      refine wpM_step (i := 8) (o := ⟨some 85, _, _, _, _, _⟩) rfl (by decide +kernel) (by decide) (fun K hK => ?_)
      go_simp
      go_at_call 33
      refine (RWrite_any F w9 r t sk (HKD.out.below hb9) HFR.out HFT.out (fun k hk => Nat.lt_of_lt_of_le (HFD.out k hk) hb9.size) (by have := HXK.out; omega) 1 A9 64 c9 _ hba9 hc9).mono ?_
      rintro e10 w10 ⟨rfl, hd10, hc10⟩
      rw [show sk.Wr 1 (hdr e n (crc 0 d)) = rr from HR.out] at hd10 ⊢
      have HK10 := Lib.hid hd10
      have HCG := Lib.hid ((HCG.out.trans (Chg.of_below hb9)).trans hc10)
      have cl10 : w10.cell? ⟨gl, 1, none⟩ = some (.int .i64 (1)) := (HLQ.out.chg HCG.out HNP.out).cell 1
      refine hK.out _ _ cl10 ?_
      clear hK K
      try simp only [Act.put, List.setIfInBounds_toArray, List.set_cons_zero, List.set_cons_succ]
      refine wpM_done (by decide +kernel) ?_
      simp only [List.drop_succ_cons, List.drop_zero]
      clear hd10 hc10 ho9 hba9 hb9 hc9 hcm9 cl cl9 cl10 CH HKD HAD
      by_cases hr0 : rr.2 = 0
      · rw [hr0]
        have HF3 : Hid (rr.1.Wr 0 (padS [UInt8.ofNat 0]) = sw) := Lib.hid (by
          have := HFI.out
          unfold fin2 at this
          rw [HR.out, if_pos hr0] at this
          exact this)
        have hrx : rr.1.x < 1000000000 := by
          have h1 := St.Wr_x sk ((1 + 0 : Nat) : Int) (hdr e n (crc 0 d))
          rw [HR.out] at h1
          have := HXK.out
          omega
        go_wp2_with fail
        have hD : Below w10.heap.size w10 w10.drew := below_drew (Below.refl _ _)
        have HK10 := Lib.hid (HK10.out.below hD)
        replace HCG := Lib.hid (HCG.out.trans (Chg.of_below hD))
        have HFD := Lib.hid (show ∀ k, F k → k < w10.drew.heap.size from fun k hk => Nat.lt_of_lt_of_le (HFW.out k hk) HCG.out.size)
        have cl : w10.drew.cell? ⟨gl, 0, none⟩ = some (.int .i64 (0)) := (HLQ.out.chg HCG.out HNP.out).cell 0
        clear hD
        refine wp_region_mix 8 (fun w' => w'.cell? ⟨gl, 0, none⟩ = some (.int .i64 (0))) (by kernel_rfl) (by decide) ?_
        generalize w10.drew = D at *
        have hbn : Below D.heap.size D (D.alloc (.cells #[.int .u8 0] 5)) := (Below.refl _ _).alloc (Nat.le_refl _) _
        have hkn : Blk (D.alloc (.cells #[.int .u8 0] 5)) D.heap.size 5 (bc [UInt8.ofNat 0]).toArray := Blk.new D 5 _
        have CF := Lib.hid (fill_any (some ⟨D.heap.size, 0, none⟩) 1 1 [UInt8.ofNat 0] _ (bytes_of_blk hkn rfl) (by decide))
        have HKN := Lib.hid (HK10.out.below hbn)
        have cl0 := keepcell hbn cl
        replace HCG := Lib.hid (HCG.out.trans (Chg.of_below hbn))
        have HFD2 := Lib.hid (show ∀ k, F k → k < (D.alloc (.cells #[.int .u8 0] 5)).heap.size from fun k hk => Nat.lt_of_lt_of_le (HFD.out k hk) hbn.size)
        clear hbn hkn
        refine wpM_take (i := 0) (oi := ⟨some 89, _, _, _, _, _⟩) (v := ?_) rfl (by decide +kernel) (by decide +kernel) (by decide +kernel) (fun _ _ _ h => h) (Or.inl ⟨by rfl, ?_⟩) cl ?_
        case refine_2 => (intro w hSw; (try dsimp only at hSw); go_simp; try (with_reducible rfl))
        try simp only [Act.put, List.setIfInBounds_toArray, List.set_cons_zero, List.set_cons_succ]
        refine wpM_take (i := 1) (oi := ⟨some 90, _, _, _, _, _⟩) (v := ?_) rfl (by decide +kernel) (by decide +kernel) (by decide +kernel) (fun _ _ _ h => h) (Or.inl ⟨by rfl, ?_⟩) cl ?_
        case refine_2 => (intro w hSw; (try dsimp only at hSw); go_simp; try (with_reducible rfl))
        try simp only [Act.put, List.setIfInBounds_toArray, List.set_cons_zero, List.set_cons_succ]
        refine wpM_take (i := 2) (oi := ⟨some 91, _, _, _, _, _⟩) (v := ?_) rfl (by decide +kernel) (by decide +kernel) (by decide +kernel) (fun _ _ _ h => h) (Or.inl ⟨by rfl, ?_⟩) cl ?_
        case refine_2 => (intro w hSw; (try dsimp only at hSw); go_simp; try (with_reducible rfl))
        try simp only [Act.put, List.setIfInBounds_toArray, List.set_cons_zero, List.set_cons_succ]
        refine wpM_take (i := 3) (oi := ⟨some 92, _, _, _, _, _⟩) (v := ?_) rfl (by decide +kernel) (by decide +kernel) (by decide +kernel) (fun _ _ _ h => h) (Or.inl ⟨by rfl, ?_⟩) cl ?_
        case refine_2 => (intro w hSw; (try dsimp only at hSw); go_simp; try (with_reducible rfl))
        try simp only [Act.put, List.setIfInBounds_toArray, List.set_cons_zero, List.set_cons_succ]
        refine wpM_take (i := 4) (oi := ⟨some 93, _, _, _, _, _⟩) (v := ?_) rfl (by decide +kernel) (by decide +kernel) (by decide +kernel) (fun _ _ _ h => h) (Or.inl ⟨by rfl, ?_⟩) cl ?_
        case refine_2 => (intro w hSw; (try dsimp only at hSw); go_simp; try (with_reducible rfl))
        try simp only [Act.put, List.setIfInBounds_toArray, List.set_cons_zero, List.set_cons_succ]
        refine wpM_step (i := 5) (o := ⟨some 94, _, _, _, _, _⟩) rfl (by decide +kernel) (by decide) (fun K hK => ?_)
        go_simp
        refine hK.out _ _ cl0 ?_
        clear hK K
        try simp only [Act.put, List.setIfInBounds_toArray, List.set_cons_zero, List.set_cons_succ]
        refine wpM_step (i := 6) (o := ⟨some 95, _, _, _, _, _⟩) rfl (by decide +kernel) (by decide) (fun K hK => ?_)
        go_simp
        go_at_call 43
        refine (CF.out).mono ?_
        rintro e9 w9 ⟨v9, rfl, ho9, hb9⟩
        obtain ⟨A9, c9, hv9, hba9, hc9, hcm9⟩ := own_bytes3 (F := F) ho9 HFD2.out
        rw [padS_len] at hba9 hc9 hv9
        subst hv9
        have cl9 := keepcell hb9 cl0
        refine hK.out _ _ cl9 ?_
        clear hK K
        try simp only [Act.put, List.setIfInBounds_toArray, List.set_cons_zero, List.set_cons_succ]
        refine wpM_step (i := 7) (o := ⟨some 96, _, _, _, _, _⟩) rfl (by decide +kernel) (by decide) (fun K hK => ?_)
        go_simp
        go_at_call 33
        refine (RWrite_any F w9 r t rr.1 (HKN.out.below hb9) HFR.out HFT.out (fun k hk => Nat.lt_of_lt_of_le (HFD2.out k hk) hb9.size) hrx 0 A9 64 c9 _ hba9 hc9).mono ?_
        rintro e10 w12 ⟨rfl, hd10, hc10⟩
        rw [HF3.out] at hd10 ⊢
        have HK12 := Lib.hid hd10
        have HCG := Lib.hid ((HCG.out.trans (Chg.of_below hb9)).trans hc10)
        have cl10 : w12.cell? ⟨gl, 0, none⟩ = some (.int .i64 (0)) := (HLQ.out.chg HCG.out HNP.out).cell 0
        refine hK.out _ _ cl10 ?_
        clear hK K
        try simp only [Act.put, List.setIfInBounds_toArray, List.set_cons_zero, List.set_cons_succ]
        refine wpM_done (by decide +kernel) ?_
        simp only [List.drop_succ_cons, List.drop_zero]
        go_wp2
        go_ret
        exact ⟨rfl, HK12.out, HCW.out.trans HCG.out⟩
      · have HF3 : Hid (rr = sw) := Lib.hid (by
          have := HFI.out
          unfold fin2 at this
          rw [HR.out, if_neg hr0] at this
          exact this)
        have hr1 : decide (rr.2 = 0) = false := by simpa using hr0
        go_wp2
        go_ret
        rw [← HF3.out]
        exact ⟨rfl, HK10.out, HCW.out.trans HCG.out⟩
/-- Writing a version. -/
theorem RSW_any (F : Nat → Prop) (w : World) (r t : Nat) (s : St) (h : Rk F w r t s) (hr : F r) (ht : F t) (hFB : ∀ k, F k → k < w.heap.size) (e n c : Nat) (hx : s.x + n + 2 < 1000000000) (he32 : e < 4294967296) (A : Option Addr) (d : List UInt8) (hd : BA F w A n d) (hn : n ≤ 100000) (hnc : n ≤ c) (hcc : c ≤ 9223372036854775807) :
    Calls Tryd.prog 29 #[.pointer (some ⟨r, 0, none⟩), .int .u32 (e : Int), .slice A n c] w fun e' w' => e' = .returned (.int .i64 (SW s e d).2) ∧ Rk F w' r t (SW s e d).1 ∧ Chg (PQ r t) w w' := by
  by_cases hf : s.f = true
  · exact RSW_fail F w r t s h hf e n c A d
  · have hf : s.f = false := by simpa using hf
    by_cases hn7 : s.R.length < 7
    · exact RSW_small F w r t s h hf hn7 e n c A d
    · have hn7 : 7 ≤ s.R.length := by omega
      rcases (show slotOf s = 0 ∨ slotOf s = 1 ∨ 1 < slotOf s by omega) with hs | hs | hs
      · by_cases he : e ≤ epochOf s
        · exact RSW_old0 F w r t s h hf hn7 hs e n c A d he32 (by omega) hd.1 he
        · by_cases hfit : 64 * areaOf s.R.length < n
          · exact RSW_full0 F w r t s h hf hn7 hs e n c A d he32 (by omega) hd.1 (by omega) hfit
          · exact RSW_ok0 F w r t s h hr ht hFB hf hn7 hs e n c hx he32 A d hd hn hnc hcc (by omega) (by omega)
      · by_cases he : e ≤ epochOf s
        · exact RSW_old1 F w r t s h hf hn7 hs e n c A d he32 (by omega) hd.1 he
        · by_cases hfit : 64 * areaOf s.R.length < n
          · exact RSW_full1 F w r t s h hf hn7 hs e n c A d he32 (by omega) hd.1 (by omega) hfit
          · exact RSW_ok1 F w r t s h hr ht hFB hf hn7 hs e n c hx he32 A d hd hn hnc hcc (by omega) (by omega)
      · exact RSW_slot F w r t s h hf hn7 hs e n c A d
end
end Go.Proofs.YthhpilkhcomhbaaDoor
