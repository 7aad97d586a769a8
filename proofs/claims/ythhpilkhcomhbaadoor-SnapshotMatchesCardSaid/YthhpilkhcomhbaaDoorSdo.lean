/- An operation on a disk and on its reference. -/
import Derived.Test.YthhpilkhcomhbaaDoorSdm
import Derived.Deep.RegionHeld3
import Derived.Deep.Cut
namespace Go.Proofs.YthhpilkhcomhbaaDoor
open Go.ChangeShapes Go.WideShapes Go.ChangeAt Go.RowKit Go.ChangeMaps

set_option maxRecDepth 100000 in
set_option maxHeartbeats 2000000 in
theorem do_0 (w : World) (p q r t : Nat) (s : St) (h : DM w p q r t s) (hj : s.J) (hx : s.x < 900000000) (E : Nat) (DA : Option Addr) (dm dc : Nat) (dd : List UInt8) (nn bb : Int) (hE : E < 4294967296) (hdc : dm ≤ dc) (hdc2 : dc ≤ 9223372036854775807) (hnn : nn ≤ 9223372036854775807) (hdm : dm ≤ 600) (hb : BA (F4 p q r t) w DA dm dd) :
    Calls Tryd.prog 17 #[.pointer (some ⟨p, 0, none⟩), .pointer (some ⟨r, 0, none⟩), .agg #[.int .u8 0, .int .u32 (E : Int), .slice DA dm dc, .int .i64 nn, .int .i64 bb]] w fun e w' => e = .returned (.bool true) ∧ DM w' p q r t ((SW s E dd).1) ∧ Chg (F4 p q r t) w w' := by
  have HN := Lib.hid h.ne
  have HNZ := Lib.hid h.nz
  have KO := Lib.hid (Blk.new w 38 #[.int .u8 0, .int .u32 (E : Int), .slice DA dm dc, .int .i64 nn, .int .i64 bb])
  have HO := Lib.hid (show ¬ F4 p q r t w.heap.size from fun e => by have := DM.lt h.d h.rk _ e; omega)
  have hbel : Below w.heap.size w (w.alloc (.cells #[.int .u8 0, .int .u32 (E : Int), .slice DA dm dc, .int .i64 nn, .int .i64 bb] 38)) := (Below.refl _ w).alloc (Nat.le_refl _) _
  have HD := Lib.hid (h.d.below hbel)
  have HR := Lib.hid (h.rk.below hbel)
  have HB := Lib.hid (hb.below hbel)
  have HEV := Lib.hid (h.ev.below hbel)
  have HC := Lib.hid (show Chg (F4 p q r t) w (w.alloc (.cells #[.int .u8 0, .int .u32 (E : Int), .slice DA dm dc, .int .i64 nn, .int .i64 bb] 38)) from Chg.of_below hbel)
  have HX := Lib.hid hx
  have HE0 := Lib.hid h.ev
  clear h hb hbel hx hj
  obtain ⟨v0, hv0⟩ : ∃ v, v = w.alloc (.cells #[.int .u8 0, .int .u32 (E : Int), .slice DA dm dc, .int .i64 nn, .int .i64 bb] 38) := ⟨_, rfl⟩
  rw [← hv0] at KO HD HR HB HEV HC
  go_enter Tryd.func17, Tryd.ntmps17
  go_upto_region 1 with fail
  rw [← hv0]
  clear hv0
  generalize w.heap.size = o8 at *
  have a0 : v0.cell? ⟨o8, 0, none⟩ = some (.int .u8 0) := KO.out.cell 0
  have a1 : v0.cell? ⟨o8, 1, none⟩ = some (.int .u32 (E : Int)) := KO.out.cell 1
  have a2 : v0.cell? ⟨o8, 2, none⟩ = some (.slice DA dm dc) := KO.out.cell 2
  have a3 : v0.cell? ⟨o8, 3, none⟩ = some (.int .i64 nn) := KO.out.cell 3
  have a4 : v0.cell? ⟨o8, 4, none⟩ = some (.int .i64 bb) := KO.out.cell 4
  go_wp2_with fail
  have hc0 : Chg (F4 p q r t) v0 v0.drew := Chg.of_below (below_drew (Below.refl _ _))
  have hd0 : Dk v0.drew p q s := HD.out
  have hr0 : Rk (F4 p q r t) v0.drew r t s := HR.out
  have WD := Lib.hid (wd v0 p q r t o8 s E HN.out HNZ.out HEV.out _ _ _ _ KO.out HO.out hE)
  have WR := Lib.hid (wr_ v0 p q r t o8 s E HN.out _ _ _ _ KO.out HO.out hE)
  have CP := Lib.hid (cp_ v0 p q r t o8 s E _ _ _ _ KO.out HO.out)
  go_region_held3 (fun w' => w'.cell? ⟨o8, 1, none⟩ = some (.int .u32 (E : Int)) ∧ w'.cell? ⟨o8, 2, none⟩ = some (.slice DA dm dc)) (first | exact ⟨a1, a2⟩ | exact ⟨by assumption, by assumption⟩) (first
    | (go_at_call 21; refine (CP.out _ DA dm dc dd (by omega) _ (by assumption) (by assumption) (by assumption) HB.out).mono ?_; rintro e v1 ⟨A1, c1, rfl, hk1, hk2, hc1, hd1, hr1, hb1, b1, b3⟩)
    | (go_at_call 20; refine (WD.out _ A1 dm c1 dd (by have := HX.out; omega) (by omega) hk1 hk2 (by assumption) (by assumption) (by assumption) (by assumption)).mono ?_; rintro e v2 ⟨rfl, hc2, hd2, hr2, d1, d3⟩)
    | (go_at_call 29; refine (WR.out _ DA dm dc dd (by have := HX.out; omega) (by omega) hdc hdc2 _ (by assumption) (by assumption) (by assumption) HB.out).mono ?_; rintro e v3 ⟨rfl, hc3, hd3, hr3, e1, e3⟩))
  all_goals
    have HCF := Lib.hid (HC.out.trans hc3)
    have HF := Lib.hid (show DM v3 p q r t _ from ⟨hd3, hr3, HN.out, HE0.out.chg HCF.out HNZ.out, HNZ.out⟩)
    clear WD WR CP hc0 hd0 hr0 hc1 hd1 hr1 hb1 hc2 hd2 hr2 hc3 hd3 hr3 d1 d3 e1 e3 b1 b3
    go_wp2
    go_ret
    exact ⟨rfl, HF.out, HCF.out⟩
set_option maxRecDepth 100000 in
set_option maxHeartbeats 2000000 in
theorem do_1 (w : World) (p q r t : Nat) (s : St) (h : DM w p q r t s) (hj : s.J) (hx : s.x < 900000000) (E : Nat) (DA : Option Addr) (dm dc : Nat) (dd : List UInt8) (nn bb : Int) (hE : E < 4294967296) (hdc : dm ≤ dc) (hdc2 : dc ≤ 9223372036854775807) (hnn : nn ≤ 9223372036854775807) (hdm : dm ≤ 600) (hb : BA (F4 p q r t) w DA dm dd) :
    Calls Tryd.prog 17 #[.pointer (some ⟨p, 0, none⟩), .pointer (some ⟨r, 0, none⟩), .agg #[.int .u8 1, .int .u32 (E : Int), .slice DA dm dc, .int .i64 nn, .int .i64 bb]] w fun e w' => e = .returned (.bool true) ∧ DM w' p q r t (s.Ar nn bb) ∧ Chg (F4 p q r t) w w' := by
  have HN := Lib.hid h.ne
  have HNZ := Lib.hid h.nz
  have KO := Lib.hid (Blk.new w 38 #[.int .u8 1, .int .u32 (E : Int), .slice DA dm dc, .int .i64 nn, .int .i64 bb])
  have HO := Lib.hid (show ¬ F4 p q r t w.heap.size from fun e => by have := DM.lt h.d h.rk _ e; omega)
  have hbel : Below w.heap.size w (w.alloc (.cells #[.int .u8 1, .int .u32 (E : Int), .slice DA dm dc, .int .i64 nn, .int .i64 bb] 38)) := (Below.refl _ w).alloc (Nat.le_refl _) _
  have HD := Lib.hid (h.d.below hbel)
  have HR := Lib.hid (h.rk.below hbel)
  have HB := Lib.hid (hb.below hbel)
  have HEV := Lib.hid (h.ev.below hbel)
  have HC := Lib.hid (show Chg (F4 p q r t) w (w.alloc (.cells #[.int .u8 1, .int .u32 (E : Int), .slice DA dm dc, .int .i64 nn, .int .i64 bb] 38)) from Chg.of_below hbel)
  have HX := Lib.hid hx
  have HE0 := Lib.hid h.ev
  clear h hb hbel hx hj
  obtain ⟨v0, hv0⟩ : ∃ v, v = w.alloc (.cells #[.int .u8 1, .int .u32 (E : Int), .slice DA dm dc, .int .i64 nn, .int .i64 bb] 38) := ⟨_, rfl⟩
  rw [← hv0] at KO HD HR HB HEV HC
  go_enter Tryd.func17, Tryd.ntmps17
  go_upto_region 1 with fail
  rw [← hv0]
  clear hv0
  generalize w.heap.size = o8 at *
  have a0 : v0.cell? ⟨o8, 0, none⟩ = some (.int .u8 1) := KO.out.cell 0
  have a1 : v0.cell? ⟨o8, 1, none⟩ = some (.int .u32 (E : Int)) := KO.out.cell 1
  have a2 : v0.cell? ⟨o8, 2, none⟩ = some (.slice DA dm dc) := KO.out.cell 2
  have a3 : v0.cell? ⟨o8, 3, none⟩ = some (.int .i64 nn) := KO.out.cell 3
  have a4 : v0.cell? ⟨o8, 4, none⟩ = some (.int .i64 bb) := KO.out.cell 4
  go_wp2_with fail
  refine (Arm_any v0 p q s HD.out nn bb hnn).mono ?_
  rintro e v1 ⟨rfl, hd1, hc1⟩
  have HC1 := Lib.hid (HC.out.trans (hc1.mono (fun _ => F4_pq)))
  have HR1 := Lib.hid (HR.out.pq HN.out hc1)
  have KO1 := Lib.hid (KO.out.chg (hc1.mono (fun _ => F4_pq)) HO.out)
  have HD1 := Lib.hid hd1
  clear hd1 hc1 a0 a1 a2 a3 a4
  have a3 : v1.cell? ⟨o8, 3, none⟩ = some (.int .i64 nn) := KO1.out.cell 3
  have a4 : v1.cell? ⟨o8, 4, none⟩ = some (.int .i64 bb) := KO1.out.cell 4
  go_wp2_with fail
  refine (RArm_any (F4 p q r t) v1 r t s HR1.out (.inr (.inr (.inl rfl))) nn bb hnn).mono ?_
  rintro e v2 ⟨rfl, hr2, hc2⟩
  have HC2 := Lib.hid (HC1.out.trans (hc2.mono (fun _ => F4_rt)))
  have HF := Lib.hid (show DM v2 p q r t _ from ⟨HD1.out.rt HN.out hc2, hr2, HN.out, HE0.out.chg HC2.out HNZ.out, HNZ.out⟩)
  clear hr2 hc2
  go_wp2
  go_ret
  exact ⟨rfl, HF.out, HC2.out⟩
set_option maxRecDepth 100000 in
set_option maxHeartbeats 2000000 in
theorem do_2 (w : World) (p q r t : Nat) (s : St) (h : DM w p q r t s) (hj : s.J) (hx : s.x < 900000000) (E : Nat) (DA : Option Addr) (dm dc : Nat) (dd : List UInt8) (nn bb : Int) (hE : E < 4294967296) (hdc : dm ≤ dc) (hdc2 : dc ≤ 9223372036854775807) (hnn : nn ≤ 9223372036854775807) (hdm : dm ≤ 600) (hb : BA (F4 p q r t) w DA dm dd) :
    Calls Tryd.prog 17 #[.pointer (some ⟨p, 0, none⟩), .pointer (some ⟨r, 0, none⟩), .agg #[.int .u8 2, .int .u32 (E : Int), .slice DA dm dc, .int .i64 nn, .int .i64 bb]] w fun e w' => e = .returned (.bool true) ∧ DM w' p q r t (s.Fl) ∧ Chg (F4 p q r t) w w' := by
  have HN := Lib.hid h.ne
  have HNZ := Lib.hid h.nz
  have KO := Lib.hid (Blk.new w 38 #[.int .u8 2, .int .u32 (E : Int), .slice DA dm dc, .int .i64 nn, .int .i64 bb])
  have HO := Lib.hid (show ¬ F4 p q r t w.heap.size from fun e => by have := DM.lt h.d h.rk _ e; omega)
  have hbel : Below w.heap.size w (w.alloc (.cells #[.int .u8 2, .int .u32 (E : Int), .slice DA dm dc, .int .i64 nn, .int .i64 bb] 38)) := (Below.refl _ w).alloc (Nat.le_refl _) _
  have HD := Lib.hid (h.d.below hbel)
  have HR := Lib.hid (h.rk.below hbel)
  have HB := Lib.hid (hb.below hbel)
  have HEV := Lib.hid (h.ev.below hbel)
  have HC := Lib.hid (show Chg (F4 p q r t) w (w.alloc (.cells #[.int .u8 2, .int .u32 (E : Int), .slice DA dm dc, .int .i64 nn, .int .i64 bb] 38)) from Chg.of_below hbel)
  have HX := Lib.hid hx
  have HE0 := Lib.hid h.ev
  clear h hb hbel hx hj
  obtain ⟨v0, hv0⟩ : ∃ v, v = w.alloc (.cells #[.int .u8 2, .int .u32 (E : Int), .slice DA dm dc, .int .i64 nn, .int .i64 bb] 38) := ⟨_, rfl⟩
  rw [← hv0] at KO HD HR HB HEV HC
  go_enter Tryd.func17, Tryd.ntmps17
  go_upto_region 1 with fail
  rw [← hv0]
  clear hv0
  generalize w.heap.size = o8 at *
  have a0 : v0.cell? ⟨o8, 0, none⟩ = some (.int .u8 2) := KO.out.cell 0
  have a1 : v0.cell? ⟨o8, 1, none⟩ = some (.int .u32 (E : Int)) := KO.out.cell 1
  have a2 : v0.cell? ⟨o8, 2, none⟩ = some (.slice DA dm dc) := KO.out.cell 2
  have a3 : v0.cell? ⟨o8, 3, none⟩ = some (.int .i64 nn) := KO.out.cell 3
  have a4 : v0.cell? ⟨o8, 4, none⟩ = some (.int .i64 bb) := KO.out.cell 4
  go_wp2_with fail
  refine (Fail_any v0 p q s HD.out).mono ?_
  rintro e v1 ⟨rfl, hd1, hc1⟩
  have HC1 := Lib.hid (HC.out.trans (hc1.mono (fun _ => F4_pq)))
  have HR1 := Lib.hid (HR.out.pq HN.out hc1)
  have KO1 := Lib.hid (KO.out.chg (hc1.mono (fun _ => F4_pq)) HO.out)
  have HD1 := Lib.hid hd1
  clear hd1 hc1 a0 a1 a2 a3 a4
  have a3 : v1.cell? ⟨o8, 3, none⟩ = some (.int .i64 nn) := KO1.out.cell 3
  have a4 : v1.cell? ⟨o8, 4, none⟩ = some (.int .i64 bb) := KO1.out.cell 4
  go_wp2_with fail
  refine (RFail_any (F4 p q r t) v1 r t s HR1.out (.inr (.inr (.inl rfl)))).mono ?_
  rintro e v2 ⟨rfl, hr2, hc2⟩
  have HC2 := Lib.hid (HC1.out.trans (hc2.mono (fun _ => F4_rt)))
  have HF := Lib.hid (show DM v2 p q r t _ from ⟨HD1.out.rt HN.out hc2, hr2, HN.out, HE0.out.chg HC2.out HNZ.out, HNZ.out⟩)
  clear hr2 hc2
  go_wp2
  go_ret
  exact ⟨rfl, HF.out, HC2.out⟩
set_option maxRecDepth 100000 in
set_option maxHeartbeats 2000000 in
theorem do_3 (w : World) (p q r t : Nat) (s : St) (h : DM w p q r t s) (hj : s.J) (hx : s.x < 900000000) (E : Nat) (DA : Option Addr) (dm dc : Nat) (dd : List UInt8) (nn bb : Int) (hE : E < 4294967296) (hdc : dm ≤ dc) (hdc2 : dc ≤ 9223372036854775807) (hnn : nn ≤ 9223372036854775807) (hdm : dm ≤ 600) (hb : BA (F4 p q r t) w DA dm dd) :
    Calls Tryd.prog 17 #[.pointer (some ⟨p, 0, none⟩), .pointer (some ⟨r, 0, none⟩), .agg #[.int .u8 3, .int .u32 (E : Int), .slice DA dm dc, .int .i64 nn, .int .i64 bb]] w fun e w' => e = .returned (.bool true) ∧ DM w' p q r t (s.Re) ∧ Chg (F4 p q r t) w w' := by
  have HN := Lib.hid h.ne
  have HNZ := Lib.hid h.nz
  have KO := Lib.hid (Blk.new w 38 #[.int .u8 3, .int .u32 (E : Int), .slice DA dm dc, .int .i64 nn, .int .i64 bb])
  have HO := Lib.hid (show ¬ F4 p q r t w.heap.size from fun e => by have := DM.lt h.d h.rk _ e; omega)
  have hbel : Below w.heap.size w (w.alloc (.cells #[.int .u8 3, .int .u32 (E : Int), .slice DA dm dc, .int .i64 nn, .int .i64 bb] 38)) := (Below.refl _ w).alloc (Nat.le_refl _) _
  have HD := Lib.hid (h.d.below hbel)
  have HR := Lib.hid (h.rk.below hbel)
  have HB := Lib.hid (hb.below hbel)
  have HEV := Lib.hid (h.ev.below hbel)
  have HC := Lib.hid (show Chg (F4 p q r t) w (w.alloc (.cells #[.int .u8 3, .int .u32 (E : Int), .slice DA dm dc, .int .i64 nn, .int .i64 bb] 38)) from Chg.of_below hbel)
  have HX := Lib.hid hx
  have HE0 := Lib.hid h.ev
  clear h hb hbel hx hj
  obtain ⟨v0, hv0⟩ : ∃ v, v = w.alloc (.cells #[.int .u8 3, .int .u32 (E : Int), .slice DA dm dc, .int .i64 nn, .int .i64 bb] 38) := ⟨_, rfl⟩
  rw [← hv0] at KO HD HR HB HEV HC
  go_enter Tryd.func17, Tryd.ntmps17
  go_upto_region 1 with fail
  rw [← hv0]
  clear hv0
  generalize w.heap.size = o8 at *
  have a0 : v0.cell? ⟨o8, 0, none⟩ = some (.int .u8 3) := KO.out.cell 0
  have a1 : v0.cell? ⟨o8, 1, none⟩ = some (.int .u32 (E : Int)) := KO.out.cell 1
  have a2 : v0.cell? ⟨o8, 2, none⟩ = some (.slice DA dm dc) := KO.out.cell 2
  have a3 : v0.cell? ⟨o8, 3, none⟩ = some (.int .i64 nn) := KO.out.cell 3
  have a4 : v0.cell? ⟨o8, 4, none⟩ = some (.int .i64 bb) := KO.out.cell 4
  go_wp2_with fail
  refine (Restart_any v0 p q s HD.out).mono ?_
  rintro e v1 ⟨rfl, hd1, hc1⟩
  have HC1 := Lib.hid (HC.out.trans (hc1.mono (fun _ => F4_pq)))
  have HR1 := Lib.hid (HR.out.pq HN.out hc1)
  have KO1 := Lib.hid (KO.out.chg (hc1.mono (fun _ => F4_pq)) HO.out)
  have HD1 := Lib.hid hd1
  clear hd1 hc1 a0 a1 a2 a3 a4
  have a3 : v1.cell? ⟨o8, 3, none⟩ = some (.int .i64 nn) := KO1.out.cell 3
  have a4 : v1.cell? ⟨o8, 4, none⟩ = some (.int .i64 bb) := KO1.out.cell 4
  go_wp2_with fail
  refine (RRestart_any (F4 p q r t) v1 r t s HR1.out (.inr (.inr (.inl rfl)))).mono ?_
  rintro e v2 ⟨rfl, hr2, hc2⟩
  have HC2 := Lib.hid (HC1.out.trans (hc2.mono (fun _ => F4_rt)))
  have HF := Lib.hid (show DM v2 p q r t _ from ⟨HD1.out.rt HN.out hc2, hr2, HN.out, HE0.out.chg HC2.out HNZ.out, HNZ.out⟩)
  clear hr2 hc2
  go_wp2
  go_ret
  exact ⟨rfl, HF.out, HC2.out⟩
section
variable (v0 : World) (p q r t o8 g : Nat) (s : St) (sc : Int) (dd : List UInt8) (hne : r ≠ p ∧ r ≠ q ∧ t ≠ p ∧ t ≠ q) (hx : s.x < 1000000000) (x0 x1 x2 x4 : Value) (KO : Blk v0 o8 38 #[x0, x1, x2, .int .i64 sc, x4]) (ho : ¬ F4 p q r t o8) (hg : BA (F4 p q r t) v0 (some ⟨g, 0, none⟩) 64 (padS dd))
include hne hx KO ho hg
theorem wd4 (W : World) (h1 : Chg (F4 p q r t) v0 W) (h2 : Dk W p q s) (h3 : Rk (F4 p q r t) W r t s) :
    Calls Tryd.prog 27 #[.pointer (some ⟨p, 0, none⟩), .int .i64 sc, .slice (some ⟨g, 0, none⟩) 64 64] W fun e w' => e = .returned (.int .i64 (s.Wr sc (padS dd)).2) ∧ Chg (F4 p q r t) v0 w' ∧ Dk w' p q (s.Wr sc (padS dd)).1 ∧ Rk (F4 p q r t) w' r t s ∧ w'.cell? ⟨o8, 3, none⟩ = some (.int .i64 sc) :=
  (Write_any W p q s h2 hx sc _ 64 64 _ ((hg.chg h1).mono (fun _ => F4_pq)) (Nat.le_refl _)).mono fun e w' ⟨e1, e2, e3⟩ =>
    have hcc := h1.trans (e3.mono (fun _ => F4_pq))
    ⟨e1, hcc, e2, h3.pq hne e3, (KO.chg hcc ho).cell 3⟩
theorem wr4 (W : World) (s1 : St) (h1 : Chg (F4 p q r t) v0 W) (h2 : Dk W p q s1) (h3 : Rk (F4 p q r t) W r t s) :
    Calls Tryd.prog 33 #[.pointer (some ⟨r, 0, none⟩), .int .i64 sc, .slice (some ⟨g, 0, none⟩) 64 64] W fun e w' => e = .returned (.int .i64 (s.Wr sc (padS dd)).2) ∧ Chg (F4 p q r t) v0 w' ∧ Dk w' p q s1 ∧ Rk (F4 p q r t) w' r t (s.Wr sc (padS dd)).1 ∧ w'.cell? ⟨o8, 3, none⟩ = some (.int .i64 sc) :=
  (RWrite_any (F4 p q r t) W r t s h3 (.inr (.inr (.inl rfl))) (.inr (.inr (.inr rfl))) (DM.lt h2 h3) hx sc _ 64 64 _ (hg.chg h1) (Nat.le_refl _)).mono fun e w' ⟨e1, e2, e3⟩ =>
    have hcc := h1.trans (e3.mono (fun _ => F4_rt))
    ⟨e1, hcc, h2.rt hne e3, e2, (KO.chg hcc ho).cell 3⟩
end
set_option maxRecDepth 100000 in
set_option maxHeartbeats 2000000 in
theorem do_4 (w : World) (p q r t : Nat) (s : St) (h : DM w p q r t s) (hj : s.J) (hx : s.x < 900000000) (E : Nat) (DA : Option Addr) (dm dc : Nat) (dd : List UInt8) (nn bb : Int) (hE : E < 4294967296) (hdc : dm ≤ dc) (hdc2 : dc ≤ 9223372036854775807) (hnn : nn ≤ 9223372036854775807) (hdm : dm ≤ 600) (hb : BA (F4 p q r t) w DA dm dd) :
    Calls Tryd.prog 17 #[.pointer (some ⟨p, 0, none⟩), .pointer (some ⟨r, 0, none⟩), .agg #[.int .u8 4, .int .u32 (E : Int), .slice DA dm dc, .int .i64 nn, .int .i64 bb]] w fun e w' => e = .returned (.bool true) ∧ DM w' p q r t ((s.Wr nn (padS dd)).1) ∧ Chg (F4 p q r t) w w' := by
  obtain ⟨cs, hcs, hmk⟩ := make64
  have HN := Lib.hid h.ne
  have HNZ := Lib.hid h.nz
  have KO := Lib.hid (Blk.new w 38 #[.int .u8 4, .int .u32 (E : Int), .slice DA dm dc, .int .i64 nn, .int .i64 bb])
  have HO := Lib.hid (show ¬ F4 p q r t w.heap.size from fun e => by have := DM.lt h.d h.rk _ e; omega)
  have hbel : Below w.heap.size w (w.alloc (.cells #[.int .u8 4, .int .u32 (E : Int), .slice DA dm dc, .int .i64 nn, .int .i64 bb] 38)) := (Below.refl _ w).alloc (Nat.le_refl _) _
  have HD := Lib.hid (h.d.below hbel)
  have HR := Lib.hid (h.rk.below hbel)
  have HB := Lib.hid (hb.below hbel)
  have HEV := Lib.hid (h.ev.below hbel)
  have HC := Lib.hid (show Chg (F4 p q r t) w (w.alloc (.cells #[.int .u8 4, .int .u32 (E : Int), .slice DA dm dc, .int .i64 nn, .int .i64 bb] 38)) from Chg.of_below hbel)
  have HX := Lib.hid hx
  have HE0 := Lib.hid h.ev
  clear h hb hbel hx hj
  obtain ⟨v0, hv0⟩ : ∃ v, v = w.alloc (.cells #[.int .u8 4, .int .u32 (E : Int), .slice DA dm dc, .int .i64 nn, .int .i64 bb] 38) := ⟨_, rfl⟩
  rw [← hv0] at KO HD HR HB HEV HC
  go_enter Tryd.func17, Tryd.ntmps17
  go_upto_region 1 with fail
  rw [← hv0]
  clear hv0
  generalize w.heap.size = o8 at *
  have a0 : v0.cell? ⟨o8, 0, none⟩ = some (.int .u8 4) := KO.out.cell 0
  have a1 : v0.cell? ⟨o8, 1, none⟩ = some (.int .u32 (E : Int)) := KO.out.cell 1
  have a2 : v0.cell? ⟨o8, 2, none⟩ = some (.slice DA dm dc) := KO.out.cell 2
  have a3 : v0.cell? ⟨o8, 3, none⟩ = some (.int .i64 nn) := KO.out.cell 3
  have a4 : v0.cell? ⟨o8, 4, none⟩ = some (.int .i64 bb) := KO.out.cell 4
  obtain ⟨v1, hv1⟩ : ∃ v, v = v0.alloc (.cells cs 5) := ⟨_, rfl⟩
  have hb1 : Below v0.heap.size v0 v1 := by rw [hv1]; exact (Below.refl _ v0).alloc (Nat.le_refl _) _
  have HK1 := Lib.hid (show Blk v1 v0.heap.size 5 (bc zeros).toArray by rw [hv1, hcs.out]; exact Blk.new _ _ _)
  have HG := Lib.hid (show ¬ F4 p q r t v0.heap.size from fun e => by have := DM.lt HD.out HR.out _ e; omega)
  obtain ⟨kv, v2, qc, hk2, hc2⟩ := copy64 (c := dc) HK1.out ((HB.out.below hb1).at)
  have HO2 := Lib.hid (show ¬ o8 = v0.heap.size from fun e => by have := KO.out.lt; omega)
  have hcc2 : Chg (fun b => b = v0.heap.size) v0 v2 := (Chg.of_below hb1).trans hc2
  have HD2 := Lib.hid ((HD.out.below hb1).chg hc2 (fun e => HG.out (e ▸ .inl rfl)) (fun e => HG.out (e ▸ .inr (.inl rfl))))
  have HK2 := Lib.hid (KO.out.chg hcc2 HO2.out)
  have HBA2 := Lib.hid (ba_of_blk (F := F4 p q r t) (n := 64) hk2 (padS_len dd) HG.out)
  have a2 : v1.cell? ⟨o8, 2, none⟩ = some (.slice DA dm dc) := (KO.out.below hb1).cell 2
  have HBB := Lib.hid (hc2.below hb1 (fun k e => by rw [e]; exact Nat.le_refl _) hb1.size)
  have HR2 := Lib.hid (HR.out.below HBB.out)
  have HC2 := Lib.hid (HC.out.trans (Chg.of_below HBB.out))
  clear hb1 HK1 hk2 hc2 hcc2 hcs HO2 a1 a3 a4 HB
  subst hv1
  go_wp2_with fail
  have a3 : v2.cell? ⟨o8, 3, none⟩ = some (.int .i64 nn) := HK2.out.cell 3
  have hc0 : Chg (F4 p q r t) v2 v2.drew := Chg.of_below (below_drew (Below.refl _ _))
  have hd0 : Dk v2.drew p q s := HD2.out
  have hr0 : Rk (F4 p q r t) v2.drew r t s := HR2.out
  have WD := Lib.hid (wd4 v2 p q r t o8 v0.heap.size s nn dd HN.out (by have := HX.out; omega) _ _ _ _ HK2.out HO.out HBA2.out)
  have WR := Lib.hid (wr4 v2 p q r t o8 v0.heap.size s nn dd HN.out (by have := HX.out; omega) _ _ _ _ HK2.out HO.out HBA2.out)
  go_region_held3 (fun w' => w'.cell? ⟨o8, 3, none⟩ = some (.int .i64 nn)) (first | exact a3 | assumption) (first
    | (go_at_call 27; refine (WD.out _ (by assumption) (by assumption) (by assumption)).mono ?_; rintro e v4 ⟨rfl, hc4, hd4, hr4, d1⟩)
    | (go_at_call 33; refine (WR.out _ _ (by assumption) (by assumption) (by assumption)).mono ?_; rintro e v3 ⟨rfl, hc3, hd3, hr3, e1⟩))
  all_goals
    have HCF := Lib.hid (HC2.out.trans hc3)
    have HF := Lib.hid (show DM v3 p q r t _ from ⟨hd3, hr3, HN.out, HE0.out.chg HCF.out HNZ.out, HNZ.out⟩)
    clear WD WR hc0 hd0 hr0 hc4 hd4 hr4 hc3 hd3 hr3 d1 e1
    go_wp2
    go_ret
    exact ⟨rfl, HF.out, HCF.out⟩
set_option maxRecDepth 100000 in
set_option maxHeartbeats 2000000 in
theorem do_d (w : World) (p q r t : Nat) (s : St) (h : DM w p q r t s) (hj : s.J) (hx : s.x < 900000000) (kd : Int) (E : Nat) (DA : Option Addr) (dm dc : Nat) (dd : List UInt8) (nn bb : Int) (hE : E < 4294967296) (hdc : dm ≤ dc) (hdc2 : dc ≤ 9223372036854775807) (hnn : nn ≤ 9223372036854775807) (hdm : dm ≤ 600) (hb : BA (F4 p q r t) w DA dm dd) (z0 : (kd == 0) = false) (z1 : (kd == 1) = false) (z2 : (kd == 2) = false) (z3 : (kd == 3) = false) (z4 : (kd == 4) = false) :
    Calls Tryd.prog 17 #[.pointer (some ⟨p, 0, none⟩), .pointer (some ⟨r, 0, none⟩), .agg #[.int .u8 kd, .int .u32 (E : Int), .slice DA dm dc, .int .i64 nn, .int .i64 bb]] w fun e w' => e = .returned (.bool true) ∧ DM w' p q r t (s) ∧ Chg (F4 p q r t) w w' := by
  have HN := Lib.hid h.ne
  have HNZ := Lib.hid h.nz
  have KO := Lib.hid (Blk.new w 38 #[.int .u8 kd, .int .u32 (E : Int), .slice DA dm dc, .int .i64 nn, .int .i64 bb])
  have HO := Lib.hid (show ¬ F4 p q r t w.heap.size from fun e => by have := DM.lt h.d h.rk _ e; omega)
  have hbel : Below w.heap.size w (w.alloc (.cells #[.int .u8 kd, .int .u32 (E : Int), .slice DA dm dc, .int .i64 nn, .int .i64 bb] 38)) := (Below.refl _ w).alloc (Nat.le_refl _) _
  have HD := Lib.hid (h.d.below hbel)
  have HR := Lib.hid (h.rk.below hbel)
  have HB := Lib.hid (hb.below hbel)
  have HEV := Lib.hid (h.ev.below hbel)
  have HC := Lib.hid (show Chg (F4 p q r t) w (w.alloc (.cells #[.int .u8 kd, .int .u32 (E : Int), .slice DA dm dc, .int .i64 nn, .int .i64 bb] 38)) from Chg.of_below hbel)
  have HX := Lib.hid hx
  have HE0 := Lib.hid h.ev
  clear h hb hbel hx hj
  obtain ⟨v0, hv0⟩ : ∃ v, v = w.alloc (.cells #[.int .u8 kd, .int .u32 (E : Int), .slice DA dm dc, .int .i64 nn, .int .i64 bb] 38) := ⟨_, rfl⟩
  rw [← hv0] at KO HD HR HB HEV HC
  go_enter Tryd.func17, Tryd.ntmps17
  go_upto_region 1 with fail
  rw [← hv0]
  clear hv0
  generalize w.heap.size = o8 at *
  have a0 : v0.cell? ⟨o8, 0, none⟩ = some (.int .u8 kd) := KO.out.cell 0
  have a1 : v0.cell? ⟨o8, 1, none⟩ = some (.int .u32 (E : Int)) := KO.out.cell 1
  have a2 : v0.cell? ⟨o8, 2, none⟩ = some (.slice DA dm dc) := KO.out.cell 2
  have a3 : v0.cell? ⟨o8, 3, none⟩ = some (.int .i64 nn) := KO.out.cell 3
  have a4 : v0.cell? ⟨o8, 4, none⟩ = some (.int .i64 bb) := KO.out.cell 4
  have CR := Lib.hid (SRead_any v0 p q s HD.out (fun e => HNZ.out (F4_pq e)) HEV.out)
  go_wp2_with fail
  refine CR.out.mono ?_
  rintro e v1 ⟨u1, rfl, ho1, hb1⟩
  have CR2 := Lib.hid (RSR_any (F4 p q r t) v1 r t s (HR.out.below hb1))
  obtain ⟨A1, c1, rfl, hA1, -, -⟩ := own_bytes3 (F := fun _ => False) ho1 (fun _ h => h.elim)
  go_wp2_with fail
  refine CR2.out.mono ?_
  rintro e v2 ⟨u2, rfl, ho2, hb2⟩
  obtain ⟨A2, c2, rfl, hA2, -, -⟩ := own_bytes3 (F := fun _ => False) ho2 (fun _ h => h.elim)
  have s1 := string_at (c := c1) (hA1.at.below hb2)
  have s2 := string_at (c := c2) hA2.at
  have HBB := Lib.hid (hb1.trans (hb2.mono hb1.size))
  have HCF := Lib.hid (HC.out.trans (Chg.of_below HBB.out))
  have HF := Lib.hid (show DM v2 p q r t s from ⟨HD.out.below HBB.out, HR.out.below HBB.out, HN.out, HE0.out.chg HCF.out HNZ.out, HNZ.out⟩)
  clear CR CR2 ho1 hb1 ho2 hb2 hA1 hA2 a0 a1 a2 a3 a4
  generalize SR s = R at *
  obtain ⟨l, en, er⟩ := R
  simp only at *
  generalize (⟨l.toArray⟩ : ByteArray) = qq at *
  go_wp2
  go_ret
  exact ⟨by simp, HF.out, HCF.out⟩
theorem do_any (w : World) (p q r t : Nat) (s : St) (h : DM w p q r t s) (hj : s.J) (hx : s.x < 900000000) (o : ActM) (hok : o.ok) (hm : o.m ≤ 600) (hb : BA (F4 p q r t) w o.A o.m o.d) :
    Calls Tryd.prog 17 #[.pointer (some ⟨p, 0, none⟩), .pointer (some ⟨r, 0, none⟩), .agg #[.int .u8 o.k, .int .u32 (o.e : Int), .slice o.A o.m o.c, .int .i64 o.n, .int .i64 o.b]] w fun e w' => e = .returned (.bool true) ∧ DM w' p q r t (s.doM o) ∧ Chg (F4 p q r t) w w' := by
  obtain ⟨kd, E, DA, dm, dc, dd, nn, bb⟩ := o
  obtain ⟨h1, h2, h3, h4, -⟩ := hok
  unfold St.doM
  simp only at h1 h2 h3 h4 hb hm ⊢
  by_cases k0 : kd = 0
  · subst k0; exact do_0 w p q r t s h hj hx E DA dm dc dd nn bb h1 h2 h3 h4 hm hb
  · rw [if_neg k0]
    by_cases k1 : kd = 1
    · subst k1; exact do_1 w p q r t s h hj hx E DA dm dc dd nn bb h1 h2 h3 h4 hm hb
    · rw [if_neg k1]
      by_cases k2 : kd = 2
      · subst k2; exact do_2 w p q r t s h hj hx E DA dm dc dd nn bb h1 h2 h3 h4 hm hb
      · rw [if_neg k2]
        by_cases k3 : kd = 3
        · subst k3; exact do_3 w p q r t s h hj hx E DA dm dc dd nn bb h1 h2 h3 h4 hm hb
        · rw [if_neg k3]
          by_cases k4 : kd = 4
          · subst k4; exact do_4 w p q r t s h hj hx E DA dm dc dd nn bb h1 h2 h3 h4 hm hb
          · rw [if_neg k4]
            exact do_d w p q r t s h hj hx kd E DA dm dc dd nn bb h1 h2 h3 h4 hm hb (by simpa using k0) (by simpa using k1) (by simpa using k2) (by simpa using k3) (by simpa using k4)
end Go.Proofs.YthhpilkhcomhbaaDoor
