/- An operation on a disk and on its reference: writing. -/
import Derived.Test.YthdkcmbdbdhedaaDmm
import Derived.Deep.RegionHeld3
namespace Go.Proofs.Ythdkcmbdbdhedaa
open Go.ChangeShapes Go.WideShapes Go.ChangeAt Go.RowKit Go.ChangeMaps

set_option maxRecDepth 100000 in
set_option maxHeartbeats 4000000 in
theorem do_0 (w : World) (p q r t : Nat) (s : St) (h : DM w p q r t s) (hx : s.x < 1000000000) (sc nn : Int) (DA : Option Addr) (dm dc : Nat) (dd : List UInt8) (hsc : sc ≤ 9223372036854775807) (hdc : dm ≤ dc) (hdc2 : dc ≤ 9223372036854775807) (hb : BA (F4 p q r t) w DA dm dd) :
    Calls Try.prog 29 #[.pointer (some ⟨p, 0, none⟩), .pointer (some ⟨r, 0, none⟩), .agg #[.int .i64 0, .int .i64 sc, .int .i64 nn, .slice DA dm dc]] w fun e w' => e = .returned (.bool true) ∧ DM w' p q r t ((s.Wr sc (sec64 dd)).1) ∧ Chg (F4 p q r t) w w' := by
  have hne := h.ne
  have HN := Lib.hid hne
  have KO := Lib.hid (Blk.new w 48 #[.int .i64 0, .int .i64 sc, .int .i64 nn, .slice DA dm dc])
  have HO := Lib.hid (show ¬ F4 p q r t w.heap.size from fun e => by have := DM.lt h.d h.rk _ e; omega)
  have hbel : Below w.heap.size w (w.alloc (.cells #[.int .i64 0, .int .i64 sc, .int .i64 nn, .slice DA dm dc] 48)) := (Below.refl _ w).alloc (Nat.le_refl _) _
  have HD := Lib.hid (h.d.below hbel)
  have HR := Lib.hid (h.rk.below hbel)
  have HB := Lib.hid (hb.below hbel)
  have HC := Lib.hid (show Chg (F4 p q r t) w (w.alloc (.cells #[.int .i64 0, .int .i64 sc, .int .i64 nn, .slice DA dm dc] 48)) from Chg.of_below hbel)
  have HX := Lib.hid hx
  clear h hb hbel hne hx
  go_enter Try.func29, Try.ntmps29
  go_wp2_with fail
  generalize w.alloc (.cells #[.int .i64 0, .int .i64 sc, .int .i64 nn, .slice DA dm dc] 48) = v0 at *
  generalize w.heap.size = o8 at *
  have a1 : v0.cell? ⟨o8, 1, none⟩ = some (.int .i64 sc) := KO.out.cell 1
  have a2 : v0.cell? ⟨o8, 2, none⟩ = some (.int .i64 nn) := KO.out.cell 2
  have a3 : v0.cell? ⟨o8, 3, none⟩ = some (.slice DA dm dc) := KO.out.cell 3
  have hc0 : Chg (F4 p q r t) v0 v0.drew := Chg.of_below (below_drew (Below.refl _ _))
  have hd0 : Dk v0.drew p q s := HD.out
  have hr0 : Rk (F4 p q r t) v0.drew r t s := HR.out
  have hb0 : BA (F4 p q r t) v0.drew DA dm dd := HB.out
  have WD := Lib.hid (wd v0 p q r t o8 s sc HN.out HX.out _ _ _ KO.out HO.out)
  have WR := Lib.hid (wr_ v0 p q r t o8 s sc HN.out HX.out _ _ _ KO.out HO.out)
  have SE := Lib.hid (sec_ v0 p q r t o8 s sc _ _ _ KO.out HO.out)
  go_region_held3 (fun w' => w'.cell? ⟨o8, 1, none⟩ = some (.int .i64 sc) ∧ w'.cell? ⟨o8, 3, none⟩ = some (.slice DA dm dc)) (first | exact ⟨a1, a3⟩ | exact ⟨by assumption, by assumption⟩) (first
    | (go_at_call 23; refine (SE.out _ DA dm dc dd (by omega) _ (by assumption) (by assumption) (by assumption) HB.out).mono ?_; rintro e v1 ⟨g1, rfl, hc1, hd1, hr1, hb1, b1, b3⟩)
    | (go_at_call 22; refine (WD.out _ _ _ _ _ (Nat.le_refl _) (by assumption) (by assumption) (by assumption) (by assumption)).mono ?_; rintro e v2 ⟨rfl, hc2, hd2, hr2, hb2, d1, d3⟩)
    | (go_at_call 31; refine (WR.out _ _ _ _ _ (Nat.le_refl _) _ (by assumption) (by assumption) (by assumption) (by assumption)).mono ?_; rintro e v3 ⟨rfl, hc3, hd3, hr3, e1, e3⟩))
  all_goals
    have HF := Lib.hid (show DM v3 p q r t _ from ⟨hd3, hr3, HN.out⟩)
    have HCF := Lib.hid (HC.out.trans hc3)
    clear SE WD WR hc0 hd0 hr0 hb0 hc2 hd2 hr2 hb2 hc3 hd3 hr3 d1 d3 e1 e3
    go_wp2
    go_ret
    exact ⟨rfl, HF.out, HCF.out⟩
set_option maxRecDepth 100000 in
set_option maxHeartbeats 4000000 in
theorem do_d (w : World) (p q r t : Nat) (s : St) (h : DM w p q r t s) (hx : s.x < 1000000000) (kd sc nn : Int) (DA : Option Addr) (dm dc : Nat) (dd : List UInt8) (z0 : (kd == 0) = false) (z1 : (kd == 1) = false) (z2 : (kd == 2) = false) (z3 : (kd == 3) = false) (z4 : (kd == 4) = false) (hsc : sc ≤ 9223372036854775807) (hdc : dm ≤ dc) (hdc2 : dc ≤ 9223372036854775807) (hb : BA (F4 p q r t) w DA dm dd) :
    Calls Try.prog 29 #[.pointer (some ⟨p, 0, none⟩), .pointer (some ⟨r, 0, none⟩), .agg #[.int .i64 kd, .int .i64 sc, .int .i64 nn, .slice DA dm dc]] w fun e w' => e = .returned (.bool true) ∧ DM w' p q r t ((s.Wr sc dd).1) ∧ Chg (F4 p q r t) w w' := by
  have hne := h.ne
  have HN := Lib.hid hne
  have KO := Lib.hid (Blk.new w 48 #[.int .i64 kd, .int .i64 sc, .int .i64 nn, .slice DA dm dc])
  have HO := Lib.hid (show ¬ F4 p q r t w.heap.size from fun e => by have := DM.lt h.d h.rk _ e; omega)
  have hbel : Below w.heap.size w (w.alloc (.cells #[.int .i64 kd, .int .i64 sc, .int .i64 nn, .slice DA dm dc] 48)) := (Below.refl _ w).alloc (Nat.le_refl _) _
  have HD := Lib.hid (h.d.below hbel)
  have HR := Lib.hid (h.rk.below hbel)
  have HB := Lib.hid (hb.below hbel)
  have HC := Lib.hid (show Chg (F4 p q r t) w (w.alloc (.cells #[.int .i64 kd, .int .i64 sc, .int .i64 nn, .slice DA dm dc] 48)) from Chg.of_below hbel)
  have HX := Lib.hid hx
  clear h hb hbel hne hx
  go_enter Try.func29, Try.ntmps29
  go_wp2_with fail
  generalize w.alloc (.cells #[.int .i64 kd, .int .i64 sc, .int .i64 nn, .slice DA dm dc] 48) = v0 at *
  generalize w.heap.size = o8 at *
  have a1 : v0.cell? ⟨o8, 1, none⟩ = some (.int .i64 sc) := KO.out.cell 1
  have a2 : v0.cell? ⟨o8, 2, none⟩ = some (.int .i64 nn) := KO.out.cell 2
  have a3 : v0.cell? ⟨o8, 3, none⟩ = some (.slice DA dm dc) := KO.out.cell 3
  have hc0 : Chg (F4 p q r t) v0 v0.drew := Chg.of_below (below_drew (Below.refl _ _))
  have hd0 : Dk v0.drew p q s := HD.out
  have hr0 : Rk (F4 p q r t) v0.drew r t s := HR.out
  have hb0 : BA (F4 p q r t) v0.drew DA dm dd := HB.out
  have WD := Lib.hid (wd v0 p q r t o8 s sc HN.out HX.out _ _ _ KO.out HO.out)
  have WR := Lib.hid (wr_ v0 p q r t o8 s sc HN.out HX.out _ _ _ KO.out HO.out)
  have SE := Lib.hid (sec_ v0 p q r t o8 s sc _ _ _ KO.out HO.out)
  go_region_held3 (fun w' => w'.cell? ⟨o8, 1, none⟩ = some (.int .i64 sc) ∧ w'.cell? ⟨o8, 3, none⟩ = some (.slice DA dm dc)) (first | exact ⟨a1, a3⟩ | exact ⟨by assumption, by assumption⟩) (first
    | (go_at_call 22; refine (WD.out _ _ _ _ _ hdc (by assumption) (by assumption) (by assumption) (by assumption)).mono ?_; rintro e v2 ⟨rfl, hc2, hd2, hr2, hb2, d1, d3⟩)
    | (go_at_call 31; refine (WR.out _ _ _ _ _ hdc _ (by assumption) (by assumption) (by assumption) (by assumption)).mono ?_; rintro e v3 ⟨rfl, hc3, hd3, hr3, e1, e3⟩))
  all_goals
    have HF := Lib.hid (show DM v3 p q r t _ from ⟨hd3, hr3, HN.out⟩)
    have HCF := Lib.hid (HC.out.trans hc3)
    clear SE WD WR hc0 hd0 hr0 hb0 hc2 hd2 hr2 hb2 hc3 hd3 hr3 d1 d3 e1 e3
    go_wp2
    go_ret
    exact ⟨rfl, HF.out, HCF.out⟩
end Go.Proofs.Ythdkcmbdbdhedaa
