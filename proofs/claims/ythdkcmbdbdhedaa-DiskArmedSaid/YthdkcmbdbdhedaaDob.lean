/- An operation on a disk and on its reference: the others. -/
import Derived.Test.YthdkcmbdbdhedaaDmm
import Derived.Deep.RegionHeld3
namespace Go.Proofs.Ythdkcmbdbdhedaa
open Go.ChangeShapes Go.WideShapes Go.ChangeAt Go.RowKit Go.ChangeMaps

set_option maxRecDepth 100000 in
set_option maxHeartbeats 4000000 in
theorem do_2 (w : World) (p q r t : Nat) (s : St) (h : DM w p q r t s) (hx : s.x < 1000000000) (sc nn : Int) (DA : Option Addr) (dm dc : Nat) (dd : List UInt8) (hsc : sc ≤ 9223372036854775807) (hdc : dm ≤ dc) (hdc2 : dc ≤ 9223372036854775807) (hb : BA (F4 p q r t) w DA dm dd) :
    Calls Try.prog 29 #[.pointer (some ⟨p, 0, none⟩), .pointer (some ⟨r, 0, none⟩), .agg #[.int .i64 2, .int .i64 sc, .int .i64 nn, .slice DA dm dc]] w fun e w' => e = .returned (.bool true) ∧ DM w' p q r t (s.Ar sc nn) ∧ Chg (F4 p q r t) w w' := by
  have hne := h.ne
  have HN := Lib.hid hne
  have KO := Lib.hid (Blk.new w 48 #[.int .i64 2, .int .i64 sc, .int .i64 nn, .slice DA dm dc])
  have HO := Lib.hid (show ¬ F4 p q r t w.heap.size from fun e => by have := DM.lt h.d h.rk _ e; omega)
  have hbel : Below w.heap.size w (w.alloc (.cells #[.int .i64 2, .int .i64 sc, .int .i64 nn, .slice DA dm dc] 48)) := (Below.refl _ w).alloc (Nat.le_refl _) _
  have HD := Lib.hid (h.d.below hbel)
  have HR := Lib.hid (h.rk.below hbel)
  have HB := Lib.hid (hb.below hbel)
  have HC := Lib.hid (show Chg (F4 p q r t) w (w.alloc (.cells #[.int .i64 2, .int .i64 sc, .int .i64 nn, .slice DA dm dc] 48)) from Chg.of_below hbel)
  have HX := Lib.hid hx
  clear h hb hbel hne hx
  go_enter Try.func29, Try.ntmps29
  go_wp2_with fail
  generalize w.alloc (.cells #[.int .i64 2, .int .i64 sc, .int .i64 nn, .slice DA dm dc] 48) = v0 at *
  generalize w.heap.size = o8 at *
  have a1 : v0.cell? ⟨o8, 1, none⟩ = some (.int .i64 sc) := KO.out.cell 1
  have a2 : v0.cell? ⟨o8, 2, none⟩ = some (.int .i64 nn) := KO.out.cell 2
  have a3 : v0.cell? ⟨o8, 3, none⟩ = some (.slice DA dm dc) := KO.out.cell 3
  refine (Arm_any v0 p q s HD.out sc nn hsc).mono ?_
  rintro e v1 ⟨rfl, hd1, hc1⟩
  have HC1 := Lib.hid (HC.out.trans (hc1.mono (fun _ => F4_pq)))
  have HR1 := Lib.hid (HR.out.pq HN.out hc1)
  have KO1 := Lib.hid (KO.out.chg (hc1.mono (fun _ => F4_pq)) HO.out)
  have HD1 := Lib.hid hd1
  clear hd1 hc1 a1 a2 a3
  have a1 : v1.cell? ⟨o8, 1, none⟩ = some (.int .i64 sc) := KO1.out.cell 1
  have a2 : v1.cell? ⟨o8, 2, none⟩ = some (.int .i64 nn) := KO1.out.cell 2
  go_wp2_with fail
  refine (RArm_any (F4 p q r t) v1 r t s HR1.out (.inr (.inr (.inl rfl))) sc nn hsc).mono ?_
  rintro e v2 ⟨rfl, hr2, hc2⟩
  have HC2 := Lib.hid (HC1.out.trans (hc2.mono (fun _ => F4_rt)))
  have HF := Lib.hid (show DM v2 p q r t _ from ⟨HD1.out.rt HN.out hc2, hr2, HN.out⟩)
  clear hr2 hc2
  go_wp2
  go_ret
  exact ⟨rfl, HF.out, HC2.out⟩
set_option maxRecDepth 100000 in
set_option maxHeartbeats 4000000 in
theorem do_3 (w : World) (p q r t : Nat) (s : St) (h : DM w p q r t s) (hx : s.x < 1000000000) (sc nn : Int) (DA : Option Addr) (dm dc : Nat) (dd : List UInt8) (hsc : sc ≤ 9223372036854775807) (hdc : dm ≤ dc) (hdc2 : dc ≤ 9223372036854775807) (hb : BA (F4 p q r t) w DA dm dd) :
    Calls Try.prog 29 #[.pointer (some ⟨p, 0, none⟩), .pointer (some ⟨r, 0, none⟩), .agg #[.int .i64 3, .int .i64 sc, .int .i64 nn, .slice DA dm dc]] w fun e w' => e = .returned (.bool true) ∧ DM w' p q r t (s.Fl) ∧ Chg (F4 p q r t) w w' := by
  have hne := h.ne
  have HN := Lib.hid hne
  have KO := Lib.hid (Blk.new w 48 #[.int .i64 3, .int .i64 sc, .int .i64 nn, .slice DA dm dc])
  have HO := Lib.hid (show ¬ F4 p q r t w.heap.size from fun e => by have := DM.lt h.d h.rk _ e; omega)
  have hbel : Below w.heap.size w (w.alloc (.cells #[.int .i64 3, .int .i64 sc, .int .i64 nn, .slice DA dm dc] 48)) := (Below.refl _ w).alloc (Nat.le_refl _) _
  have HD := Lib.hid (h.d.below hbel)
  have HR := Lib.hid (h.rk.below hbel)
  have HB := Lib.hid (hb.below hbel)
  have HC := Lib.hid (show Chg (F4 p q r t) w (w.alloc (.cells #[.int .i64 3, .int .i64 sc, .int .i64 nn, .slice DA dm dc] 48)) from Chg.of_below hbel)
  have HX := Lib.hid hx
  clear h hb hbel hne hx
  go_enter Try.func29, Try.ntmps29
  go_wp2_with fail
  generalize w.alloc (.cells #[.int .i64 3, .int .i64 sc, .int .i64 nn, .slice DA dm dc] 48) = v0 at *
  generalize w.heap.size = o8 at *
  have a1 : v0.cell? ⟨o8, 1, none⟩ = some (.int .i64 sc) := KO.out.cell 1
  have a2 : v0.cell? ⟨o8, 2, none⟩ = some (.int .i64 nn) := KO.out.cell 2
  have a3 : v0.cell? ⟨o8, 3, none⟩ = some (.slice DA dm dc) := KO.out.cell 3
  refine (Fail_any v0 p q s HD.out).mono ?_
  rintro e v1 ⟨rfl, hd1, hc1⟩
  have HC1 := Lib.hid (HC.out.trans (hc1.mono (fun _ => F4_pq)))
  have HR1 := Lib.hid (HR.out.pq HN.out hc1)
  have KO1 := Lib.hid (KO.out.chg (hc1.mono (fun _ => F4_pq)) HO.out)
  have HD1 := Lib.hid hd1
  clear hd1 hc1 a1 a2 a3
  have a1 : v1.cell? ⟨o8, 1, none⟩ = some (.int .i64 sc) := KO1.out.cell 1
  have a2 : v1.cell? ⟨o8, 2, none⟩ = some (.int .i64 nn) := KO1.out.cell 2
  go_wp2_with fail
  refine (RFail_any (F4 p q r t) v1 r t s HR1.out (.inr (.inr (.inl rfl)))).mono ?_
  rintro e v2 ⟨rfl, hr2, hc2⟩
  have HC2 := Lib.hid (HC1.out.trans (hc2.mono (fun _ => F4_rt)))
  have HF := Lib.hid (show DM v2 p q r t _ from ⟨HD1.out.rt HN.out hc2, hr2, HN.out⟩)
  clear hr2 hc2
  go_wp2
  go_ret
  exact ⟨rfl, HF.out, HC2.out⟩
set_option maxRecDepth 100000 in
set_option maxHeartbeats 4000000 in
theorem do_4 (w : World) (p q r t : Nat) (s : St) (h : DM w p q r t s) (hx : s.x < 1000000000) (sc nn : Int) (DA : Option Addr) (dm dc : Nat) (dd : List UInt8) (hsc : sc ≤ 9223372036854775807) (hdc : dm ≤ dc) (hdc2 : dc ≤ 9223372036854775807) (hb : BA (F4 p q r t) w DA dm dd) :
    Calls Try.prog 29 #[.pointer (some ⟨p, 0, none⟩), .pointer (some ⟨r, 0, none⟩), .agg #[.int .i64 4, .int .i64 sc, .int .i64 nn, .slice DA dm dc]] w fun e w' => e = .returned (.bool true) ∧ DM w' p q r t (s.Re) ∧ Chg (F4 p q r t) w w' := by
  have hne := h.ne
  have HN := Lib.hid hne
  have KO := Lib.hid (Blk.new w 48 #[.int .i64 4, .int .i64 sc, .int .i64 nn, .slice DA dm dc])
  have HO := Lib.hid (show ¬ F4 p q r t w.heap.size from fun e => by have := DM.lt h.d h.rk _ e; omega)
  have hbel : Below w.heap.size w (w.alloc (.cells #[.int .i64 4, .int .i64 sc, .int .i64 nn, .slice DA dm dc] 48)) := (Below.refl _ w).alloc (Nat.le_refl _) _
  have HD := Lib.hid (h.d.below hbel)
  have HR := Lib.hid (h.rk.below hbel)
  have HB := Lib.hid (hb.below hbel)
  have HC := Lib.hid (show Chg (F4 p q r t) w (w.alloc (.cells #[.int .i64 4, .int .i64 sc, .int .i64 nn, .slice DA dm dc] 48)) from Chg.of_below hbel)
  have HX := Lib.hid hx
  clear h hb hbel hne hx
  go_enter Try.func29, Try.ntmps29
  go_wp2_with fail
  generalize w.alloc (.cells #[.int .i64 4, .int .i64 sc, .int .i64 nn, .slice DA dm dc] 48) = v0 at *
  generalize w.heap.size = o8 at *
  have a1 : v0.cell? ⟨o8, 1, none⟩ = some (.int .i64 sc) := KO.out.cell 1
  have a2 : v0.cell? ⟨o8, 2, none⟩ = some (.int .i64 nn) := KO.out.cell 2
  have a3 : v0.cell? ⟨o8, 3, none⟩ = some (.slice DA dm dc) := KO.out.cell 3
  refine (Restart_any v0 p q s HD.out).mono ?_
  rintro e v1 ⟨rfl, hd1, hc1⟩
  have HC1 := Lib.hid (HC.out.trans (hc1.mono (fun _ => F4_pq)))
  have HR1 := Lib.hid (HR.out.pq HN.out hc1)
  have KO1 := Lib.hid (KO.out.chg (hc1.mono (fun _ => F4_pq)) HO.out)
  have HD1 := Lib.hid hd1
  clear hd1 hc1 a1 a2 a3
  have a1 : v1.cell? ⟨o8, 1, none⟩ = some (.int .i64 sc) := KO1.out.cell 1
  have a2 : v1.cell? ⟨o8, 2, none⟩ = some (.int .i64 nn) := KO1.out.cell 2
  go_wp2_with fail
  refine (RRestart_any (F4 p q r t) v1 r t s HR1.out (.inr (.inr (.inl rfl)))).mono ?_
  rintro e v2 ⟨rfl, hr2, hc2⟩
  have HC2 := Lib.hid (HC1.out.trans (hc2.mono (fun _ => F4_rt)))
  have HF := Lib.hid (show DM v2 p q r t _ from ⟨HD1.out.rt HN.out hc2, hr2, HN.out⟩)
  clear hr2 hc2
  go_wp2
  go_ret
  exact ⟨rfl, HF.out, HC2.out⟩
end Go.Proofs.Ythdkcmbdbdhedaa
