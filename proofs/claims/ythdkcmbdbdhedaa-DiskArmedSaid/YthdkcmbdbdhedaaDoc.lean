/- An operation on a disk and on its reference. -/
import Derived.Test.YthdkcmbdbdhedaaDoa
import Derived.Test.YthdkcmbdbdhedaaDob
namespace Go.Proofs.Ythdkcmbdbdhedaa
open Go.ChangeShapes Go.WideShapes Go.ChangeAt Go.RowKit Go.ChangeMaps

set_option maxRecDepth 100000 in
set_option maxHeartbeats 4000000 in
theorem do_1 (w : World) (p q r t : Nat) (s : St) (h : DM w p q r t s) (hx : s.x < 1000000000) (sc nn : Int) (DA : Option Addr) (dm dc : Nat) (dd : List UInt8) (hsc : sc ≤ 9223372036854775807) (hdc : dm ≤ dc) (hdc2 : dc ≤ 9223372036854775807) (hb : BA (F4 p q r t) w DA dm dd) :
    Calls Try.prog 29 #[.pointer (some ⟨p, 0, none⟩), .pointer (some ⟨r, 0, none⟩), .agg #[.int .i64 1, .int .i64 sc, .int .i64 nn, .slice DA dm dc]] w fun e w' => e = .returned (.bool true) ∧ DM w' p q r t (s) ∧ Chg (F4 p q r t) w w' := by
  have hne := h.ne
  have HN := Lib.hid hne
  have KO := Lib.hid (Blk.new w 48 #[.int .i64 1, .int .i64 sc, .int .i64 nn, .slice DA dm dc])
  have HO := Lib.hid (show ¬ F4 p q r t w.heap.size from fun e => by have := DM.lt h.d h.rk _ e; omega)
  have hbel : Below w.heap.size w (w.alloc (.cells #[.int .i64 1, .int .i64 sc, .int .i64 nn, .slice DA dm dc] 48)) := (Below.refl _ w).alloc (Nat.le_refl _) _
  have HD := Lib.hid (h.d.below hbel)
  have HR := Lib.hid (h.rk.below hbel)
  have HB := Lib.hid (hb.below hbel)
  have HC := Lib.hid (show Chg (F4 p q r t) w (w.alloc (.cells #[.int .i64 1, .int .i64 sc, .int .i64 nn, .slice DA dm dc] 48)) from Chg.of_below hbel)
  have HX := Lib.hid hx
  clear h hb hbel hne hx
  go_enter Try.func29, Try.ntmps29
  go_wp2_with fail
  generalize w.alloc (.cells #[.int .i64 1, .int .i64 sc, .int .i64 nn, .slice DA dm dc] 48) = v0 at *
  generalize w.heap.size = o8 at *
  have a1 : v0.cell? ⟨o8, 1, none⟩ = some (.int .i64 sc) := KO.out.cell 1
  have a2 : v0.cell? ⟨o8, 2, none⟩ = some (.int .i64 nn) := KO.out.cell 2
  have a3 : v0.cell? ⟨o8, 3, none⟩ = some (.slice DA dm dc) := KO.out.cell 3
  have a1' := a1
  by_cases hin : s.f = false ∧ 0 ≤ sc ∧ sc < s.R.length
  · obtain ⟨hf, hi0, hi1⟩ := hin
    obtain ⟨k, rfl⟩ : ∃ k : Nat, sc = (k : Int) := ⟨sc.toNat, by omega⟩
    have hk : k < s.R.length := by omega
    have CR := Lib.hid (Read_ok v0 p q s HD.out hf k hk)
    have CS := Lib.hid (fun v1 (hd : Dk v1 p q s) (hr : Rk (F4 p q r t) v1 r t s) => RRead_ok (F4 p q r t) v1 r t s hr (DM.lt hd hr) hf k hk)
    clear hf hi0 hi1
    refine CR.out.mono ?_
    rintro e v1 ⟨g, rfl, hg, hk1, hb1⟩
    have HK1 := Lib.hid (bytes_of_blk (n := 64) hk1 (getD_len64 HD.out.2.2.2.1 hk))
    have HD1 := Lib.hid (HD.out.below hb1)
    have HR1 := Lib.hid (HR.out.below hb1)
    have HC1 := Lib.hid (HC.out.trans (Chg.of_below hb1))
    have KO1 := Lib.hid (KO.out.below hb1)
    clear hk1 hb1 a1 a2 a3 a1' hg
    have a1 : v1.cell? ⟨o8, 1, none⟩ = some (.int .i64 (k : Int)) := KO1.out.cell 1
    go_wp2_with fail
    refine (CS.out v1 HD1.out HR1.out).mono ?_
    rintro e v2 ⟨A2, c2, rfl, hb2, hbl⟩
    have HK2 := Lib.hid (HK1.out.below hbl)
    have HB2 := Lib.hid hb2.at
    have HF := Lib.hid (show DM v2 p q r t s from ⟨HD1.out.below hbl, HR1.out.below hbl, HN.out⟩)
    have HC2 := Lib.hid (HC1.out.trans (Chg.of_below hbl))
    clear hb2 hbl
    go_wp2_with fail
    refine (Same_any v2 _ _ 64 64 64 c2 _ _ HK2.out HB2.out true (by simp)).mono ?_
    rintro e v3 ⟨rfl, rfl⟩
    go_wp2
    go_ret
    exact ⟨rfl, HF.out, HC2.out⟩
  · obtain ⟨c, hc⟩ : ∃ c, (s.f = true ∧ c = 15) ∨ (s.f = false ∧ ¬ (0 ≤ sc ∧ sc < s.R.length) ∧ c = (1 : Int)) := by
      cases hf : s.f
      · exact ⟨1, .inr ⟨rfl, fun h => hin ⟨hf, h.1, h.2⟩, rfl⟩⟩
      · exact ⟨15, .inl ⟨rfl, rfl⟩⟩
    have CR := Lib.hid (Read_bad v0 p q s HD.out sc c hc)
    have CS := Lib.hid (RRead_bad (F4 p q r t) v0 r t s HR.out sc c hc)
    clear hin hc
    refine CR.out.mono ?_
    rintro e v1 ⟨rfl, rfl⟩
    go_wp2_with fail
    refine CS.out.mono ?_
    rintro e v2 ⟨rfl, rfl⟩
    go_wp2_with fail
    refine (Same_any v0 _ _ 0 0 0 0 _ _ (BytesAt.nil v0 none [] rfl) (BytesAt.nil v0 none [] rfl) true (by simp)).mono ?_
    rintro e v3 ⟨rfl, rfl⟩
    go_wp2
    go_ret
    exact ⟨rfl, ⟨HD.out, HR.out, HN.out⟩, HC.out⟩
theorem do_any (w : World) (p q r t : Nat) (s : St) (h : DM w p q r t s) (hx : s.x < 1000000000) (o : OpM) (hok : o.ok) (hb : BA (F4 p q r t) w o.A o.m o.d) :
    Calls Try.prog 29 #[.pointer (some ⟨p, 0, none⟩), .pointer (some ⟨r, 0, none⟩), .agg #[.int .i64 o.k, .int .i64 o.s, .int .i64 o.n, .slice o.A o.m o.c]] w fun e w' => e = .returned (.bool true) ∧ DM w' p q r t (s.doM o) ∧ Chg (F4 p q r t) w w' := by
  obtain ⟨kd, sc, nn, DA, dm, dc, dd⟩ := o
  obtain ⟨h1, h2, h3, -⟩ := hok
  unfold St.doM
  simp only at h1 h2 h3 hb ⊢
  by_cases k0 : kd = 0
  · subst k0; exact do_0 w p q r t s h hx sc nn DA dm dc dd h1 h2 h3 hb
  · rw [if_neg k0]
    by_cases k1 : kd = 1
    · subst k1; exact do_1 w p q r t s h hx sc nn DA dm dc dd h1 h2 h3 hb
    · rw [if_neg k1]
      by_cases k2 : kd = 2
      · subst k2; exact do_2 w p q r t s h hx sc nn DA dm dc dd h1 h2 h3 hb
      · rw [if_neg k2]
        by_cases k3 : kd = 3
        · subst k3; exact do_3 w p q r t s h hx sc nn DA dm dc dd h1 h2 h3 hb
        · rw [if_neg k3]
          by_cases k4 : kd = 4
          · subst k4; exact do_4 w p q r t s h hx sc nn DA dm dc dd h1 h2 h3 hb
          · rw [if_neg k4]
            exact do_d w p q r t s h hx kd sc nn DA dm dc dd (by simpa using k0) (by simpa using k1) (by simpa using k2) (by simpa using k3) (by simpa using k4) h1 h2 h3 hb
end Go.Proofs.Ythdkcmbdbdhedaa
