/- Law DiskFailed: for every input the call returns true, and its arguments read afterwards as before. -/
import Derived.Test.YthdkcmbdbdhedaaSme
import Derived.Test.YthdkcmbdbdhedaaOpo
import Derived.Deep.RegionHeld3
namespace Go.Proofs.Ythdkcmbdbdhedaa
open Go.ChangeShapes Go.WideShapes Go.ChangeAt Go.RowKit Go.ChangeMaps

theorem one_ops (W : World) (o : OpM) (hb : BytesAt W o.A o.m o.d) (hok : o.ok) : OpsAt (W.alloc (.cells #[.int .i64 o.k, .int .i64 o.s, .int .i64 o.n, .slice o.A o.m o.c] 48)) (some ⟨W.heap.size, 0, none⟩) 1 [o] :=
  ⟨rfl, fun _ => ⟨W.heap.size, 0, rfl, by simp, fun i hi => by
    obtain rfl : i = 0 := by simpa using hi
    have K := Blk.new W 48 #[.int .i64 o.k, .int .i64 o.s, .int .i64 o.n, .slice o.A o.m o.c]
    exact ⟨K.cell 0, K.cell 1, K.cell 2, K.cell 3, hb.below ((Below.refl _ W).alloc (Nat.le_refl _) _), hok⟩⟩⟩
set_option maxRecDepth 100000 in
set_option maxHeartbeats 2000000 in
theorem diskFailed_walk (A : Option Addr) (n c : Nat) (L : List OpM) (o : OpM) (w : World) (hr : OpsAt w A n L) (hn : n ≤ 9223372036854775807) (ho : BytesAt w o.A o.m o.d) (hok : o.ok) :
    Calls Try.prog 7 #[.slice A n c, .agg #[.int .i64 o.k, .int .i64 o.s, .int .i64 o.n, .slice o.A o.m o.c]] w fun e w' => e = .returned (.bool true) ∧ Below w.heap.size w w' := by
  have HO := Lib.hid hr
  have HI := Lib.hid ho
  have HOK := Lib.hid hok
  have hmc : o.m ≤ 9223372036854775807 := Nat.le_trans hok.2.1 hok.2.2.1
  have hbel : Below w.heap.size w (w.alloc (.cells #[.int .i64 o.k, .int .i64 o.s, .int .i64 o.n, .slice o.A o.m o.c] 48)) := (Below.refl _ w).alloc (Nat.le_refl _) _
  have HW := Lib.hid hbel
  have KO := Lib.hid (Blk.new w 48 #[.int .i64 o.k, .int .i64 o.s, .int .i64 o.n, .slice o.A o.m o.c])
  clear hr ho hok hbel
  go_enter Try.func7, Try.ntmps7
  go_wp2_with fail
  refine (awake_any _).mono ?_
  rintro e w1 ⟨rfl, hb⟩
  replace HW := Lib.hid (HW.out.trans (hb.mono HW.out.size))
  replace KO := Lib.hid (KO.out.below hb)
  clear hb
  rcases hfew : fewM L with _ | _
  · go_wp2_with fail
    refine (few_any w1 A n c L (HO.out.below HW.out) hn false hfew).mono ?_
    rintro e w2 ⟨rfl, hb⟩
    replace HW := Lib.hid (HW.out.trans (hb.mono HW.out.size))
    clear hb
    go_wp2_with fail
    refine (awake_any _).mono ?_
    rintro e w5 ⟨rfl, hb⟩
    replace HW := Lib.hid (HW.out.trans (hb.mono HW.out.size))
    clear hb
    go_wp2
    go_ret
    exact ⟨rfl, HW.out⟩
  · go_wp2_with fail
    refine (few_any w1 A n c L (HO.out.below HW.out) hn true hfew).mono ?_
    rintro e w2 ⟨rfl, hb⟩
    replace HW := Lib.hid (HW.out.trans (hb.mono HW.out.size))
    replace KO := Lib.hid (KO.out.below hb)
    clear hb
    have a0 : w2.cell? ⟨w.heap.size, 0, none⟩ = some (.int .i64 o.k) := KO.out.cell 0
    have a1 : w2.cell? ⟨w.heap.size, 1, none⟩ = some (.int .i64 o.s) := KO.out.cell 1
    have a2 : w2.cell? ⟨w.heap.size, 2, none⟩ = some (.int .i64 o.n) := KO.out.cell 2
    have a3 : w2.cell? ⟨w.heap.size, 3, none⟩ = some (.slice o.A o.m o.c) := KO.out.cell 3
    have C1 := Lib.hid (one_ops w2 o (HI.out.below HW.out) HOK.out)
    rcases hf1 : fewM [o] with _ | _
    · have C2 := Lib.hid (few_any _ _ 1 1 [o] C1.out (by decide) false hf1)
      go_wp2_with fail
      refine C2.out.mono ?_
      rintro e w3 ⟨rfl, hb⟩
      replace HW := Lib.hid ((HW.out.alloc HW.out.size _).trans (hb.mono (by have := HW.out.size; simp; omega)))
      clear hb C1 C2 a0 a1 a2 a3
      go_wp2_with fail
      refine (awake_any _).mono ?_
      rintro e w5 ⟨rfl, hb⟩
      replace HW := Lib.hid (HW.out.trans (hb.mono HW.out.size))
      clear hb
      go_wp2
      go_ret
      exact ⟨rfl, HW.out⟩
    · have C2 := Lib.hid (few_any _ _ 1 1 [o] C1.out (by decide) true hf1)
      go_wp2_with fail
      refine C2.out.mono ?_
      rintro e w3 ⟨rfl, hb⟩
      replace HW := Lib.hid ((HW.out.alloc HW.out.size _).trans (hb.mono (by have := HW.out.size; simp; omega)))
      replace KO := Lib.hid ((KO.out.alloc _).below hb)
      clear hb C1 C2 a0 a1 a2 a3
      go_wp2_with fail
      refine (run_any w3 A n c L (HO.out.below HW.out) hn hfew).mono ?_
      rintro e w4 ⟨p, q, r, t, s, rfl, hM, hR4, hx, hF, hb⟩
      have HM := Lib.hid hM
      have HN := Lib.hid hM.ne
      have HF3 := Lib.hid hF
      have HO8 := Lib.hid (show ¬ F4 p q r t w.heap.size from fun e => by have h1 := hF _ e; have h2 := KO.out.lt; omega)
      have HF := Lib.hid (show ∀ k, F4 p q r t k → w.heap.size ≤ k from fun k hk => Nat.le_trans HW.out.size (hF k hk))
      have HX := Lib.hid hx
      have HR4 := Lib.hid hR4
      replace HW := Lib.hid (HW.out.trans (hb.mono HW.out.size))
      replace KO := Lib.hid (KO.out.below hb)
      clear hM hF hb hx HF3 hR4
      go_wp2_with fail
      refine (Fail_any w4 p q s HM.out.d).mono ?_
      rintro e w5 ⟨rfl, hd, hc⟩
      have HD := Lib.hid hd
      have HR := Lib.hid (HM.out.rk.pq HN.out hc)
      replace HW := Lib.hid (hc.below HW.out (fun k hk => HF.out k (F4_pq hk)) HW.out.size)
      replace KO := Lib.hid (KO.out.chg hc (fun e => HO8.out (F4_pq e)))
      clear hd hc HM
      go_wp2_with fail
      refine (Writes_any w5 p q _ HD.out).mono ?_
      rintro e w6 ⟨rfl, rfl⟩
      have a1 : w5.cell? ⟨w.heap.size, 1, none⟩ = some (.int .i64 o.s) := KO.out.cell 1
      have a3 : w5.cell? ⟨w.heap.size, 3, none⟩ = some (.slice o.A o.m o.c) := KO.out.cell 3
      go_wp2_with fail
      refine (Read_bad w5 p q _ HD.out o.s 15 (.inl ⟨rfl, rfl⟩)).mono ?_
      rintro e w6 ⟨rfl, rfl⟩
      have SE := Lib.hid (fun (W : World) (hW : Below w5.heap.size w5 W) => show Calls Try.prog 23 #[.slice o.A o.m o.c] W (fun e w' => ∃ g, e = .returned (.slice (some ⟨g, 0, none⟩) 64 64) ∧ w'.cell? ⟨w.heap.size, 1, none⟩ = some (.int .i64 o.s) ∧ w'.cell? ⟨w.heap.size, 3, none⟩ = some (.slice o.A o.m o.c) ∧ Below w5.heap.size w5 w') from (sector_any W o.A o.m o.c o.d (HI.out.below (HW.out.trans (hW.mono HW.out.size))) hmc).mono fun e w' ⟨h1, h2, h3⟩ => by
        have hb := hW.trans (h3.mono hW.size)
        exact ⟨W.heap.size, h1, (KO.out.below hb).cell 1, (KO.out.below hb).cell 3, hb⟩)
      have WF := Lib.hid (fun (W : World) (v : Value) (hW : Below w5.heap.size w5 W) => show Calls Try.prog 22 #[.pointer (some ⟨p, 0, none⟩), .int .i64 o.s, v] W (fun e w' => e = .returned (.int .i64 15) ∧ W = w') from Write_fail W p q s.Fl (HD.out.below hW) rfl o.s v)
      go_wp2_with fail
      go_region_held3 (fun w' => w'.cell? ⟨w.heap.size, 1, none⟩ = some (.int .i64 o.s) ∧ w'.cell? ⟨w.heap.size, 3, none⟩ = some (.slice o.A o.m o.c)) (first | exact ⟨a1, a3⟩ | exact ⟨b1, b3⟩) (first | (go_at_call 23; refine (SE.out _ ?hh).mono ?_; (case hh => exact below_drew (Below.refl _ _)); rintro e v1 ⟨g, rfl, b1, b3, hb1⟩) | (go_at_call 22; refine (WF.out _ _ hb1).mono ?_; rintro e v2 ⟨rfl, rfl⟩))
      all_goals
        replace HD := Lib.hid (HD.out.below hb1)
        replace HR := Lib.hid (HR.out.below hb1)
        replace HW := Lib.hid (HW.out.trans (hb1.mono HW.out.size))
        replace KO := Lib.hid (KO.out.below hb1)
        clear SE WF hb1 b1 b3 a1 a3
        go_wp2_with fail
        refine (Arm_any v1 p q _ HD.out 1 5 (by decide)).mono ?_
        rintro e v3 ⟨rfl, hd, hc⟩
        have hd : Dk v3 p q s.Fl := hd
        replace HD := Lib.hid hd
        replace HR := Lib.hid (HR.out.pq HN.out hc)
        replace HW := Lib.hid (hc.below HW.out (fun k hk => HF.out k (F4_pq hk)) HW.out.size)
        replace KO := Lib.hid (KO.out.chg hc (fun e => HO8.out (F4_pq e)))
        clear hd hc
        go_wp2_with fail
        refine (Failed_any v3 p q _ HD.out).mono ?_
        rintro e v4 ⟨rfl, rfl⟩
        have hft : s.Fl.f = true := rfl
        rw [hft]
        go_wp2_with fail
        refine (Writes_any v3 p q _ HD.out).mono ?_
        rintro e v4 ⟨rfl, rfl⟩
        go_wp2_with fail
        refine (RFail_any (F4 p q r t) v3 r t s HR.out (.inr (.inr (.inl rfl)))).mono ?_
        rintro e v5 ⟨rfl, hr5, hc5⟩
        have HM := Lib.hid (show DM v5 p q r t s.Fl from ⟨HD.out.rt HN.out hc5, hr5, HN.out⟩)
        replace HW := Lib.hid (hc5.below HW.out (fun k hk => HF.out k (F4_rt hk)) HW.out.size)
        replace KO := Lib.hid (KO.out.chg hc5 (fun e => HO8.out (F4_rt e)))
        clear hr5 hc5
        go_wp2_with fail
        refine (same_any v5 p q r t s.Fl HM.out).mono ?_
        rintro e v6 ⟨rfl, hM6, hc6⟩
        have HM6 := Lib.hid hM6
        replace HW := Lib.hid (hc6.below HW.out HF.out HW.out.size)
        replace KO := Lib.hid (KO.out.chg hc6 HO8.out)
        clear hM6 hc6 HM
        have a3 : v6.cell? ⟨w.heap.size, 3, none⟩ = some (.slice o.A o.m o.c) := KO.out.cell 3
        go_wp2_with fail
        refine (sector_any v6 o.A o.m o.c o.d (HI.out.below HW.out) hmc).mono ?_
        rintro e v7 ⟨rfl, hk7, hb7⟩
        have CW := Lib.hid (Write_zero v7 p q s.Fl.Re (HM6.out.d.below hb7) rfl rfl (show s.x < 1000000000 by have := HX.out; omega) 0 (show 0 < s.R.length by rw [HR4.out]; decide) _ 64 (sec64 o.d) (ba_of_blk (n := 64) hk7 (sec64_len _) (HM6.out.d.fresh (Nat.le_refl _))) (Nat.le_refl _))
        replace HW := Lib.hid (HW.out.trans (hb7.mono HW.out.size))
        clear hk7 hb7 a3
        go_wp2_with fail
        refine CW.out.mono ?_
        rintro e v8 ⟨rfl, -, hc8⟩
        replace HW := Lib.hid (hc8.below HW.out (fun k hk => HF.out k (F4_pq hk)) HW.out.size)
        clear hc8
        go_wp2
        go_ret
        exact ⟨rfl, HW.out⟩

set_option maxRecDepth 100000 in
theorem diskFailed_lifted (os : Os) (started : os.Started) (H : Type) (enc : TypeId × Value → H) :
    ReturnsInHanded {} Try.checked os 7 .any (Rows.diskFailedSpec.pre6 enc Try.prog Try.f7 Rows.diskFailedRow.domain false) (Rows.diskFailedSpec.post enc Try.prog Try.f7 false true false false) := by
  refine law_lifted (C := Try.checked) (B := 4) Try.own started (by kernel_rfl) Try.func7
    (ChangeSpec.witness6 (enc := enc) (C := Try.checked) false ⟨#[], #[.slice none 0 0, .agg #[.int .i64 0, .int .i64 0, .int .i64 0, .slice none 0 0]], []⟩ 8 (by kernel_rfl) (by kernel_rfl) (by kernel_rfl) (by kernel_rfl))
    Try.laidOut (by kernel_rfl) rfl rfl rfl Try.underlying4 (fun ds h => match ds, h with | [_, _], _ => rfl) ?_
  intro W base args ds ps hval hA hlt hsz
  rw [Try.params7] at hA hval hsz
  obtain ⟨v0, vs0, d0, ds0, p0, q0, hargs, rfl, rfl, h0, r0⟩ := trodAll_cons hA
  obtain ⟨v1, vs1, d1, ds1, p1, q1, rfl, rfl, rfl, h1, r1⟩ := trodAll_cons r0
  obtain ⟨rfl, rfl, rfl⟩ := trodAll_nil r1
  obtain rfl : args = #[v0, v1] := by cases args; simp_all
  obtain ⟨A0, n0, c0, R0, rfl, k0, l0⟩ := open_Ops (hval 0 22 v0 rfl rfl) h0 (fun x hx => hlt x (by simp [hx]))
  obtain ⟨X1, rfl, k1, l1⟩ := open_Op (hval 1 48 v1 rfl rfl) h1 (fun x hx => hlt x (by simp [hx]))
  exact diskFailed_walk A0 n0 c0 R0 X1 W k0 l0 k1 l1

theorem diskFailed_over : Rows.diskFailedRow.holds Try.pinned (OpenSpec.ofChange Rows.diskFailedSpec) :=
  OpenClaim.holds_of_wide 7 Try.f7 rfl rfl rfl rfl rfl rfl rfl ⟨rfl, rfl, rfl, rfl, rfl⟩ rfl rfl rfl rfl rfl (by kernel_rfl) Try.func7 (by kernel_rfl)
    (of_decide_eq_true (by kernel_rfl)) (by unfold Func.isWrapper; first | (rw [if_pos (by decide +kernel)]; kernel_rfl) | (rw [if_neg (by decide +kernel)]; exact ⟨rfl, rfl⟩))
    (fun os started H enc _ => diskFailed_lifted os started H enc)

theorem diskFailed_proved : Rows.DiskFailedSaid := diskFailed_over
end Go.Proofs.Ythdkcmbdbdhedaa
