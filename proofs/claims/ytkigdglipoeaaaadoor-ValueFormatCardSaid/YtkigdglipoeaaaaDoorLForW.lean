/- Law ValueFormat: the walk. -/
import Derived.Test.YtkigdglipoeaaaaDoorPse
import Derived.Test.YtkigdglipoeaaaaDoorLng
namespace Go.Proofs.YtkigdglipoeaaaaDoor
open Go.ChangeShapes Go.WideShapes Go.ChangeAt Go.RowKit Go.ChangeMaps

theorem par_yes (x : V3) (h : x.valid = true) (h0 : -9223372036854775808 ≤ x.n) (h1 : x.n ≤ 9223372036854775807) : parV (fmtV x) = (x, 0) := by
  have hc := cand_fmt x h h0 h1
  unfold parV
  rw [hc, if_pos ⟨fun e => (by rw [(fmtV_nil x).1 e] at h; cases h), rfl⟩]
theorem par_no (x : V3) (h : x.valid = false) : parV (fmtV x) = (z3, 2) := by
  rw [(fmtV_nil x).2 h]; rfl
set_option maxRecDepth 100000 in
set_option maxHeartbeats 2000000 in
theorem valueFormat_in (A : Option Addr) (n c : Nat) (R : List V3) (w : World) (hr : RowAt w A n R) (hn : n ≤ 1000000) (hR : ∀ x ∈ R, x.ok) (hP : EnvP w) (hl : lrow R = false) :
    Calls Tryd.prog 9 #[.slice A n c] w fun e w' => e = .returned (.bool true) ∧ Below w.heap.size w w' := by
  have HE := Lib.hid hP
  have L0 := fun w (hr : RowAt w A n R) => longRow_any A n c R w hr (by omega)
  rw [hl] at L0
  have L0 := Lib.hid L0
  have P1 := Lib.hid (fun w hE (hr : RowAt w A n R) => VFormatRow_any A n c R w hE hr hn hR)
  have P2 := Lib.hid (fun w (hr : RowAt w A n R) => Text30_any A n c R w hr hn hR)
  obtain ⟨tt, htt⟩ : ∃ tt : ByteArray, (⟨(rowT R).toArray⟩ : ByteArray) = tt := ⟨_, rfl⟩
  rw [htt] at P1 P2
  clear htt hP hl
  have HRow := Lib.hid hr
  have B1 := Below.refl w.heap.size w
  rcases Nat.eq_zero_or_pos n with h0 | h0
  · subst h0
    obtain rfl : R = [] := List.eq_nil_of_length_eq_zero hr.1
    clear hr
    go_enter Tryd.func9, Tryd.ntmps9
    go_wp2_with fail
    refine (awake_any _ (HE.out.below B1).env).mono ?_
    rintro e w1 ⟨rfl, hb⟩
    have B1 := more_below B1 hb
    clear hb
    go_wp2_with fail
    refine (L0.out _ (HRow.out.below B1)).mono ?_
    rintro e w2 ⟨rfl, hb⟩
    have B1 := more_below B1 hb
    clear hb
    go_wp2
    refine wp_loop_rounds 1 ?_
    rw [rounds_succ]
    go_wp2_with fail
    refine (P1.out _ (HE.out.below B1).env (HRow.out.below B1)).mono ?_
    rintro e w3 ⟨rfl, hb⟩
    have B1 := more_below B1 hb
    clear hb
    go_wp2_with fail
    refine (P2.out _ (HRow.out.below B1)).mono ?_
    rintro e w4 ⟨rfl, hb⟩
    have B1 := more_below B1 hb
    clear hb
    go_wp2
    go_ret
    exact ⟨rfl, B1⟩
  · obtain ⟨b, off, rfl, hb0, hc⟩ := hr.2 h0
    have HL := Lib.hid hr.1
    clear hr
    go_enter Tryd.func9, Tryd.ntmps9
    go_wp2_with fail
    refine (awake_any _ (HE.out.below B1).env).mono ?_
    rintro e w1 ⟨rfl, hb⟩
    have B1 := more_below B1 hb
    clear hb
    go_wp2_with fail
    refine (L0.out _ (HRow.out.below B1)).mono ?_
    rintro e w2 ⟨rfl, hb⟩
    have B1 := more_below B1 hb
    clear hb
    go_wp2
    have HB0 := Lib.hid B1
    clear B1
    go_loopw [17] (fun i wr => ∃ k : Nat, k ≤ n ∧ i = .int .i64 k ∧ Below w.heap.size w wr) (fun i _ => n - (intOf i).toNat)
    case atStart => exact ⟨0, Nat.zero_le _, rfl, HB0.out⟩
    case round =>
      obtain ⟨k, hk, rfl, hB⟩ := hrel
      by_cases hlt : k < n
      · have hkR : k < R.length := by rw [HL.out]; exact hlt
        obtain ⟨c0, c1, c2⟩ := hc k hkR
        have c0 := (hB.cell (p := ⟨b, off + k * 3, none⟩) hb0).trans c0
        have c1 := (hB.cell (p := ⟨b, off + k * 3 + 1, none⟩) hb0).trans c1
        have c2 := (hB.cell (p := ⟨b, off + k * 3 + 2, none⟩) hb0).trans c2
        have hx := hR R[k] (List.getElem_mem _)
        have hlen := fmtV_len R[k] hx
        have HB := Lib.hid hB
        clear hB
        generalize R[k] = x at *
        rcases x with ⟨xk, xn, xs⟩
        simp only at c0 c1 c2
        have hx : -9223372036854775808 ≤ xn ∧ xn ≤ 9223372036854775807 ∧ xs.size ≤ 140737488351232 := ⟨hx.2.2.1, hx.2.2.2.1, hx.2.2.2.2⟩
        have HF := Lib.hid (fun w hE => VFormat_any xk xn xs w hE hx.1 hx.2.1 (by omega))
        have HLt := Lib.hid (fun w => Literal_any xk xn xs w hx.1 hx.2.1 (by omega))
        have HVa := fun w => Valid_any xk xn xs w (by omega)
        obtain ⟨f, hf⟩ : ∃ f : ByteArray, (⟨(fmtV ⟨xk, xn, xs⟩).toArray⟩ : ByteArray) = f := ⟨_, rfl⟩
        have hfl : f.data.toList = fmtV ⟨xk, xn, xs⟩ := by rw [← hf]
        have hfs : f.size ≤ 34 := by
          have e : f.data.toList.length = f.size := by simp
          rw [← e, hfl]; exact hlen
        have PP := fun w hw => Parse_any f w hw (by omega)
        rw [hfl] at PP
        rw [hf] at HF HLt
        cases hv : V3.valid ⟨xk, xn, xs⟩
        · rw [hv] at HVa
          rw [par_no _ hv] at PP
          have PP : Hid (∀ w, EnvP w → Calls Tryd.prog 27 #[.string f] w fun e w' => e = .returned (.tuple #[.agg #[.int .i64 0, .int .i64 0, .string ⟨#[]⟩], .int .i64 2]) ∧ Below w.heap.size w w') := Lib.hid PP
          have HVa := Lib.hid HVa
          clear hf hfl hv hfs hlen
          go_wp2_with fail
          have HB1 := Lib.hid (HB.out.alloc HB.out.size (.cells #[.int .i64 xk, .int .i64 xn, .string xs] 23))
          refine (HF.out _ (HE.out.below HB1.out).env).mono ?_
          rintro e w1 ⟨rfl, hb⟩
          have a0 := keepcell hb (newcell (w := wr) (T := 23) (cs := #[.int .i64 xk, .int .i64 xn, .string xs]) (g := wr.heap.size) 0 (.int .i64 xk) rfl rfl)
          have a1 := keepcell hb (newcell (w := wr) (T := 23) (cs := #[.int .i64 xk, .int .i64 xn, .string xs]) (g := wr.heap.size) 1 (.int .i64 xn) rfl rfl)
          have a2 := keepcell hb (newcell (w := wr) (T := 23) (cs := #[.int .i64 xk, .int .i64 xn, .string xs]) (g := wr.heap.size) 2 (.string xs) rfl rfl)
          have HB2 := Lib.hid (HB1.out.trans (hb.mono HB1.out.size))
          clear hb
          generalize wr.heap.size = g at *
          go_wp2_with fail
          refine (PP.out _ (HE.out.below HB2.out)).mono ?_
          rintro e w2 ⟨rfl, hb⟩
          have a0 := pastcell (x := .cells #[.int .i64 0, .int .i64 0, .string ⟨#[]⟩] 23) (keepcell hb a0)
          have a1 := pastcell (x := .cells #[.int .i64 0, .int .i64 0, .string ⟨#[]⟩] 23) (keepcell hb a1)
          have a2 := pastcell (x := .cells #[.int .i64 0, .int .i64 0, .string ⟨#[]⟩] 23) (keepcell hb a2)
          have HB3 := Lib.hid ((HB2.out.trans (hb.mono HB2.out.size)).alloc (HB2.out.trans (hb.mono HB2.out.size)).size (.cells #[.int .i64 0, .int .i64 0, .string ⟨#[]⟩] 23))
          clear hb
          go_wp2_with fail
          refine (HLt.out _).mono ?_
          rintro e w3 ⟨rfl, hb⟩
          have a0 := keepcell hb a0
          have a1 := keepcell hb a1
          have a2 := keepcell hb a2
          have b0 := keepcell hb (newcell (w := w2) (T := 23) (cs := #[.int .i64 0, .int .i64 0, .string ⟨#[]⟩]) (g := w2.heap.size) 0 (.int .i64 0) rfl rfl)
          have b1 := keepcell hb (newcell (w := w2) (T := 23) (cs := #[.int .i64 0, .int .i64 0, .string ⟨#[]⟩]) (g := w2.heap.size) 1 (.int .i64 0) rfl rfl)
          have b2 := keepcell hb (newcell (w := w2) (T := 23) (cs := #[.int .i64 0, .int .i64 0, .string ⟨#[]⟩]) (g := w2.heap.size) 2 (.string ⟨#[]⟩) rfl rfl)
          have HB4 := Lib.hid (HB3.out.trans (hb.mono HB3.out.size))
          clear hb
          generalize w2.heap.size = g2 at *
          go_wp2_with fail
          refine (HVa.out _).mono ?_
          rintro e w4 ⟨rfl, hb⟩
          have a0 := keepcell hb a0
          have a1 := keepcell hb a1
          have a2 := keepcell hb a2
          have b0 := keepcell hb b0
          have b1 := keepcell hb b1
          have b2 := keepcell hb b2
          have HB5 := Lib.hid (HB4.out.trans (hb.mono HB4.out.size))
          clear hb
          go_wp2
          go_roundw
          case rel => exact ⟨k + 1, by omega, by go_num, HB5.out⟩
          case measure => simp [intOf]; omega
        · rw [hv] at HVa
          rw [par_yes _ hv hx.1 hx.2.1] at PP
          have PP : Hid (∀ w, EnvP w → Calls Tryd.prog 27 #[.string f] w fun e w' => e = .returned (.tuple #[.agg #[.int .i64 xk, .int .i64 xn, .string xs], .int .i64 0]) ∧ Below w.heap.size w w') := Lib.hid PP
          have HVa := Lib.hid HVa
          clear hf hfl hv hfs hlen
          go_wp2_with fail
          have HB1 := Lib.hid (HB.out.alloc HB.out.size (.cells #[.int .i64 xk, .int .i64 xn, .string xs] 23))
          refine (HF.out _ (HE.out.below HB1.out).env).mono ?_
          rintro e w1 ⟨rfl, hb⟩
          have a0 := keepcell hb (newcell (w := wr) (T := 23) (cs := #[.int .i64 xk, .int .i64 xn, .string xs]) (g := wr.heap.size) 0 (.int .i64 xk) rfl rfl)
          have a1 := keepcell hb (newcell (w := wr) (T := 23) (cs := #[.int .i64 xk, .int .i64 xn, .string xs]) (g := wr.heap.size) 1 (.int .i64 xn) rfl rfl)
          have a2 := keepcell hb (newcell (w := wr) (T := 23) (cs := #[.int .i64 xk, .int .i64 xn, .string xs]) (g := wr.heap.size) 2 (.string xs) rfl rfl)
          have HB2 := Lib.hid (HB1.out.trans (hb.mono HB1.out.size))
          clear hb
          generalize wr.heap.size = g at *
          go_wp2_with fail
          refine (PP.out _ (HE.out.below HB2.out)).mono ?_
          rintro e w2 ⟨rfl, hb⟩
          have a0 := pastcell (x := .cells #[.int .i64 xk, .int .i64 xn, .string xs] 23) (keepcell hb a0)
          have a1 := pastcell (x := .cells #[.int .i64 xk, .int .i64 xn, .string xs] 23) (keepcell hb a1)
          have a2 := pastcell (x := .cells #[.int .i64 xk, .int .i64 xn, .string xs] 23) (keepcell hb a2)
          have HB3 := Lib.hid ((HB2.out.trans (hb.mono HB2.out.size)).alloc (HB2.out.trans (hb.mono HB2.out.size)).size (.cells #[.int .i64 xk, .int .i64 xn, .string xs] 23))
          clear hb
          go_wp2_with fail
          refine (HLt.out _).mono ?_
          rintro e w3 ⟨rfl, hb⟩
          have a0 := keepcell hb a0
          have a1 := keepcell hb a1
          have a2 := keepcell hb a2
          have b0 := keepcell hb (newcell (w := w2) (T := 23) (cs := #[.int .i64 xk, .int .i64 xn, .string xs]) (g := w2.heap.size) 0 (.int .i64 xk) rfl rfl)
          have b1 := keepcell hb (newcell (w := w2) (T := 23) (cs := #[.int .i64 xk, .int .i64 xn, .string xs]) (g := w2.heap.size) 1 (.int .i64 xn) rfl rfl)
          have b2 := keepcell hb (newcell (w := w2) (T := 23) (cs := #[.int .i64 xk, .int .i64 xn, .string xs]) (g := w2.heap.size) 2 (.string xs) rfl rfl)
          have HB4 := Lib.hid (HB3.out.trans (hb.mono HB3.out.size))
          clear hb
          generalize w2.heap.size = g2 at *
          go_wp2_with fail
          refine (HVa.out _).mono ?_
          rintro e w4 ⟨rfl, hb⟩
          have a0 := keepcell hb a0
          have a1 := keepcell hb a1
          have a2 := keepcell hb a2
          have b0 := keepcell hb b0
          have b1 := keepcell hb b1
          have b2 := keepcell hb b2
          have HB5 := Lib.hid (HB4.out.trans (hb.mono HB4.out.size))
          clear hb
          go_wp2
          go_roundw
          case rel => exact ⟨k + 1, by omega, by go_num, HB5.out⟩
          case measure => simp [intOf]; omega
      · obtain rfl : k = n := by omega
        have B1 := hB
        clear hB
        go_wp2_with fail
        refine (P1.out _ (HE.out.below B1).env (HRow.out.below B1)).mono ?_
        rintro e w3 ⟨rfl, hb⟩
        have B1 := more_below B1 hb
        clear hb
        go_wp2_with fail
        refine (P2.out _ (HRow.out.below B1)).mono ?_
        rintro e w4 ⟨rfl, hb⟩
        have B1 := more_below B1 hb
        clear hb
        go_wp2
        go_ret
        exact ⟨rfl, B1⟩
set_option maxRecDepth 100000 in
theorem valueFormat_long (A : Option Addr) (n c : Nat) (R : List V3) (w : World) (hr : RowAt w A n R) (hn : n ≤ 9223372036854775807) (hP : EnvP w) (hl : lrow R = true) :
    Calls Tryd.prog 9 #[.slice A n c] w fun e w' => e = .returned (.bool true) ∧ Below w.heap.size w w' := by
  have HE := Lib.hid hP
  have L0 := fun w (hr : RowAt w A n R) => longRow_any A n c R w hr hn
  rw [hl] at L0
  have L0 := Lib.hid L0
  have HRow := Lib.hid hr
  clear hr hP
  have B1 := Below.refl w.heap.size w
  go_enter Tryd.func9, Tryd.ntmps9
  go_wp2_with fail
  refine (awake_any _ (HE.out.below B1).env).mono ?_
  rintro e w1 ⟨rfl, hb⟩
  have B1 := more_below B1 hb
  clear hb
  go_wp2_with fail
  refine (L0.out _ (HRow.out.below B1)).mono ?_
  rintro e w2 ⟨rfl, hb⟩
  have B1 := more_below B1 hb
  clear hb
  go_wp2_with fail
  refine (awake_any _ (HE.out.below B1).env).mono ?_
  rintro e w3 ⟨rfl, hb⟩
  have B1 := more_below B1 hb
  clear hb
  go_wp2
  go_ret
  exact ⟨rfl, B1⟩
theorem valueFormat_walk (A : Option Addr) (n c : Nat) (R : List V3) (w : World) (hr : RowAt w A n R) (hn : n ≤ 9223372036854775807) (hR : ∀ x ∈ R, x.ok) (hP : EnvP w) :
    Calls Tryd.prog 9 #[.slice A n c] w fun e w' => e = .returned (.bool true) ∧ Below w.heap.size w w' := by
  cases hl : lrow R
  · refine valueFormat_in A n c R w hr ?_ hR hP hl
    have e := hr.1
    unfold lrow at hl
    rw [Bool.or_eq_false_iff] at hl
    have := of_decide_eq_false hl.2
    omega
  · exact valueFormat_long A n c R w hr hn hP hl
end Go.Proofs.YtkigdglipoeaaaaDoor
