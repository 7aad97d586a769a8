/- Law BoxRow: for every input the call returns true, and its arguments read afterwards as before. -/
import Derived.Test.YtcocdhndhlegiaaAwk
import Derived.Test.YtcocdhndhlegiaaOpn
import Derived.Test.YtcocdhndhlegiaaChn
import Derived.Test.YtcocdhndhlegiaaApf
import Derived.Test.YtcocdhndhlegiaaSrg
import Derived.Test.YtcocdhndhlegiaaSpv
import Derived.Test.YtcocdhndhlegiaaSfi
import Derived.Test.YtcocdhndhlegiaaSrr
namespace Go.Proofs.Ytcocdhndhlegiaa
open Go.ChangeShapes Go.WideShapes Go.ChangeAt Go.RowKit Go.ChangeMaps

set_option maxRecDepth 100000 in
set_option maxHeartbeats 4000000 in
theorem boxRow_walk (a0 : Int) (A1 : Option Addr) (n1 c1 : Nat) (R1 : List V3) (A2 : Option Addr) (n2 c2 : Nat) (R2 : List V3) (w : World) (_ : -9223372036854775808 ≤ a0) (_ : a0 ≤ 9223372036854775807) (k1 : Vls w A1 n1 R1) (l1 : n1 ≤ 9223372036854775807) (g1 : ∀ x ∈ R1, x.in) (k2 : Vls w A2 n2 R2) (l2 : n2 ≤ 9223372036854775807) (g2 : ∀ x ∈ R2, x.in) : Calls Try.prog 7 #[.int .i64 a0, .slice A1 n1 c1, .slice A2 n2 c2] w fun e w' => e = .returned (.bool true) ∧ Below w.heap.size w w' := by
  have L1 := Lib.hid k1.len
  have L2 := Lib.hid k2.len
  obtain ⟨o1, ho1⟩ : ∃ x, rowOk R1 = x := ⟨_, rfl⟩
  have HO1 := Lib.hid ho1
  have C1 := Lib.hid (fun W (hW : Below w.heap.size w W) => valid_any A1 n1 c1 R1 W (k1.below hW) (fun x hx => by have := g1 x hx; unfold V3.in at this; unfold V3.ok; omega) l1)
  simp only [ho1] at C1
  have H1 := Lib.hid (fun W (hW : Below w.heap.size w W) => k1.below hW)
  clear k1 l1 g1 ho1
  obtain ⟨o2, ho2⟩ : ∃ x, rowOk R2 = x := ⟨_, rfl⟩
  have HO2 := Lib.hid ho2
  have C2 := Lib.hid (fun W (hW : Below w.heap.size w W) => valid_any A2 n2 c2 R2 W (k2.below hW) (fun x hx => by have := g2 x hx; unfold V3.in at this; unfold V3.ok; omega) l2)
  simp only [ho2] at C2
  have H2 := Lib.hid (fun W (hW : Below w.heap.size w W) => k2.below hW)
  clear k2 l2 g2 ho2
  have HB := Lib.hid (Below.refl w.heap.size w)
  go_enter Try.func7, Try.ntmps7
  go_wp2_with fail
  refine (awake_any _).mono ?_
  rintro e x1 ⟨rfl, hb⟩
  replace HB := Lib.hid (HB.out.trans (hb.mono HB.out.size))
  clear hb
  go_wp2_with fail
  refine (C1.out _ HB.out).mono ?_
  rintro e x2 ⟨rfl, hb⟩
  replace HB := Lib.hid (HB.out.trans (hb.mono HB.out.size))
  clear hb
  cases o1
  · go_wp2_with fail
    refine (awake_any _).mono ?_
    rintro e y1 ⟨rfl, hb⟩
    replace HB := Lib.hid (HB.out.trans (hb.mono HB.out.size))
    clear hb
    go_wp2
    go_ret
    exact ⟨rfl, HB.out⟩
  go_wp2_with fail
  refine (C2.out _ HB.out).mono ?_
  rintro e x3 ⟨rfl, hb⟩
  replace HB := Lib.hid (HB.out.trans (hb.mono HB.out.size))
  clear hb
  cases o2
  · go_wp2_with fail
    refine (awake_any _).mono ?_
    rintro e y1 ⟨rfl, hb⟩
    replace HB := Lib.hid (HB.out.trans (hb.mono HB.out.size))
    clear hb
    go_wp2
    go_ret
    exact ⟨rfl, HB.out⟩
  have hn1 : n1 ≤ 1000 := by have := rowOk_len HO1.out; have := L1.out; omega
  have hn2 : n2 ≤ 1000 := by have := rowOk_len HO2.out; have := L2.out; omega
  have HO1x := Lib.hid (v3_one R1)
  obtain ⟨i0, hi, hz0, hz1, hz2⟩ := info_parts (show (Try.prog.info? 47).map (fun i => (i.zero, i.size, i.bytes)) = some (some (.agg #[.int .i64 0, .int .i64 0, .string ⟨#[]⟩]), 3, 32) by kernel_rfl)
  obtain ⟨T, hT⟩ : ∃ T, T = R1.map rowS := ⟨_, rfl⟩
  have HT := Lib.hid hT
  have HSM := Lib.hid (sameB_refl a0 T)
  have HRT := Lib.hid (show T = R1.map rowR by rw [hT, rows_eq HO1.out])
  have HTL := Lib.hid (show T.length = n1 by rw [hT, List.length_map]; exact L1.out)
  clear hT
  have HBx := Lib.hid (show Below w.heap.size w (x3.alloc (.cells #[] 47)) from HB.out.alloc HB.out.size _)
  have HGx := Lib.hid (show Blk (x3.alloc (.cells #[] 47)) x3.heap.size 47 #[] from Blk.new _ _ _)
  go_wp2_with (at_builtin; go_loud (refine wpList_append_fresh _ rfl _ _ 26 26 rfl 47 i0 _ 3 32 Try.underlying26 hi hz0 hz1 hz2 rfl _ rfl HGx.out _ n1 _ rfl (At.src Try.underlying26 (H1.out _ HBx.out) HO1x.out (by decide)) (by unfold maxLen; omega) (by omega) ?_))
  intro A3 c3 u1 hA3 _ _ hb
  have HS3 := Lib.hid (show Vls u1 A3 n1 R1 from hA3)
  replace HB := Lib.hid (HBx.out.trans (hb.mono (by have := HBx.out.size; simpa using this)))
  clear hb hA3 HGx HBx
  go_wp2_with fail
  refine (Row_any a0 A3 n1 c3 R1 T HT.out _ HS3.out hn1).mono ?_
  rintro e x4 ⟨D, d, rfl, hS, hb⟩
  have HD := Lib.hid hS
  clear hS
  replace HB := Lib.hid (HB.out.trans (hb.mono HB.out.size))
  clear hb
  go_wp2_with fail
  have KB := Lib.hid (show Blk (x4.alloc (.cells #[.int .i64 a0, .slice D n1 d] 33)) x4.heap.size 33 #[.int .i64 a0, .slice D n1 d] from Blk.new _ _ _)
  replace HB := Lib.hid (show Below w.heap.size w (x4.alloc (.cells #[.int .i64 a0, .slice D n1 d] 33)) from HB.out.alloc HB.out.size _)
  replace HD := Lib.hid (HD.out.below (show Below x4.heap.size x4 (x4.alloc (.cells #[.int .i64 a0, .slice D n1 d] 33)) from (Below.refl _ _).alloc (Nat.le_refl _) _))
  generalize hz5 : x4.alloc (.cells #[.int .i64 a0, .slice D n1 d] 33) = z5 at *
  generalize x4.heap.size = gb at *
  clear hz5
  refine (back_any a0 D n1 d T _ HD.out hn1).mono ?_
  rintro e x5 ⟨E, e5, rfl, hS, hb⟩
  have HE := Lib.hid hS
  clear hS
  replace KB := Lib.hid (KB.out.below hb)
  replace HD := Lib.hid (HD.out.below hb)
  replace HB := Lib.hid (HB.out.trans (hb.mono HB.out.size))
  clear hb
  go_wp2_with fail
  refine (RRow_any a0 A1 n1 c1 R1 T HRT.out _ (H1.out _ HB.out) hn1).mono ?_
  rintro e x6 ⟨F, f5, rfl, hS, hb⟩
  have HF := Lib.hid hS
  clear hS
  replace HE := Lib.hid (HE.out.below hb)
  replace KB := Lib.hid (KB.out.below hb)
  replace HD := Lib.hid (HD.out.below hb)
  replace HB := Lib.hid (HB.out.trans (hb.mono HB.out.size))
  clear hb
  go_wp2_with fail
  refine (Same_any a0 a0 E n1 e5 T F n1 f5 T _ HE.out HF.out hn1 hn1).mono ?_
  rintro e x7 ⟨rfl, hb⟩
  replace KB := Lib.hid (KB.out.below hb)
  replace HD := Lib.hid (HD.out.below hb)
  replace HB := Lib.hid (HB.out.trans (hb.mono HB.out.size))
  clear hb
  rw [HSM.out]
  clear HE HF
  by_cases hn0 : n1 = 0
  · have hn0i : ((n1 : Int) == 0) = true := by simp; omega
    clear hn0
    have kb0 : x7.cell? ⟨gb, 0, none⟩ = some (.int .i64 a0) := KB.out.cell 0
    have kb1 : x7.cell? ⟨gb, 1, none⟩ = some (.slice D n1 d) := KB.out.cell 1
    go_wp2_with fail
    refine (Contains_any a0 D n1 d T A2 n2 c2 R2 _ HD.out (H2.out _ HB.out) hn1 (by omega)).mono ?_
    rintro e x8 ⟨rfl, hb⟩
    replace KB := Lib.hid (KB.out.below hb)
    replace HD := Lib.hid (HD.out.below hb)
    replace HB := Lib.hid (HB.out.trans (hb.mono HB.out.size))
    clear hb
    obtain ⟨cb, hcb⟩ : ∃ x, contB T R2 = x := ⟨_, rfl⟩
    rw [hcb]
    have HCB := Lib.hid hcb
    clear hcb
    cases cb
    · go_wp2
      go_ret
      exact ⟨rfl, HB.out⟩
    obtain ⟨hl, hz⟩ := row_fits HO1.out HO2.out (by rw [← HT.out]; exact HCB.out)
    have hl : n2 = n1 := by rw [← L1.out, ← L2.out]; exact hl
    subst hl
    have HZ := Lib.hid hz
    clear hz
    go_wp2_with fail
    refine (fits_any A1 n2 c1 R1 A2 c2 R2 _ (H1.out _ HB.out) (H2.out _ HB.out) hn1).mono ?_
    rintro e y6 ⟨rfl, hb⟩
    replace HB := Lib.hid (HB.out.trans (hb.mono HB.out.size))
    clear hb
    rw [HZ.out]
    go_wp2
    go_ret
    exact ⟨rfl, HB.out⟩
  have hn0i : ((n1 : Int) == 0) = false := by simp; omega
  have HN0 := Lib.hid hn0
  clear hn0
  have kb0 : x7.cell? ⟨gb, 0, none⟩ = some (.int .i64 a0) := KB.out.cell 0
  have kb1 : x7.cell? ⟨gb, 1, none⟩ = some (.slice D n1 d) := KB.out.cell 1
  go_wp2_with fail
  clear kb0 kb1
  refine (Contains_any a0 D n1 d T A1 n1 c1 R1 _ HD.out (H1.out _ HB.out) hn1 (by omega)).mono ?_
  rintro e x21 ⟨rfl, hb⟩
  replace KB := Lib.hid (KB.out.below hb)
  replace HD := Lib.hid (HD.out.below hb)
  replace HB := Lib.hid (HB.out.trans (hb.mono HB.out.size))
  clear hb
  rw [show contB T R1 = true by rw [HT.out]; exact row_cont HO1.out (by rw [L1.out]; exact HN0.out)]
  have kb0 : x21.cell? ⟨gb, 0, none⟩ = some (.int .i64 a0) := KB.out.cell 0
  have kb1 : x21.cell? ⟨gb, 1, none⟩ = some (.slice D n1 d) := KB.out.cell 1
  go_wp2_with fail
  refine (Contains_any a0 D n1 d T A2 n2 c2 R2 _ HD.out (H2.out _ HB.out) hn1 (by omega)).mono ?_
  rintro e x22 ⟨rfl, hb⟩
  replace KB := Lib.hid (KB.out.below hb)
  replace HD := Lib.hid (HD.out.below hb)
  replace HB := Lib.hid (HB.out.trans (hb.mono HB.out.size))
  clear hb
  obtain ⟨cb, hcb⟩ : ∃ x, contB T R2 = x := ⟨_, rfl⟩
  rw [hcb]
  have HCB := Lib.hid hcb
  clear hcb
  cases cb
  · go_wp2
    go_ret
    exact ⟨rfl, HB.out⟩
  obtain ⟨hl, hz⟩ := row_fits HO1.out HO2.out (by rw [← HT.out]; exact HCB.out)
  have hl : n2 = n1 := by rw [← L1.out, ← L2.out]; exact hl
  subst hl
  have HZ := Lib.hid hz
  clear hz
  go_wp2_with fail
  refine (fits_any A1 n2 c1 R1 A2 c2 R2 _ (H1.out _ HB.out) (H2.out _ HB.out) hn1).mono ?_
  rintro e y6 ⟨rfl, hb⟩
  replace HB := Lib.hid (HB.out.trans (hb.mono HB.out.size))
  clear hb
  rw [HZ.out]
  go_wp2
  go_ret
  exact ⟨rfl, HB.out⟩

set_option maxRecDepth 100000 in
theorem boxRow_lifted (os : Os) (started : os.Started) (H : Type) (enc : TypeId × Value → H) :
    ReturnsInHanded {} Try.checked os 7 .any (Rows.boxRowSpec.pre6 enc Try.prog Try.f7 Rows.boxRowRow.domain false) (Rows.boxRowSpec.post enc Try.prog Try.f7 false true false false) := by
  refine law_lifted (C := Try.checked) (B := 4) Try.own started (by kernel_rfl) Try.func7
    (ChangeSpec.witness6 (enc := enc) (C := Try.checked) false ⟨#[], #[.int .i64 0, .slice none 0 0, .slice none 0 0], []⟩ 8 (by kernel_rfl) (by kernel_rfl) (by kernel_rfl) (by kernel_rfl))
    Try.laidOut (by kernel_rfl) rfl rfl rfl Try.underlying4 (fun ds h => match ds, h with | [_, _, _], _ => rfl) ?_
  intro W base args ds ps hval hA hlt hsz
  rw [Try.params7] at hA hval hsz
  obtain ⟨v0, vs0, d0, ds0, p0, q0, hargs, rfl, rfl, h0, r0⟩ := trodAll_cons hA
  obtain ⟨v1, vs1, d1, ds1, p1, q1, rfl, rfl, rfl, h1, r1⟩ := trodAll_cons r0
  obtain ⟨v2, vs2, d2, ds2, p2, q2, rfl, rfl, rfl, h2, r2⟩ := trodAll_cons r1
  obtain ⟨rfl, rfl, rfl⟩ := trodAll_nil r2
  obtain rfl : args = #[v0, v1, v2] := by cases args; simp_all
  obtain ⟨a0, rfl, rfl, rfl, w0⟩ := open_int Try.underlying3 (hval 0 3 v0 rfl rfl) h0
  obtain ⟨l0, g0⟩ := i64_bd w0
  obtain ⟨A1, n1, c1, R1, rfl, k1, l1, g1⟩ := open_row (hval 1 26 v1 rfl rfl) h1 (fun x hx => hlt x (by simp [hx])) hsz (j := 1) rfl rfl
  obtain ⟨A2, n2, c2, R2, rfl, k2, l2, g2⟩ := open_row (hval 2 26 v2 rfl rfl) h2 (fun x hx => hlt x (by simp [hx])) hsz (j := 2) rfl rfl
  exact boxRow_walk a0 A1 n1 c1 R1 A2 n2 c2 R2 W l0 g0 k1 l1 g1 k2 l2 g2

theorem boxRow_over : Rows.boxRowRow.holds Try.pinned (OpenSpec.ofChange Rows.boxRowSpec) :=
  OpenClaim.holds_of_wide 7 Try.f7 rfl rfl rfl rfl rfl rfl rfl ⟨rfl, rfl, rfl, rfl, rfl⟩ rfl rfl rfl rfl rfl (by kernel_rfl) Try.func7 (by kernel_rfl)
    (of_decide_eq_true (by kernel_rfl)) (by unfold Func.isWrapper; first | (rw [if_pos (by decide +kernel)]; kernel_rfl) | (rw [if_neg (by decide +kernel)]; exact ⟨rfl, rfl⟩))
    (fun os started H enc _ => boxRow_lifted os started H enc)

theorem boxRow_proved : Rows.BoxRowSaid := boxRow_over
end Go.Proofs.Ytcocdhndhlegiaa
