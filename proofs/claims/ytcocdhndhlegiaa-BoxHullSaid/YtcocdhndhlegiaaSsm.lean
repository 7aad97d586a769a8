/- Boxes that are the same. -/
import Derived.Test.YtcocdhndhlegiaaSeq
import Derived.Test.YtcocdhndhlegiaaSrc
namespace Go.Proofs.Ytcocdhndhlegiaa
open Go.ChangeShapes Go.WideShapes Go.ChangeAt Go.RowKit Go.ChangeMaps

theorem region_quiet {P : Program} {id : Nat} {Q : Exit → Act → World → Prop} {a : Act} {w : World} {l : List Oper} (hm : P.follows .mixedOrders = true) (hB : Region.lexB .any l.toArray = true)
    (h : ∀ D : World, Below w.heap.size w D → D.heap.size = w.heap.size → wpStill P l.toArray D (fun a' => Q .normal a' D) l a) : (Code.region id l.toArray true).wp P Q a w :=
  wp_region_still_lit hm hB (h _ ⟨rfl, rfl, rfl, Nat.le_refl _, fun _ _ => rfl⟩ rfl)
def sameB (t u : Int) (R S : List Sd) : Bool := if t = u then if R.length = S.length then zipAll Sd.eqB R S else false else false
set_option maxRecDepth 100000 in
set_option maxHeartbeats 4000000 in
theorem Same_any (t u : Int) (A : Option Addr) (n c : Nat) (R : List Sd) (A2 : Option Addr) (m c2 : Nat) (S : List Sd) (w : World) (h : Sds w A n R) (h2 : Sds w A2 m S) (hn : n ≤ 1000) (hm : m ≤ 1000) :
    Calls Try.prog 18 #[.agg #[.int .i64 t, .slice A n c], .agg #[.int .i64 u, .slice A2 m c2]] w fun e w' => e = .returned (.bool (sameB t u R S)) ∧ Below w.heap.size w w' := by
  have HL := Lib.hid h.len
  have HM := Lib.hid h2.len
  have HA := Lib.hid h.at
  have HA2 := Lib.hid h2.at
  obtain ⟨ro, hro⟩ : ∃ r, sameB t u R S = r := ⟨_, rfl⟩
  rw [hro]
  unfold sameB at hro
  rw [h.len, h2.len] at hro
  have HRO := Lib.hid hro
  have HW := Lib.hid (((Below.refl w.heap.size w).alloc (Nat.le_refl _) (.cells #[.int .i64 t, .slice A n c] 24)).alloc (by simp) (.cells #[.int .i64 u, .slice A2 m c2] 24))
  clear h h2 hro
  by_cases htu : t = u
  case neg =>
    have HZ := Lib.hid (show ro = false by rw [← HRO.out, if_neg htu])
    have hti : (t == u) = false := by simp; omega
    go_enter Try.func18, Try.ntmps18
    go_wp2
    go_ret
    exact ⟨ret_bool HZ.out.symm, HW.out⟩
  subst htu
  by_cases hmn : n = m
  case neg =>
    have HZ := Lib.hid (show ro = false by rw [← HRO.out, if_pos rfl, if_neg hmn])
    have hmi : ((n : Int) == m) = false := by simp; omega
    go_enter Try.func18, Try.ntmps18
    go_wp2
    go_ret
    exact ⟨ret_bool HZ.out.symm, HW.out⟩
  subst hmn
  have HZ := Lib.hid (show zipAll Sd.eqB R S = ro by rw [← HRO.out, if_pos rfl, if_pos rfl])
  obtain ⟨W0, hW0⟩ : ∃ W0, W0 = (w.alloc (.cells #[.int .i64 t, .slice A n c] 24)).alloc (.cells #[.int .i64 t, .slice A2 n c2] 24) := ⟨_, rfl⟩
  have HK1 := Lib.hid (show Blk W0 w.heap.size 24 #[.int .i64 t, .slice A n c] by rw [hW0]; exact (Blk.new _ _ _).alloc _)
  have HK2 := Lib.hid (show Blk W0 (w.heap.size + 1) 24 #[.int .i64 t, .slice A2 n c2] by rw [hW0]; exact Blk.new_ (by simp) rfl)
  have HS0 := Lib.hid (show W0.heap.size = w.heap.size + 2 by rw [hW0]; simp)
  go_enter Try.func18, Try.ntmps18
  go_wp2
  rw [← hW0] at HW ⊢
  go_loopw [5] (fun iv wr => ∃ i : Nat, iv = .int .i64 (i : Int) ∧ i ≤ n ∧ zipAll Sd.eqB R S = zipAll Sd.eqB (R.drop i) (S.drop i) ∧ Below W0.heap.size W0 wr) (fun iv _ => n - (intOf iv).toNat)
  case atStart => exact ⟨0, rfl, Nat.zero_le _, rfl, Below.refl _ _⟩
  case round =>
    obtain ⟨i, rfl, hin, hall, hb⟩ := hrel
    have HB := Lib.hid hb
    have HB0 := Lib.hid (HW.out.trans (hb.mono HW.out.size))
    have q1 : wr.cell? ⟨w.heap.size, 1, none⟩ = some (.slice A n c) := keepcell hb (HK1.out.cell 1)
    have q2 : wr.cell? ⟨w.heap.size + 1, 1, none⟩ = some (.slice A2 n c2) := keepcell hb (HK2.out.cell 1)
    have HALL := Lib.hid hall
    clear hb hall
    by_cases hlt : i < n
    · have hlti : (i : Int) < n := by omega
      obtain ⟨b, off, rfl, hbl, hc⟩ := HA.out (by omega)
      obtain ⟨b2, off2, rfl, hbl2, hc2⟩ := HA2.out (by omega)
      have hi : i < R.length := by rw [HL.out]; exact hlt
      have hi2 : i < S.length := by rw [HM.out]; exact hlt
      obtain ⟨y0, y1, y2, y3, y4, y5⟩ := hc wr HB0.out i hi
      obtain ⟨z0, z1, z2, z3, z4, z5⟩ := hc2 wr HB0.out i hi2
      have HD := Lib.hid (HALL.out.trans (zip_drop Sd.eqB R S i hi hi2))
      have HC1 := Lib.hid (fun W hW => hc W hW i hi)
      have HC2 := Lib.hid (fun W hW => hc2 W hW i hi2)
      clear hc hc2
      generalize R[i] = x at *
      generalize S[i] = y at *
      obtain ⟨nu, ot, lo, hi', fr, to⟩ := x
      obtain ⟨nu2, ot2, lo2, hi2', fr2, to2⟩ := y
      dsimp only at *
      have HB00 := Lib.hid (fun D (hD : Below wr.heap.size wr D) => HB0.out.trans (hD.mono HB0.out.size))
      obtain ⟨vb, hvb⟩ : ∃ r, Sd.eqB ⟨nu, ot, lo, hi', fr, to⟩ ⟨nu2, ot2, lo2, hi2', fr2, to2⟩ = r := ⟨_, rfl⟩
      rw [hvb] at HD
      unfold Sd.eqB at hvb
      dsimp only at hvb
      have HV := Lib.hid hvb
      clear hvb
      go_wp2_with fail
      refine region_tail 10 (by kernel_rfl) (by kernel_rfl) (fun D hD hs => ?_)
      simp only [List.take_succ_cons, List.take_zero, List.drop_succ_cons, List.drop_zero]
      have HBD := Lib.hid (HB0.out.trans (hD.mono HB0.out.size))
      have HBB := Lib.hid (HB.out.trans (hD.mono HB.out.size))
      obtain ⟨s0, s1, s2, s3, s4, s5⟩ := HC1.out D HBD.out
      obtain ⟨e0, e1, e2, e3, e4, e5⟩ := HC2.out D HBD.out
      have r1 : D.cell? ⟨w.heap.size, 1, none⟩ = some (.slice (some ⟨b, off, none⟩) n c) := keepcell hD q1
      have r2 : D.cell? ⟨w.heap.size + 1, 1, none⟩ = some (.slice (some ⟨b2, off2, none⟩) n c2) := keepcell hD q2
      clear hD hs
      repeat still_step
      refine wpStill_nil ?_
      go_wp2
      all_goals first
        | (go_ret
           refine ⟨ret_bool ?_, HBD.out⟩
           have hv : vb = false := by rw [← HV.out]; clear HV HBD HBB HB HB0 HC1 HC2 HD; simp_all
           rw [← HZ.out, HD.out, hv]; rfl)
        | (go_roundw
           case rel =>
             have hv : vb = true := by rw [← HV.out]; clear HV HBD HBB HB HB0 HC1 HC2 HD; simp_all
             exact ⟨i + 1, by go_num, hlt, by rw [HD.out, hv]; rfl, HBB.out⟩
           case measure => simp [intOf]; omega)
    · obtain rfl : i = n := by omega
      have HF : Hid (ro = true) := Lib.hid (by rw [← HZ.out, HALL.out, zip_end _ _ _ _ (by rw [HL.out]; exact Nat.le_refl _)])
      go_wp2
      go_ret
      exact ⟨ret_bool HF.out.symm, HB0.out⟩
end Go.Proofs.Ytcocdhndhlegiaa
