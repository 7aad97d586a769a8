/- Which rows a box contains; which boxes meet. -/
import Derived.Test.YtcocdhndhlegiaaSow
import Derived.StillTail
import Derived.StillTactics
namespace Go.Proofs.Ytcocdhndhlegiaa
open Go.ChangeShapes Go.WideShapes Go.ChangeAt Go.RowKit Go.ChangeMaps

def isZ (n : Nat) : Bool := n == 0
theorem region_tail {P : Program} {id : Nat} {Q : Exit → Act → World → Prop} {a : Act} {w : World} {l : List Oper} (n : Nat) (hm : P.follows .mixedOrders = true) (hB : Region.lexTailB .any l.toArray n = true)
    (h : ∀ D : World, Below w.heap.size w D → D.heap.size = w.heap.size → wpStill P l.toArray D (fun a' => wpList P l.toArray Q (l.drop n) a' D) (l.take n) a) : (Code.region id l.toArray true).wp P Q a w :=
  wp_region_still_tail n hm hB (h _ ⟨rfl, rfl, rfl, Nat.le_refl _, fun _ _ => rfl⟩ rfl)
def zipAll {α β : Type} (p : α → β → Bool) : List α → List β → Bool
  | a :: l, b :: m => p a b && zipAll p l m
  | _, _ => true
theorem zip_drop {α β : Type} (p : α → β → Bool) (R : List α) (S : List β) (k : Nat) (h : k < R.length) (g : k < S.length) : zipAll p (R.drop k) (S.drop k) = (p R[k] S[k] && zipAll p (R.drop (k + 1)) (S.drop (k + 1))) := by
  rw [List.drop_eq_getElem_cons h, List.drop_eq_getElem_cons g]; rfl
theorem zip_end {α β : Type} (p : α → β → Bool) (R : List α) (S : List β) (k : Nat) (h : R.length ≤ k) : zipAll p (R.drop k) (S.drop k) = true := by
  rw [List.drop_of_length_le h]; simp [zipAll]
def contB (R : List Sd) (S : List V3) : Bool := if R.length = 0 then false else if S.length = R.length then zipAll Sd.inB R S else false
def meetB (t u : Int) (R S : List Sd) : Bool := if t = u then if R.length = S.length then if R.length = 0 then false else zipAll Sd.meetB R S else false else false
set_option maxRecDepth 100000 in
set_option maxHeartbeats 2000000 in
theorem Contains_any (t : Int) (A : Option Addr) (n c : Nat) (R : List Sd) (A2 : Option Addr) (m c2 : Nat) (S : List V3) (w : World) (h : Sds w A n R) (h2 : Vls w A2 m S) (hn : n ≤ 1000) (hm : m ≤ 9223372036854775807) :
    Calls Try.prog 11 #[.agg #[.int .i64 t, .slice A n c], .slice A2 m c2] w fun e w' => e = .returned (.bool (contB R S)) ∧ Below w.heap.size w w' := by
  have HL := Lib.hid h.len
  have HM := Lib.hid h2.len
  have HA := Lib.hid h.at
  have HA2 := Lib.hid h2.at
  obtain ⟨ro, hro⟩ : ∃ r, contB R S = r := ⟨_, rfl⟩
  rw [hro]
  unfold contB at hro
  rw [h.len, h2.len] at hro
  have HRO := Lib.hid hro
  clear h h2 hro
  by_cases hz : n = 0
  · subst hz
    have HZ := Lib.hid (show ro = false by rw [← HRO.out, if_pos rfl])
    go_enter Try.func11, Try.ntmps11
    go_wp2
    go_ret
    exact ⟨ret_bool HZ.out.symm, (Below.refl _ w).alloc (Nat.le_refl _) _⟩
  have hz0 : ((n : Int) == 0) = false := by simp; omega
  by_cases hmn : m = n
  case neg =>
    have HZ := Lib.hid (show ro = false by rw [← HRO.out, if_neg hz, if_neg hmn])
    have hmi : ((m : Int) == n) = false := by simp; omega
    have hmi2 : ((n : Int) == m) = false := by simp; omega
    go_enter Try.func11, Try.ntmps11
    go_wp2
    go_ret
    exact ⟨ret_bool HZ.out.symm, (Below.refl _ w).alloc (Nat.le_refl _) _⟩
  subst hmn
  have HZ := Lib.hid (show zipAll Sd.inB R S = ro by rw [← HRO.out, if_neg hz, if_pos rfl])
  go_enter Try.func11, Try.ntmps11
  go_wp2
  go_loopw [22] (fun iv wr => ∃ i : Nat, iv = .int .i64 (i : Int) ∧ i ≤ m ∧ zipAll Sd.inB R S = zipAll Sd.inB (R.drop i) (S.drop i) ∧ Below (w.heap.size + 1) (w.alloc (.cells #[.int .i64 t, .slice A m c] 33)) wr) (fun iv _ => m - (intOf iv).toNat)
  case atStart => exact ⟨0, rfl, Nat.zero_le _, rfl, Below.refl _ _⟩
  case round =>
    obtain ⟨i, rfl, hin, hall, hb⟩ := hrel
    have HB := Lib.hid hb
    have HB0 := Lib.hid (((Below.refl w.heap.size w).alloc (Nat.le_refl _) (.cells #[.int .i64 t, .slice A m c] 33)).trans (hb.mono (by simp)))
    have q1 : wr.cell? ⟨w.heap.size, 1, none⟩ = some (.slice A m c) := (hb.cell (p := ⟨w.heap.size, 1, none⟩) (by simp)).trans ((Blk.new w 33 #[.int .i64 t, .slice A m c]).cell 1)
    have HALL := Lib.hid hall
    clear hb hall
    by_cases hlt : i < m
    · have hlti : (i : Int) < m := by omega
      obtain ⟨b, off, rfl, hbl, hc⟩ := HA.out (by omega)
      obtain ⟨b2, off2, rfl, hbl2, hc2⟩ := HA2.out (by omega)
      have hi : i < R.length := by rw [HL.out]; exact hlt
      have hi2 : i < S.length := by rw [HM.out]; exact hlt
      obtain ⟨c0, c1, c2, c3, c4, c5⟩ := hc wr HB0.out i hi
      obtain ⟨d0, d1, d2⟩ := hc2 wr HB0.out i hi2
      have HD := Lib.hid (HALL.out.trans (zip_drop Sd.inB R S i hi hi2))
      have HS := Lib.hid (HB0.out.size)
      have HC2 := Lib.hid (fun W hW => hc2 W hW i hi2)
      have HC1 := Lib.hid (fun W hW => hc W hW i hi)
      clear hc hc2
      generalize R[i] = x at *
      generalize S[i] = y at *
      obtain ⟨nu, ot, lo, hi', fr, to⟩ := x
      obtain ⟨k, q, s⟩ := y
      dsimp only at *
      have CV := Lib.hid (fun W => contains_any ⟨nu, ot, lo, hi', fr, to⟩ ⟨k, q, s⟩ W)
      unfold Sd.agg V3.agg at CV
      dsimp only at CV
      generalize Sd.inB ⟨nu, ot, lo, hi', fr, to⟩ ⟨k, q, s⟩ = vb at *
      go_wp2_with fail
      refine region_tail 5 (by kernel_rfl) (by kernel_rfl) (fun D hD hs => ?_)
      simp only [List.take_succ_cons, List.take_zero, List.drop_succ_cons, List.drop_zero]
      have HBD := Lib.hid ((HB0.out.alloc HB0.out.size _).trans (hD.mono (by have := HB0.out.size; simp; omega)))
      have HBB := Lib.hid ((HB.out.alloc (by have := HB.out.size; simp at this; omega) _).trans (hD.mono (by have := HB.out.size; simp at this; simp; omega)))
      have s0 : D.cell? ⟨wr.heap.size, 0, none⟩ = some (.bool nu) := keepcell hD ((Blk.new wr 53 _).cell 0)
      have s1 : D.cell? ⟨wr.heap.size, 1, none⟩ = some (.bool ot) := keepcell hD ((Blk.new wr 53 _).cell 1)
      have s2 : D.cell? ⟨wr.heap.size, 2, none⟩ = some (.int .i64 lo) := keepcell hD ((Blk.new wr 53 _).cell 2)
      have s3 : D.cell? ⟨wr.heap.size, 3, none⟩ = some (.int .i64 hi') := keepcell hD ((Blk.new wr 53 _).cell 3)
      have s4 : D.cell? ⟨wr.heap.size, 4, none⟩ = some (.string fr) := keepcell hD ((Blk.new wr 53 _).cell 4)
      have s5 : D.cell? ⟨wr.heap.size, 5, none⟩ = some (.string to) := keepcell hD ((Blk.new wr 53 _).cell 5)
      have r1 : D.cell? ⟨w.heap.size, 1, none⟩ = some (.slice (some ⟨b, off, none⟩) m c) := keepcell hD (pastcell q1)
      obtain ⟨e0, e1, e2⟩ := HC2.out D HBD.out
      clear hD hs
      repeat still_step
      refine wpStill_nil ?_
      go_wp2_with fail
      refine (CV.out _).mono ?_
      rintro e w1 ⟨rfl, hb1⟩
      have HB1 := Lib.hid (HBD.out.trans (hb1.mono HBD.out.size))
      have HBA := Lib.hid (HBB.out.trans (hb1.mono (by have := HBB.out.size; simp at this; omega)))
      clear hb1
      cases vb
      · have HF : Hid (ro = false) := Lib.hid (by rw [← HZ.out, HD.out]; rfl)
        go_wp2
        go_ret
        exact ⟨ret_bool HF.out.symm, HB1.out⟩
      · go_wp2
        go_roundw
        case rel => exact ⟨i + 1, by go_num, hlt, by rw [HD.out]; rfl, HBA.out⟩
        case measure => simp [intOf]; omega
    · obtain rfl : i = m := by omega
      have HF : Hid (ro = true) := Lib.hid (by rw [← HZ.out, HALL.out, zip_end _ _ _ _ (by rw [HL.out]; exact Nat.le_refl _)])
      go_wp2
      go_ret
      exact ⟨ret_bool HF.out.symm, HB0.out⟩
set_option maxRecDepth 100000 in
set_option maxHeartbeats 2000000 in
theorem RContains_any (t : Int) (A : Option Addr) (n c : Nat) (R : List Sd) (A2 : Option Addr) (m c2 : Nat) (S : List V3) (w : World) (h : Sds w A n R) (h2 : Vls w A2 m S) (hn : n ≤ 1000) (hm : m ≤ 9223372036854775807) :
    Calls Try.prog 13 #[.agg #[.int .i64 t, .slice A n c], .slice A2 m c2] w fun e w' => e = .returned (.bool (contB R S)) ∧ Below w.heap.size w w' := by
  have HL := Lib.hid h.len
  have HM := Lib.hid h2.len
  have HA := Lib.hid h.at
  have HA2 := Lib.hid h2.at
  obtain ⟨ro, hro⟩ : ∃ r, contB R S = r := ⟨_, rfl⟩
  rw [hro]
  unfold contB at hro
  rw [h.len, h2.len] at hro
  have HRO := Lib.hid hro
  clear h h2 hro
  by_cases hz : n = 0
  · subst hz
    have HZ := Lib.hid (show ro = false by rw [← HRO.out, if_pos rfl])
    go_enter Try.func13, Try.ntmps13
    go_wp2
    go_ret
    exact ⟨ret_bool HZ.out.symm, (Below.refl _ w).alloc (Nat.le_refl _) _⟩
  have hz0 : ((n : Int) == 0) = false := by simp; omega
  by_cases hmn : m = n
  case neg =>
    have HZ := Lib.hid (show ro = false by rw [← HRO.out, if_neg hz, if_neg hmn])
    have hmi : ((m : Int) == n) = false := by simp; omega
    have hmi2 : ((n : Int) == m) = false := by simp; omega
    go_enter Try.func13, Try.ntmps13
    go_wp2
    go_ret
    exact ⟨ret_bool HZ.out.symm, (Below.refl _ w).alloc (Nat.le_refl _) _⟩
  subst hmn
  have HZ := Lib.hid (show zipAll Sd.inB R S = ro by rw [← HRO.out, if_neg hz, if_pos rfl])
  go_enter Try.func13, Try.ntmps13
  go_wp2
  go_loopw [5] (fun iv wr => ∃ i : Nat, iv = .int .i64 (i : Int) ∧ i ≤ m ∧ zipAll Sd.inB R S = zipAll Sd.inB (R.drop i) (S.drop i) ∧ Below (w.heap.size + 1) (w.alloc (.cells #[.int .i64 t, .slice A m c] 24)) wr) (fun iv _ => m - (intOf iv).toNat)
  case atStart => exact ⟨0, rfl, Nat.zero_le _, rfl, Below.refl _ _⟩
  case round =>
    obtain ⟨i, rfl, hin, hall, hb⟩ := hrel
    have HB := Lib.hid hb
    have HB0 := Lib.hid (((Below.refl w.heap.size w).alloc (Nat.le_refl _) (.cells #[.int .i64 t, .slice A m c] 24)).trans (hb.mono (by simp)))
    have q1 : wr.cell? ⟨w.heap.size, 1, none⟩ = some (.slice A m c) := (hb.cell (p := ⟨w.heap.size, 1, none⟩) (by simp)).trans ((Blk.new w 24 #[.int .i64 t, .slice A m c]).cell 1)
    have HALL := Lib.hid hall
    clear hb hall
    by_cases hlt : i < m
    · have hlti : (i : Int) < m := by omega
      obtain ⟨b, off, rfl, hbl, hc⟩ := HA.out (by omega)
      obtain ⟨b2, off2, rfl, hbl2, hc2⟩ := HA2.out (by omega)
      have hi : i < R.length := by rw [HL.out]; exact hlt
      have hi2 : i < S.length := by rw [HM.out]; exact hlt
      obtain ⟨c0, c1, c2, c3, c4, c5⟩ := hc wr HB0.out i hi
      obtain ⟨d0, d1, d2⟩ := hc2 wr HB0.out i hi2
      have HD := Lib.hid (HALL.out.trans (zip_drop Sd.inB R S i hi hi2))
      have HS := Lib.hid (HB0.out.size)
      have HC2 := Lib.hid (fun W hW => hc2 W hW i hi2)
      have HC1 := Lib.hid (fun W hW => hc W hW i hi)
      clear hc hc2
      generalize R[i] = x at *
      generalize S[i] = y at *
      obtain ⟨nu, ot, lo, hi', fr, to⟩ := x
      obtain ⟨k, q, s⟩ := y
      dsimp only at *
      have CV := Lib.hid (fun W => in_any ⟨nu, ot, lo, hi', fr, to⟩ ⟨k, q, s⟩ W)
      unfold Sd.agg V3.agg at CV
      dsimp only at CV
      generalize Sd.inB ⟨nu, ot, lo, hi', fr, to⟩ ⟨k, q, s⟩ = vb at *
      go_wp2_with fail
      refine region_tail 9 (by kernel_rfl) (by kernel_rfl) (fun D hD hs => ?_)
      simp only [List.take_succ_cons, List.take_zero, List.drop_succ_cons, List.drop_zero]
      have HBD := Lib.hid (HB0.out.trans (hD.mono HB0.out.size))
      have HBB := Lib.hid (HB.out.trans (hD.mono (by have := HB.out.size; simp at this; omega)))
      obtain ⟨s0, s1, s2, s3, s4, s5⟩ := HC1.out D HBD.out
      have r1 : D.cell? ⟨w.heap.size, 1, none⟩ = some (.slice (some ⟨b, off, none⟩) m c) := keepcell hD (id q1)
      obtain ⟨e0, e1, e2⟩ := HC2.out D HBD.out
      clear hD hs
      repeat still_step
      refine wpStill_nil ?_
      go_wp2_with fail
      refine (CV.out _).mono ?_
      rintro e w1 ⟨rfl, hb1⟩
      have HB1 := Lib.hid (HBD.out.trans (hb1.mono HBD.out.size))
      have HBA := Lib.hid (HBB.out.trans (hb1.mono (by have := HBB.out.size; simp at this; omega)))
      clear hb1
      cases vb
      · have HF : Hid (ro = false) := Lib.hid (by rw [← HZ.out, HD.out]; rfl)
        go_wp2
        go_ret
        exact ⟨ret_bool HF.out.symm, HB1.out⟩
      · go_wp2
        go_roundw
        case rel => exact ⟨i + 1, by go_num, hlt, by rw [HD.out]; rfl, HBA.out⟩
        case measure => simp [intOf]; omega
    · obtain rfl : i = m := by omega
      have HF : Hid (ro = true) := Lib.hid (by rw [← HZ.out, HALL.out, zip_end _ _ _ _ (by rw [HL.out]; exact Nat.le_refl _)])
      go_wp2
      go_ret
      exact ⟨ret_bool HF.out.symm, HB0.out⟩
end Go.Proofs.Ytcocdhndhlegiaa
