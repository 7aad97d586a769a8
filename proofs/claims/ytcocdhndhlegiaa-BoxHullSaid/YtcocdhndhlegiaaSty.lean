/- Whether a box is typed as a row. -/
import Derived.Test.YtcocdhndhlegiaaSrc
import Derived.Test.YtcocdhndhlegiaaSeq
namespace Go.Proofs.Ytcocdhndhlegiaa
open Go.ChangeShapes Go.WideShapes Go.ChangeAt Go.RowKit Go.ChangeMaps

def typB (s : Sd) (x : V3) : Bool := if x.k = 1 then decide (s.fr.toList = []) && decide (s.to.toList = []) else if x.k = 2 then decide (s.lo = 0) && decide (s.hi = 0) else true
def typL (R : List Sd) (S : List V3) : Bool := if R.length = S.length then zipAll typB R S else false
set_option maxRecDepth 100000 in
set_option maxHeartbeats 4000000 in
theorem typed_any (t : Int) (A : Option Addr) (n c : Nat) (R : List Sd) (A2 : Option Addr) (m c2 : Nat) (S : List V3) (w : World) (h : Sds w A n R) (h2 : Vls w A2 m S) (hn : n ≤ 1000) (hm : m ≤ 9223372036854775807) :
    Calls Try.prog 16 #[.agg #[.int .i64 t, .slice A n c], .slice A2 m c2] w fun e w' => e = .returned (.bool (typL R S)) ∧ Below w.heap.size w w' := by
  have HL := Lib.hid h.len
  have HM := Lib.hid h2.len
  have HA := Lib.hid h.at
  have HA2 := Lib.hid h2.at
  obtain ⟨ro, hro⟩ : ∃ r, typL R S = r := ⟨_, rfl⟩
  rw [hro]
  unfold typL at hro
  rw [h.len, h2.len] at hro
  have HRO := Lib.hid hro
  clear h h2 hro
  by_cases hmn : n = m
  case neg =>
    have HZ := Lib.hid (show ro = false by rw [← HRO.out, if_neg hmn])
    have hmi : ((n : Int) == m) = false := by simp; omega
    have hmi2 : ((m : Int) == n) = false := by simp; omega
    go_enter Try.func16, Try.ntmps16
    go_wp2
    go_ret
    exact ⟨ret_bool HZ.out.symm, (Below.refl _ w).alloc (Nat.le_refl _) _⟩
  subst hmn
  have HZ := Lib.hid (show zipAll typB R S = ro by rw [← HRO.out, if_pos rfl])
  go_enter Try.func16, Try.ntmps16
  go_wp2
  go_loopw [16] (fun iv wr => ∃ i : Nat, iv = .int .i64 (i : Int) ∧ i ≤ n ∧ zipAll typB R S = zipAll typB (R.drop i) (S.drop i) ∧ Below (w.heap.size + 1) (w.alloc (.cells #[.int .i64 t, .slice A n c] 24)) wr) (fun iv _ => n - (intOf iv).toNat)
  case atStart => exact ⟨0, rfl, Nat.zero_le _, rfl, Below.refl _ _⟩
  case round =>
    obtain ⟨i, rfl, hin, hall, hb⟩ := hrel
    have HB := Lib.hid hb
    have HB0 := Lib.hid (((Below.refl w.heap.size w).alloc (Nat.le_refl _) (.cells #[.int .i64 t, .slice A n c] 24)).trans (hb.mono (by simp)))
    have q1 : wr.cell? ⟨w.heap.size, 1, none⟩ = some (.slice A n c) := (hb.cell (p := ⟨w.heap.size, 1, none⟩) (by simp)).trans ((Blk.new w 24 #[.int .i64 t, .slice A n c]).cell 1)
    have HALL := Lib.hid hall
    clear hb hall
    by_cases hlt : i < n
    · have hlti : (i : Int) < n := by omega
      obtain ⟨b, off, rfl, hbl, hc⟩ := HA.out (by omega)
      obtain ⟨b2, off2, rfl, hbl2, hc2⟩ := HA2.out (by omega)
      have hi : i < R.length := by rw [HL.out]; exact hlt
      have hi2 : i < S.length := by rw [HM.out]; exact hlt
      obtain ⟨c0, c1, c2, c3, c4, c5⟩ := hc wr HB0.out i hi
      obtain ⟨d0, d1, d2⟩ := hc2 wr HB0.out i hi2
      have HD := Lib.hid (HALL.out.trans (zip_drop typB R S i hi hi2))
      have HS := Lib.hid (HB0.out.size)
      have HC2 := Lib.hid (fun W hW => hc2 W hW i hi2)
      have HC1 := Lib.hid (fun W hW => hc W hW i hi)
      clear hc hc2
      generalize R[i] = x at *
      generalize S[i] = y at *
      obtain ⟨nu, ot, lo, hi', fr, to⟩ := x
      obtain ⟨k, q, s⟩ := y
      dsimp only at *
      obtain ⟨vb, hvb⟩ : ∃ r, typB ⟨nu, ot, lo, hi', fr, to⟩ ⟨k, q, s⟩ = r := ⟨_, rfl⟩
      rw [hvb] at HD
      unfold typB at hvb
      dsimp only at hvb
      have HV := Lib.hid hvb
      have HBA := Lib.hid (HB.out.alloc (o := .cells #[.int .i64 k, .int .i64 q, .string s] 47) (by have := HB.out.size; simp at this; omega))
      have HBD := Lib.hid (HB0.out.alloc (o := .cells #[.int .i64 k, .int .i64 q, .string s] 47) HB0.out.size)
      have HBA2 := Lib.hid (HBA.out.alloc (o := .cells #[.bool nu, .bool ot, .int .i64 lo, .int .i64 hi', .string fr, .string to] 51) (by have := HBA.out.size; simp at this; simp; omega))
      have HBD2 := Lib.hid (HBD.out.alloc (o := .cells #[.bool nu, .bool ot, .int .i64 lo, .int .i64 hi', .string fr, .string to] 51) HBD.out.size)
      have hbw : b < wr.heap.size := Nat.lt_of_lt_of_le hbl HB0.out.size
      have hbw2 : b2 < wr.heap.size := Nat.lt_of_lt_of_le hbl2 HB0.out.size
      have hw1 : w.heap.size < wr.heap.size := by have := HB.out.size; simp at this; omega
      clear hvb HBA HBD
      go_wp2
      all_goals first
        | (go_ret
           refine ⟨ret_bool ?_, ?_⟩
           · have hv : vb = false := by
               have HV := HV.out
               clear HBD2 HBA2 HB HB0 HD HRO HALL HZ HA HA2 HL HM HC1 HC2
               rw [← HV]
               clear HV
               simp_all
             rw [← HZ.out, HD.out, hv]; rfl
           · first | exact HBD2.out | (subst_vars; exact HBD2.out))
        | (go_roundw
           case rel =>
             have hv : vb = true := by
               have HV := HV.out
               clear HBD2 HBA2 HB HB0 HD HRO HALL HZ HA HA2 HL HM HC1 HC2
               rw [← HV]
               clear HV
               simp_all
             refine ⟨i + 1, by go_num, hlt, by rw [HD.out, hv]; rfl, ?_⟩
             first | exact HBA2.out | (subst_vars; exact HBA2.out)
           case measure => simp [intOf]; omega)
    · obtain rfl : i = n := by omega
      have HF : Hid (ro = true) := Lib.hid (by rw [← HZ.out, HALL.out, zip_end _ _ _ _ (by rw [HL.out]; exact Nat.le_refl _)])
      go_wp2
      go_ret
      exact ⟨ret_bool HF.out.symm, HB0.out⟩
end Go.Proofs.Ytcocdhndhlegiaa
