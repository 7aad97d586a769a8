/- Which boxes are right. -/
import Derived.Test.YtcocdhndhlegiaaSeq
import Derived.RegionTactic
namespace Go.Proofs.Ytcocdhndhlegiaa
open Go.ChangeShapes Go.WideShapes Go.ChangeAt Go.RowKit Go.ChangeMaps

def tgt (a b : ByteArray) : Bool := !Op.bytesLess a.toList b.toList && !a.toList == b.toList
def zN : Sd := ⟨true, false, 0, 0, ⟨#[]⟩, ⟨#[]⟩⟩
def Sd.badB (s : Sd) : Bool := (!s.nu && !s.ot) || (decide (s.hi < s.lo) || (tgt s.fr s.to || decide (100 < s.fr.size + s.to.size)))
def Sd.okB (s : Sd) : Bool := !s.badB && (s.ot || s.eqB zN)
def boxOk (R : List Sd) : Bool := R.all Sd.okB && decide (R.length ≤ 10)
set_option maxRecDepth 100000 in
set_option maxHeartbeats 4000000 in
theorem Right_any (t : Int) (A : Option Addr) (n c : Nat) (R : List Sd) (w : World) (h : Sds w A n R) (hn : n ≤ 9223372036854775807) (hR : ∀ x ∈ R, x.fr.size + x.to.size ≤ 9223372036854775807) :
    Calls Try.prog 9 #[.agg #[.int .i64 t, .slice A n c]] w fun e w' => e = .returned (.bool (boxOk R)) ∧ Below w.heap.size w w' := by
  have HL := Lib.hid h.len
  have HA := Lib.hid h.at
  have HR := Lib.hid hR
  obtain ⟨ro, hro⟩ : ∃ r, boxOk R = r := ⟨_, rfl⟩
  rw [hro]
  unfold boxOk at hro
  rw [h.len] at hro
  have HRO := Lib.hid hro
  clear h hro hR
  go_enter Try.func9, Try.ntmps9
  go_wp2
  go_loopw [3] (fun iv wr => ∃ i : Nat, iv = .int .i64 (i : Int) ∧ i ≤ n ∧ R.all Sd.okB = (R.drop i).all Sd.okB ∧ Below (w.heap.size + 1) (w.alloc (.cells #[.int .i64 t, .slice A n c] 24)) wr) (fun iv _ => n - (intOf iv).toNat)
  case atStart => exact ⟨0, rfl, Nat.zero_le _, rfl, Below.refl _ _⟩
  case round =>
    obtain ⟨i, rfl, hin, hall, hb⟩ := hrel
    have HB := Lib.hid hb
    have HB0 := Lib.hid (((Below.refl w.heap.size w).alloc (Nat.le_refl _) (.cells #[.int .i64 t, .slice A n c] 24)).trans (hb.mono (by simp)))
    have q1 : wr.cell? ⟨w.heap.size, 1, none⟩ = some (.slice A n c) := (hb.cell (p := ⟨w.heap.size, 1, none⟩) (by simp)).trans ((Blk.new w 24 #[.int .i64 t, .slice A n c]).cell 1)
    have HALL := Lib.hid hall
    clear hb hall
    by_cases hlt : i < n
    · have hlti : (i : Int) < n := by omega
      obtain ⟨b, off, rfl, hbl, hc⟩ := HA.out (by omega)
      have hi : i < R.length := by rw [HL.out]; exact hlt
      obtain ⟨y0, y1, y2, y3, y4, y5⟩ := hc wr HB0.out i hi
      have HD := Lib.hid (HALL.out.trans (drop_all Sd.okB R i hi))
      have HBA := Lib.hid (HB.out.alloc (o := .cells #[.bool R[i].nu, .bool R[i].ot, .int .i64 R[i].lo, .int .i64 R[i].hi, .string R[i].fr, .string R[i].to] 51) (by have := HB.out.size; simp at this; omega))
      have HBD := Lib.hid (HB0.out.alloc (o := .cells #[.bool R[i].nu, .bool R[i].ot, .int .i64 R[i].lo, .int .i64 R[i].hi, .string R[i].fr, .string R[i].to] 51) HB0.out.size)
      have hsz := HR.out _ (List.getElem_mem hi)
      clear hc
      generalize R[i] = x at *
      obtain ⟨nu, ot, lo, hi', fr, to⟩ := x
      dsimp only at *
      obtain ⟨vb, hvb⟩ : ∃ r, Sd.okB ⟨nu, ot, lo, hi', fr, to⟩ = r := ⟨_, rfl⟩
      rw [hvb] at HD
      unfold Sd.okB Sd.badB at hvb
      dsimp only at hvb
      obtain ⟨ev, hev⟩ : ∃ r, Sd.eqB ⟨nu, ot, lo, hi', fr, to⟩ ⟨true, false, 0, 0, ⟨#[]⟩, ⟨#[]⟩⟩ = r := ⟨_, rfl⟩
      unfold zN at hvb
      rw [hev] at hvb
      have hszi : (fr.size : Int) + to.size ≤ 9223372036854775807 := by omega
      unfold tgt at hvb
      obtain ⟨g, hg⟩ : ∃ r, (!Op.bytesLess fr.toList to.toList && !fr.toList == to.toList) = r := ⟨_, rfl⟩
      rw [hg] at hvb
      clear hbl
      cases nu
      case false =>
        cases ot
        case false =>
          have hv : vb = false := by rw [← hvb]; rfl
          have HF := Lib.hid (show ro = false by rw [← HRO.out, HD.out, hv]; rfl)
          go_wp2
          go_ret
          exact ⟨ret_bool HF.out.symm, HBD.out⟩
        case true =>
          by_cases hlh : hi' < lo
          · have hv : vb = false := by rw [← hvb, decide_eq_true hlh]; simp
            have HF := Lib.hid (show ro = false by rw [← HRO.out, HD.out, hv]; rfl)
            go_wp2
            go_ret
            exact ⟨ret_bool HF.out.symm, HBD.out⟩
          cases g
          case true =>
            have hv : vb = false := by rw [← hvb]; simp
            have HF := Lib.hid (show ro = false by rw [← HRO.out, HD.out, hv]; rfl)
            go_wp2
            go_ret
            exact ⟨ret_bool HF.out.symm, HBD.out⟩
          by_cases h100 : 100 < (fr.size : Int) + to.size
          · have hv : vb = false := by rw [← hvb, decide_eq_true (p := 100 < fr.size + to.size) (by omega)]; simp
            have HF := Lib.hid (show ro = false by rw [← HRO.out, HD.out, hv]; rfl)
            go_wp2
            go_ret
            exact ⟨ret_bool HF.out.symm, HBD.out⟩
          rw [decide_eq_false hlh, decide_eq_false (p := 100 < fr.size + to.size) (by omega)] at hvb
          have hv : vb = true := by rw [← hvb]; rfl
          go_wp2
          go_roundw
          case rel => exact ⟨i + 1, by go_num, hlt, by rw [HD.out, hv]; rfl, HBA.out⟩
          case measure => simp [intOf]; omega
      case true =>
        cases ot
        case true =>
          by_cases hlh : hi' < lo
          · have hv : vb = false := by rw [← hvb, decide_eq_true hlh]; simp
            have HF := Lib.hid (show ro = false by rw [← HRO.out, HD.out, hv]; rfl)
            go_wp2
            go_ret
            exact ⟨ret_bool HF.out.symm, HBD.out⟩
          cases g
          case true =>
            have hv : vb = false := by rw [← hvb]; simp
            have HF := Lib.hid (show ro = false by rw [← HRO.out, HD.out, hv]; rfl)
            go_wp2
            go_ret
            exact ⟨ret_bool HF.out.symm, HBD.out⟩
          by_cases h100 : 100 < (fr.size : Int) + to.size
          · have hv : vb = false := by rw [← hvb, decide_eq_true (p := 100 < fr.size + to.size) (by omega)]; simp
            have HF := Lib.hid (show ro = false by rw [← HRO.out, HD.out, hv]; rfl)
            go_wp2
            go_ret
            exact ⟨ret_bool HF.out.symm, HBD.out⟩
          rw [decide_eq_false hlh, decide_eq_false (p := 100 < fr.size + to.size) (by omega)] at hvb
          have hv : vb = true := by rw [← hvb]; rfl
          go_wp2
          go_roundw
          case rel => exact ⟨i + 1, by go_num, hlt, by rw [HD.out, hv]; rfl, HBA.out⟩
          case measure => simp [intOf]; omega
        case false =>
          by_cases hlh : hi' < lo
          · have hv : vb = false := by rw [← hvb, decide_eq_true hlh]; simp
            have HF := Lib.hid (show ro = false by rw [← HRO.out, HD.out, hv]; rfl)
            go_wp2
            go_ret
            exact ⟨ret_bool HF.out.symm, HBD.out⟩
          cases g
          case true =>
            have hv : vb = false := by rw [← hvb]; simp
            have HF := Lib.hid (show ro = false by rw [← HRO.out, HD.out, hv]; rfl)
            go_wp2
            go_ret
            exact ⟨ret_bool HF.out.symm, HBD.out⟩
          by_cases h100 : 100 < (fr.size : Int) + to.size
          · have hv : vb = false := by rw [← hvb, decide_eq_true (p := 100 < fr.size + to.size) (by omega)]; simp
            have HF := Lib.hid (show ro = false by rw [← HRO.out, HD.out, hv]; rfl)
            go_wp2
            go_ret
            exact ⟨ret_bool HF.out.symm, HBD.out⟩
          rw [decide_eq_false hlh, decide_eq_false (p := 100 < fr.size + to.size) (by omega)] at hvb
          rw [← hev] at hvb
          unfold Sd.eqB at hvb
          dsimp only at hvb
          have HV := Lib.hid hvb
          clear hvb hev
          go_wp2
          all_goals first
            | (go_ret
               refine ⟨ret_bool ?_, ?_⟩
               · have hv : vb = false := by
                   have HV := HV.out
                   clear HBD HBA HB HB0 HD HRO HALL HR HA HL
                   rw [← HV]
                   clear HV y0 y1 y2 y3 y4 y5
                   simp_all
                 rw [← HRO.out, HD.out, hv]; rfl
               · first | exact HBD.out | (subst_vars; exact HBD.out))
            | (go_roundw
               case rel =>
                 have hv : vb = true := by
                   have HV := HV.out
                   clear HBD HBA HB HB0 HD HRO HALL HR HA HL
                   rw [← HV]
                   clear HV y0 y1 y2 y3 y4 y5
                   simp_all
                 refine ⟨i + 1, by go_num, hlt, by rw [HD.out, hv]; rfl, ?_⟩
                 first | exact HBA.out | (subst_vars; exact HBA.out)
               case measure => simp [intOf]; omega)
    · obtain rfl : i = n := by omega
      have HF : Hid (decide (i ≤ 10) = ro) := Lib.hid (by
        rw [← HRO.out, HALL.out, List.drop_of_length_le (by rw [HL.out]; exact Nat.le_refl _)]; simp)
      go_wp2
      go_ret
      refine ⟨ret_bool ?_, HB0.out⟩
      rw [← HF.out]
      simp; omega
end Go.Proofs.Ytcocdhndhlegiaa
