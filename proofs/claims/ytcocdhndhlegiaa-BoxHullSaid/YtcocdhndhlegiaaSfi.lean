/- Whether a row fits another. -/
import Derived.Test.YtcocdhndhlegiaaSrc
import Derived.Test.YtcocdhndhlegiaaSeq
import Derived.BigQuiet
namespace Go.Proofs.Ytcocdhndhlegiaa
open Go.ChangeShapes Go.WideShapes Go.ChangeAt Go.RowKit Go.ChangeMaps

def fitB (x y : V3) : Bool := !(decide (x.k = y.k) && !x.eqB y)
set_option maxRecDepth 100000 in
set_option maxHeartbeats 4000000 in
theorem fits_any (A : Option Addr) (n c : Nat) (R : List V3) (A2 : Option Addr) (c2 : Nat) (S : List V3) (w : World) (h : Vls w A n R) (h2 : Vls w A2 n S) (hn : n ≤ 1000) :
    Calls Try.prog 23 #[.slice A n c, .slice A2 n c2] w fun e w' => e = .returned (.bool (zipAll fitB R S)) ∧ Below w.heap.size w w' := by
  have HL := Lib.hid h.len
  have HM := Lib.hid h2.len
  have HA := Lib.hid h.at
  have HA2 := Lib.hid h2.at
  obtain ⟨ro, hro⟩ : ∃ r, zipAll fitB R S = r := ⟨_, rfl⟩
  rw [hro]
  have HZ := Lib.hid hro
  clear h h2 hro
  go_enter Try.func23, Try.ntmps23
  go_wp2
  go_loopw [8] (fun iv wr => ∃ i : Nat, iv = .int .i64 (i : Int) ∧ i ≤ n ∧ zipAll fitB R S = zipAll fitB (R.drop i) (S.drop i) ∧ Below w.heap.size w wr) (fun iv _ => n - (intOf iv).toNat)
  case atStart => exact ⟨0, rfl, Nat.zero_le _, rfl, Below.refl _ _⟩
  case round =>
    obtain ⟨i, rfl, hin, hall, hb⟩ := hrel
    have HB := Lib.hid hb
    have HALL := Lib.hid hall
    clear hb hall
    by_cases hlt : i < n
    · have hlti : (i : Int) < n := by omega
      obtain ⟨b, off, rfl, hbl, hc⟩ := HA.out (by omega)
      obtain ⟨b2, off2, rfl, hbl2, hc2⟩ := HA2.out (by omega)
      have hi : i < R.length := by rw [HL.out]; exact hlt
      have hi2 : i < S.length := by rw [HM.out]; exact hlt
      have HD := Lib.hid (HALL.out.trans (zip_drop fitB R S i hi hi2))
      have HC1 := Lib.hid (fun W hW => hc W hW i hi)
      have HC2 := Lib.hid (fun W hW => hc2 W hW i hi2)
      clear hc hc2
      generalize R[i] = x at *
      generalize S[i] = y at *
      obtain ⟨k, q, s⟩ := x
      obtain ⟨k2, q2, s2⟩ := y
      dsimp only at *
      obtain ⟨vb, hvb⟩ : ∃ r, fitB ⟨k, q, s⟩ ⟨k2, q2, s2⟩ = r := ⟨_, rfl⟩
      rw [hvb] at HD
      unfold fitB V3.eqB at hvb
      dsimp only at hvb
      by_cases hk : k = k2
      · subst hk
        by_cases hq : q = q2
        · subst hq
          by_cases hs : s.toList = s2.toList
          · obtain rfl := ba_ext hs
            have hv : vb = true := by rw [← hvb]; simp
            clear hvb hs
            obtain ⟨t0, t1, t2⟩ := HC1.out wr HB.out
            obtain ⟨e0, e1, e2⟩ := HC2.out wr HB.out
            go_wp2_with fail
            go_quiet (fail)
            have HBD := Lib.hid (below_drewN (n := nq) HB.out)
            go_wp2
            go_roundw
            case rel => exact ⟨i + 1, by go_num, hlt, by rw [HD.out, hv]; rfl, HBD.out⟩
            case measure => simp [intOf]; omega
          · have hsb : (s.toList == s2.toList) = false := by simp [hs]
            have hv : vb = false := by rw [← hvb, hsb]; simp
            clear hvb
            obtain ⟨t0, t1, t2⟩ := HC1.out wr HB.out
            obtain ⟨e0, e1, e2⟩ := HC2.out wr HB.out
            go_wp2_with fail
            go_quiet (fail)
            have HBD := Lib.hid (below_drewN (n := nq) HB.out)
            go_wp2
            go_ret
            refine ⟨ret_bool ?_, HBD.out⟩
            rw [← HZ.out, HD.out, hv]; rfl
        · have hqb : (q == q2) = false := by simp [hq]
          have hv : vb = false := by rw [← hvb, hqb]; simp
          clear hvb
          obtain ⟨t0, t1, t2⟩ := HC1.out wr HB.out
          obtain ⟨e0, e1, e2⟩ := HC2.out wr HB.out
          go_wp2_with fail
          go_quiet (fail)
          have HBD := Lib.hid (below_drewN (n := nq) HB.out)
          go_wp2
          go_ret
          refine ⟨ret_bool ?_, HBD.out⟩
          rw [← HZ.out, HD.out, hv]; rfl
      · have hkb : (k == k2) = false := by simp [hk]
        have hv : vb = true := by rw [← hvb, decide_eq_false hk]; rfl
        clear hvb
        obtain ⟨t0, t1, t2⟩ := HC1.out wr HB.out
        obtain ⟨e0, e1, e2⟩ := HC2.out wr HB.out
        go_wp2_with fail
        go_quiet (fail)
        have HBD := Lib.hid (below_drewN (n := nq) HB.out)
        go_wp2
        go_roundw
        case rel => exact ⟨i + 1, by go_num, hlt, by rw [HD.out, hv]; rfl, HBD.out⟩
        case measure => simp [intOf]; omega
    · obtain rfl : i = n := by omega
      have HF : Hid (ro = true) := Lib.hid (by rw [← HZ.out, HALL.out, zip_end _ _ _ _ (by rw [HL.out]; exact Nat.le_refl _)])
      go_wp2
      go_ret
      exact ⟨ret_bool HF.out.symm, HB.out⟩
end Go.Proofs.Ytcocdhndhlegiaa
