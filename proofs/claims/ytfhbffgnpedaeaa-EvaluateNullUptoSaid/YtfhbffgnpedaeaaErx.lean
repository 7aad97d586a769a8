/- The reference: whether a row fits its variables. -/
import Derived.Test.YtfhbffgnpedaeaaEtx
namespace Go.Proofs.Ytfhbffgnpedaeaa
open Go.ChangeShapes Go.WideShapes Go.ChangeAt Go.RowKit Go.ChangeMaps

def cellB (ty : Int) (v : V3) : Bool := if v.k = 0 then decide (v.n = 0) && decide (v.s.size = 0) else if v.k = 1 then decide (ty = 1) && (decide (v.s.size = 0) && (decide (-2147483648 ≤ v.n) && decide (v.n ≤ 2147483647))) else if v.k = 2 then decide (ty = 2) && (decide (v.n = 0) && decide (litM v = 2)) else false
def rwM : List Va → List V3 → Bool
  | [], [] => true
  | v :: L, r :: R => cellB v.ty r && rwM L R
  | _, _ => false
theorem rw_len : ∀ (L : List Va) (R : List V3), L.length ≠ R.length → rwM L R = false
  | [], [], h => absurd rfl h
  | [], _ :: _, _ => rfl
  | _ :: _, [], _ => rfl
  | v :: L, r :: R, h => by
    simp only [rwM]
    rw [rw_len L R (by simpa using h), Bool.and_false]
theorem rw_drop (L : List Va) (R : List V3) (i : Nat) (h : i < L.length) (h2 : i < R.length) : rwM (L.drop i) (R.drop i) = (cellB L[i].ty R[i] && rwM (L.drop (i + 1)) (R.drop (i + 1))) := by
  rw [List.drop_eq_getElem_cons h, List.drop_eq_getElem_cons h2, rwM]
set_option maxRecDepth 100000 in
set_option maxHeartbeats 4000000 in
theorem Row_any (L : List Va) (R : List V3) (A0 A : Option Addr) (n0 c0 n c : Nat) (w : World) (hL : Vas w A0 n0 L) (hR : Vls w A n R) (hn : n ≤ 9223372036854775807) (hok : ∀ v ∈ R, v.ok) : Calls Try.prog 27 #[.slice A0 n0 c0, .slice A n c] w fun e w' => e = .returned (.bool (rwM L R)) ∧ Below w.heap.size w w' := by
  have hLl := hL.len
  have hRl := hR.len
  obtain ⟨r, hr⟩ : ∃ r, rwM L R = r := ⟨_, rfl⟩
  rw [hr]
  by_cases hnn : n0 = n
  case neg =>
    have HF := Lib.hid (show false = r by rw [← hr, rw_len L R (by omega)])
    have e1 : ((n0 : Int) == n) = false := by simp; omega
    have e2 : ((n0 : Int) != n) = true := by simp; omega
    have e3 : (n0 == n) = false := by simp; omega
    have e4 : (n0 != n) = true := by simp; omega
    have HB := Lib.hid (Below.refl w.heap.size w)
    clear hr hnn hL hR hLl hRl
    go_enter Try.func27, Try.ntmps27
    go_wp2
    go_ret
    exact ⟨ret_bool HF.out, HB.out⟩
  subst hnn
  have HR := Lib.hid hr
  have HL := Lib.hid hL
  have HV := Lib.hid hR
  have HLl := Lib.hid hLl
  have HRl := Lib.hid hRl
  have HOK := Lib.hid hok
  clear hr hL hR hLl hRl hok
  have HB0 := Lib.hid (Below.refl w.heap.size w)
  go_enter Try.func27, Try.ntmps27
  go_wp2
  go_loopw [5] (fun iv wr => ∃ i : Nat, iv = .int .i64 (i : Int) ∧ i ≤ n0 ∧ rwM L R = rwM (L.drop i) (R.drop i) ∧ Below w.heap.size w wr) (fun iv _ => n0 - (intOf iv).toNat)
  case atStart => exact ⟨0, rfl, Nat.zero_le _, rfl, HB0.out⟩
  case round =>
    obtain ⟨i, rfl, hin, hall, hb⟩ := hrel
    have HB := Lib.hid hb
    have HALL := Lib.hid hall
    clear hb hall
    by_cases hlt : i < n0
    case neg =>
      have hi : i = n0 := by omega
      have HF := Lib.hid (show true = r by rw [← HR.out, HALL.out, List.drop_of_length_le (by have := HLl.out; omega), List.drop_of_length_le (by have := HRl.out; omega)]; rfl)
      subst hi
      go_wp2
      go_ret
      exact ⟨ret_bool HF.out, HB.out⟩
    have hlti : (i : Int) < n0 := by omega
    obtain ⟨b0, off0, rfl, hbl0, hc0⟩ := HL.out.at (by omega)
    obtain ⟨b, off, rfl, hbl, hc⟩ := HV.out.at (by omega)
    have hiL : i < L.length := by have := HLl.out; omega
    have hiR : i < R.length := by have := HRl.out; omega
    have d0 := hc0 wr HB.out i hiL
    obtain ⟨c1, c2, c3⟩ := hc wr HB.out i hiR
    have HD := Lib.hid (HALL.out.trans (rw_drop L R i hiL hiR))
    have hvok := HOK.out R[i] (List.getElem_mem _)
    have hsz := HB.out.size
    have hb0w : b0 < wr.heap.size := by omega
    have hbw : b < wr.heap.size := by omega
    clear hc0 hc
    generalize L[i].ty = t at *
    generalize R[i] = y at *
    clear hiL hiR
    obtain ⟨k, m, s⟩ := y
    have hs : s.size ≤ 9223372036854775807 := by have := hvok.2.2.2.2; dsimp only at this; omega
    clear hvok
    dsimp only at *
    have HBA := Lib.hid (HB.out.alloc (o := .cells #[.int .i64 k, .int .i64 m, .string s] 23) HB.out.size)
    have CL0 := fun W => literal_any ⟨k, m, s⟩ W hs
    obtain ⟨lt, hlit⟩ : ∃ l, litM ⟨k, m, s⟩ = l := ⟨_, rfl⟩
    have HLT := Lib.hid hlit
    simp only [hlit] at CL0
    unfold V3.agg at CL0
    dsimp only at CL0
    have CL := Lib.hid CL0
    have E1 := Lib.hid (empty_list s)
    have E2 := Lib.hid (empty_beq s)
    clear CL0 hlit hs
    by_cases k0 : k = 0
    · subst k0
      by_cases n0z : m = 0
      case neg =>
        have n0zH := Lib.hid n0z
        have n0ze : (m == 0) = false := by simpa using n0z
        have n0zn : (m != 0) = true := by simp [n0z]
        clear n0z
        have HF := Lib.hid (show false = r by rw [← HR.out, HD.out]; unfold cellB; simp [n0zH.out])
        go_wp2
        go_ret
        exact ⟨ret_bool HF.out, HBA.out⟩
      have n0zH := Lib.hid n0z
      have n0ze : (m == 0) = true := by simpa using n0z
      have n0zn : (m != 0) = false := by simp [n0z]
      clear n0z
      by_cases s0z : s.size = 0
      case neg =>
        have s0zH := Lib.hid s0z
        have s0z1 := E1.out.trans (decide_eq_false s0z)
        have s0z2 := E2.out.trans (decide_eq_false s0z)
        have s0z3 : (s.toList != []) = true := by simp only [bne, s0z2]; rfl
        clear s0z
        have HF := Lib.hid (show false = r by rw [← HR.out, HD.out]; unfold cellB; simp [n0zH.out, s0zH.out])
        go_wp2
        go_ret
        exact ⟨ret_bool HF.out, HBA.out⟩
      have s0zH := Lib.hid s0z
      have s0z1 := E1.out.trans (decide_eq_true s0z)
      have s0z2 := E2.out.trans (decide_eq_true s0z)
      have s0z3 : (s.toList != []) = false := by simp only [bne, s0z2]; rfl
      clear s0z
      have HG := Lib.hid (HD.out.trans (show (cellB t ⟨0, m, s⟩ && rwM (L.drop (i + 1)) (R.drop (i + 1))) = rwM (L.drop (i + 1)) (R.drop (i + 1)) by unfold cellB; simp [n0zH.out, s0zH.out]))
      go_wp2
      go_roundw
      case rel => exact ⟨i + 1, by go_num, hlt, HG.out, HBA.out⟩
      case measure => simp [intOf]; omega
    by_cases k1 : k = 1
    · subst k1
      by_cases t1 : t = 1
      case neg =>
        have t1H := Lib.hid t1
        have t1e : (t == 1) = false := by simpa using t1
        have t1n : (t != 1) = true := by simp [t1]
        clear t1
        have HF := Lib.hid (show false = r by rw [← HR.out, HD.out]; unfold cellB; simp [t1H.out])
        go_wp2
        go_ret
        exact ⟨ret_bool HF.out, HBA.out⟩
      have t1H := Lib.hid t1
      have t1e : (t == 1) = true := by simpa using t1
      have t1n : (t != 1) = false := by simp [t1]
      clear t1
      by_cases s0z : s.size = 0
      case neg =>
        have s0zH := Lib.hid s0z
        have s0z1 := E1.out.trans (decide_eq_false s0z)
        have s0z2 := E2.out.trans (decide_eq_false s0z)
        have s0z3 : (s.toList != []) = true := by simp only [bne, s0z2]; rfl
        clear s0z
        have HF := Lib.hid (show false = r by rw [← HR.out, HD.out]; unfold cellB; simp [t1H.out, s0zH.out])
        go_wp2
        go_ret
        exact ⟨ret_bool HF.out, HBA.out⟩
      have s0zH := Lib.hid s0z
      have s0z1 := E1.out.trans (decide_eq_true s0z)
      have s0z2 := E2.out.trans (decide_eq_true s0z)
      have s0z3 : (s.toList != []) = false := by simp only [bne, s0z2]; rfl
      clear s0z
      by_cases lo : -2147483648 ≤ m
      case neg =>
        have loH := Lib.hid lo
        have loa : m < -2147483648 := by omega
        clear lo
        have HF := Lib.hid (show false = r by rw [← HR.out, HD.out]; unfold cellB; simp [t1H.out, s0zH.out, loH.out])
        go_wp2
        go_ret
        exact ⟨ret_bool HF.out, HBA.out⟩
      have loH := Lib.hid lo
      have loa : ¬ m < -2147483648 := by omega
      clear lo
      by_cases hi : m ≤ 2147483647
      case neg =>
        have hiH := Lib.hid hi
        have hia : m > 2147483647 := by omega
        clear hi
        have HF := Lib.hid (show false = r by rw [← HR.out, HD.out]; unfold cellB; simp [t1H.out, s0zH.out, loH.out, hiH.out])
        go_wp2
        go_ret
        exact ⟨ret_bool HF.out, HBA.out⟩
      have hiH := Lib.hid hi
      have hia : ¬ m > 2147483647 := by omega
      clear hi
      have HG := Lib.hid (HD.out.trans (show (cellB t ⟨1, m, s⟩ && rwM (L.drop (i + 1)) (R.drop (i + 1))) = rwM (L.drop (i + 1)) (R.drop (i + 1)) by unfold cellB; simp [t1H.out, s0zH.out, loH.out, hiH.out]))
      go_wp2
      go_roundw
      case rel => exact ⟨i + 1, by go_num, hlt, HG.out, HBA.out⟩
      case measure => simp [intOf]; omega
    by_cases k2 : k = 2
    · subst k2
      by_cases t2 : t = 2
      case neg =>
        have t2H := Lib.hid t2
        have t2e : (t == 2) = false := by simpa using t2
        have t2n : (t != 2) = true := by simp [t2]
        clear t2
        have HF := Lib.hid (show false = r by rw [← HR.out, HD.out]; unfold cellB; simp [t2H.out])
        go_wp2
        go_ret
        exact ⟨ret_bool HF.out, HBA.out⟩
      have t2H := Lib.hid t2
      have t2e : (t == 2) = true := by simpa using t2
      have t2n : (t != 2) = false := by simp [t2]
      clear t2
      by_cases n0z : m = 0
      case neg =>
        have n0zH := Lib.hid n0z
        have n0ze : (m == 0) = false := by simpa using n0z
        have n0zn : (m != 0) = true := by simp [n0z]
        clear n0z
        have HF := Lib.hid (show false = r by rw [← HR.out, HD.out]; unfold cellB; simp [t2H.out, n0zH.out])
        go_wp2
        go_ret
        exact ⟨ret_bool HF.out, HBA.out⟩
      have n0zH := Lib.hid n0z
      have n0ze : (m == 0) = true := by simpa using n0z
      have n0zn : (m != 0) = false := by simp [n0z]
      clear n0z
      go_wp2_with fail
      refine (CL.out _).mono ?_
      rintro e w2 ⟨rfl, hb⟩
      have HBC := Lib.hid (HBA.out.trans (hb.mono HBA.out.size))
      clear hb
      by_cases l2 : lt = 2
      case neg =>
        have l2H := Lib.hid l2
        have l2e : (lt == 2) = false := by simpa using l2
        have l2n : (lt != 2) = true := by simp [l2]
        clear l2
        have HF := Lib.hid (show false = r by rw [← HR.out, HD.out]; unfold cellB; simp [t2H.out, n0zH.out, (n0zH.out ▸ HLT.out : litM ⟨2, 0, s⟩ = lt), l2H.out])
        go_wp2
        go_ret
        exact ⟨ret_bool HF.out, HBC.out⟩
      have l2H := Lib.hid l2
      have l2e : (lt == 2) = true := by simpa using l2
      have l2n : (lt != 2) = false := by simp [l2]
      clear l2
      have HG := Lib.hid (HD.out.trans (show (cellB t ⟨2, m, s⟩ && rwM (L.drop (i + 1)) (R.drop (i + 1))) = rwM (L.drop (i + 1)) (R.drop (i + 1)) by unfold cellB; simp [t2H.out, n0zH.out, (n0zH.out ▸ HLT.out : litM ⟨2, 0, s⟩ = lt), l2H.out]))
      go_wp2
      go_roundw
      case rel => exact ⟨i + 1, by go_num, hlt, HG.out, HBC.out⟩
      case measure => simp [intOf]; omega
    have f0 : (k == 0) = false := by simpa using k0
    have f1 : (k == 1) = false := by simpa using k1
    have f2 : (k == 2) = false := by simpa using k2
    have H0 := Lib.hid k0
    have H1 := Lib.hid k1
    have H2 := Lib.hid k2
    clear k0 k1 k2
    have HF := Lib.hid (show false = r by rw [← HR.out, HD.out]; unfold cellB; simp [H0.out, H1.out, H2.out])
    go_wp2
    go_ret
    exact ⟨ret_bool HF.out, HBA.out⟩
end Go.Proofs.Ytfhbffgnpedaeaa
