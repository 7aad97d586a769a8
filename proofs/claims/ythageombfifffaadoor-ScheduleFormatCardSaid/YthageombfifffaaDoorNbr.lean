/- A number, as the reference reads it. -/
import Derived.Test.YthageombfifffaaDoorRfm
namespace Go.Proofs.YthageombfifffaaDoor
open Go.ChangeShapes Go.WideShapes Go.ChangeAt Go.RowKit Go.ChangeMaps

/-- The number that digits stand for. -/
def numF (n : Int) : List UInt8 → Int
  | [] => n
  | c :: r => if c.toNat < 48 ∨ 57 < c.toNat ∨ 1000000 < n then -1 else numF (n * 10 + ((c.toNat : Int) - 48)) r
theorem numF_bd (l : List UInt8) : ∀ n : Int, 0 ≤ n → n ≤ 10000009 → -1 ≤ numF n l ∧ numF n l ≤ 10000009 := by
  induction l with
  | nil => intro n h0 h1; exact ⟨by rw [numF]; omega, by rw [numF]; omega⟩
  | cons c r ih =>
    intro n h0 h1
    rw [numF]
    split
    · omega
    · rename_i h; exact ih _ (by omega) (by omega)
theorem numF_dec (u : Nat) : u ≤ 10000000 → ∀ r, numF 0 (Lib.decDigits u ++ r) = numF u r := by
  induction u using Nat.strongRecOn with
  | ind u ih =>
    intro h r
    by_cases h10 : u < 10
    · rw [dec_one u h10, List.singleton_append, numF, dig_toNat u h10, if_neg (by omega)]
      congr 1; omega
    · rw [dec_split u h10, List.append_assoc, ih (u / 10) (by omega) (by omega), List.singleton_append, numF, dig_toNat _ (by omega), if_neg (by omega)]
      congr 1; omega
theorem numF_of (u : Nat) (h : u ≤ 10000000) : numF 0 (Lib.decDigits u) = u := by
  have := numF_dec u h []
  rw [List.append_nil, numF] at this; exact this
set_option maxRecDepth 100000 in
set_option maxHeartbeats 1000000 in
theorem number_any (s : ByteArray) (w : World) (hs : s.size ≤ 100000) : Calls Tryd.prog 44 #[.string s] w fun e w' => e = .returned (.int .i64 (numF 0 s.data.toList)) ∧ w = w' := by
  have HL : Hid (s.data.toList.length = s.size) := Lib.hid (by simp)
  obtain ⟨V, hV⟩ : ∃ V, numF 0 s.data.toList = V := ⟨_, rfl⟩
  have HV := Lib.hid hV
  rw [hV]
  clear hV
  go_enter Tryd.func44, Tryd.ntmps44
  go_wp2
  go_loop [3, 4] (fun a i => ∃ (k : Nat) (v : Int), k ≤ s.size ∧ a = .int .i64 v ∧ i = .int .i64 k ∧ 0 ≤ v ∧ v ≤ 10000009 ∧ V = numF v (s.data.toList.drop k)) (fun _ i => s.size - (intOf i).toNat)
  case atStart => exact ⟨0, 0, Nat.zero_le _, rfl, rfl, by omega, by omega, HV.out.symm⟩
  case round =>
    obtain ⟨k, v, hk, rfl, rfl, hv0, hv1, hr⟩ := hrel
    by_cases hlt : k < s.size
    · have hkl : k < s.data.toList.length := by rw [HL.out]; exact hlt
      have ex : s.data.toList[k]'hkl = s[k] := by simp; rfl
      rw [List.drop_eq_getElem_cons hkl, ex, numF] at hr
      have hx := (s[k]).toNat_lt
      have HR := Lib.hid hr
      clear hr ex
      obtain ⟨x, hxx⟩ : ∃ x, s[k].toNat = x := ⟨_, rfl⟩
      rw [hxx] at HR hx
      by_cases g1 : x < 48
      · have e := HR.out.trans (if_pos (by omega))
        have q : decide ((s[k].toNat : Int) < 48) = true := decide_eq_true (by omega)
        have HE := Lib.hid e
        clear e
        go_wp2
        go_ret
        exact ⟨ret_int HE.out.symm, rfl⟩
      have q1 : decide ((s[k].toNat : Int) < 48) = false := decide_eq_false (by omega)
      by_cases g2 : 57 < x
      · have e := HR.out.trans (if_pos (by omega))
        have q : decide ((57 : Int) < (s[k].toNat : Int)) = true := decide_eq_true (by omega)
        have HE := Lib.hid e
        clear e
        go_wp2
        go_ret
        exact ⟨ret_int HE.out.symm, rfl⟩
      have q2 : decide ((57 : Int) < (s[k].toNat : Int)) = false := decide_eq_false (by omega)
      by_cases g3 : 1000000 < v
      · have e := HR.out.trans (if_pos (by omega))
        have q : decide (1000000 < v) = true := decide_eq_true (by omega)
        have HE := Lib.hid e
        clear e
        go_wp2
        go_ret
        exact ⟨ret_int HE.out.symm, rfl⟩
      have q3 : decide (1000000 < v) = false := decide_eq_false (by omega)
      have e := HR.out.trans (if_neg (by omega))
      rw [← hxx] at e
      have HE := Lib.hid e
      have w1 : IntKind.u8.wrap ((s[k].toNat : Int) - 48) = (s[k].toNat : Int) - 48 := by simp [IntKind.wrap, IntKind.bits, IntKind.signed]; omega
      clear e
      go_wp2
      go_round
      case rel => exact ⟨k + 1, v * 10 + ((s[k].toNat : Int) - 48), by omega, by first | rfl | go_num, by go_num, by omega, by omega, HE.out⟩
      case measure => simp [intOf]; omega
    · obtain rfl : k = s.size := by omega
      have e : s.data.toList.drop s.size = [] := List.drop_eq_nil_of_le (by rw [HL.out]; exact Nat.le_refl _)
      rw [e, numF] at hr
      have HE := Lib.hid hr
      clear hr e
      go_wp2
      go_ret
      exact ⟨ret_int HE.out.symm, rfl⟩
end Go.Proofs.YthageombfifffaaDoor
