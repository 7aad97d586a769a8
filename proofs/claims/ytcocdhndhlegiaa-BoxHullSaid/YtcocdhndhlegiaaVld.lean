/- Valid values. -/
import Derived.Test.YtcocdhndhlegiaaSdm
namespace Go.Proofs.Ytcocdhndhlegiaa
open Go.ChangeShapes Go.WideShapes Go.ChangeAt Go.RowKit Go.ChangeMaps

def prB (l : List UInt8) : Bool := l.all fun c => decide (32 ≤ c.toNat) && decide (c.toNat ≤ 126)
theorem prB_step (l : List UInt8) (k : Nat) (h : k < l.length) : prB (l.drop k) = (decide (32 ≤ l[k].toNat) && decide (l[k].toNat ≤ 126) && prB (l.drop (k + 1))) := by
  rw [List.drop_eq_getElem_cons h]; rfl
theorem Printable_any (s : ByteArray) (w : World) (hs : s.size ≤ 9223372036854775807) :
    Calls Try.prog 32 #[.string s] w fun e w' => e = .returned (.bool (prB s.data.toList)) ∧ w = w' := by
  have hl : s.data.toList.length = s.size := by simp
  have HL := Lib.hid hl
  clear hl
  go_enter Try.func32, Try.ntmps32
  go_wp2
  go_loop [3] (fun i => ∃ k : Nat, k ≤ s.size ∧ i = .int .i64 k ∧ prB s.data.toList = prB (s.data.toList.drop k)) (fun i => s.size - (intOf i).toNat)
  case atStart => exact ⟨0, Nat.zero_le _, rfl, rfl⟩
  case round =>
    obtain ⟨k, hk, rfl, hc⟩ := hrel
    by_cases h1 : k < s.size
    · have H := Lib.hid (hc.trans (prB_step _ k (by rw [HL.out]; exact h1)))
      have ex : s.data.toList[k]'(by rw [HL.out]; exact h1) = s[k] := by simp; rfl
      rw [ex] at H
      have hx : s[k].toNat < 256 := s[k].toNat_lt
      clear hc ex
      rcases (show s[k].toNat < 32 ∨ (32 ≤ s[k].toNat ∧ 126 < s[k].toNat) ∨ (32 ≤ s[k].toNat ∧ s[k].toNat ≤ 126) by omega) with h2 | ⟨h2, h3⟩ | ⟨h2, h3⟩
      · have H := Lib.hid (H.out.trans (by rw [decide_eq_false (by omega)]; rfl : _ = false))
        go_wp2
        go_ret
        exact ⟨ret_bool H.out.symm, rfl⟩
      · have H := Lib.hid (H.out.trans (by rw [decide_eq_false (p := s[k].toNat ≤ 126) (by omega), Bool.and_false]; rfl : _ = false))
        go_wp2
        go_ret
        exact ⟨ret_bool H.out.symm, rfl⟩
      · have H := Lib.hid (H.out.trans (by rw [decide_eq_true h2, decide_eq_true h3]; rfl : _ = prB (s.data.toList.drop (k + 1))))
        go_wp2
        go_round
        case rel => exact ⟨k + 1, by omega, by go_num, H.out⟩
        case measure => simp [intOf]; omega
    · obtain rfl : k = s.size := by omega
      have H := Lib.hid (hc.trans (by rw [List.drop_of_length_le (by rw [HL.out]; exact Nat.le_refl _)]; rfl : _ = true))
      clear hc
      go_wp2
      go_ret
      exact ⟨ret_bool H.out.symm, rfl⟩

def V3.valid (x : V3) : Bool := if x.k = 0 then decide (x.n = 0) && decide (x.s.size = 0) else if x.k = 1 then decide (x.s.size = 0) else if x.k = 2 then decide (x.n = 0) && prB x.s.data.toList && decide (x.s.size ≤ 16) else false
theorem empty_list (s : ByteArray) : s.toList.isEmpty = decide (s.size = 0) := by
  have e : s.data.toList.length = s.size := by simp
  rw [ByteArray.toList_eq, ← e]
  cases s.data.toList <;> simp
set_option maxHeartbeats 1000000 in
theorem Valid_any (k n : Int) (s : ByteArray) (w : World) (hs : s.size ≤ 9223372036854775807) :
    Calls Try.prog 26 #[.agg #[.int .i64 k, .int .i64 n, .string s]] w fun e w' => e = .returned (.bool (V3.valid ⟨k, n, s⟩)) ∧ Below w.heap.size w w' := by
  have E := empty_list s
  have HP := Lib.hid (fun w => Printable_any s w hs)
  obtain ⟨p, hp⟩ : ∃ p, prB s.data.toList = p := ⟨_, rfl⟩
  rw [hp] at HP
  have HV : Hid (V3.valid ⟨k, n, s⟩ = if k = 0 then decide (n = 0) && decide (s.size = 0) else if k = 1 then decide (s.size = 0) else if k = 2 then decide (n = 0) && p && decide (s.size ≤ 16) else false) := by
    refine Lib.hid ?_
    rw [← hp]; rfl
  clear hp
  have A1 : ∀ w : World, Below w.heap.size w (w.alloc (.cells #[.int .i64 k, .int .i64 n, .string s] 47)) := fun w => (Below.refl _ w).alloc (Nat.le_refl _) _
  have HA := Lib.hid A1
  clear A1
  by_cases h0 : k = 0
  · subst h0
    rw [if_pos rfl] at HV
    by_cases hn : n = 0
    · subst hn
      rw [decide_eq_true rfl, Bool.true_and] at HV
      rcases hz : decide (s.size = 0) with _ | _ <;> rw [hz] at E HV
      all_goals
        rw [HV.out]
        clear HV hz
        go_enter Try.func26, Try.ntmps26
        go_wp2
        go_ret
        exact ⟨rfl, HA.out _⟩
    · have hn2 : (n == 0) = false := by simpa using hn
      rw [decide_eq_false hn, Bool.false_and] at HV
      rw [HV.out]
      go_enter Try.func26, Try.ntmps26
      go_wp2
      go_ret
      exact ⟨rfl, HA.out _⟩
  · have b0 : (k == 0) = false := by simpa using h0
    rw [if_neg h0] at HV
    by_cases h1 : k = 1
    · subst h1
      rw [if_pos rfl] at HV
      rcases hz : decide (s.size = 0) with _ | _ <;> rw [hz] at E HV
      all_goals
        rw [HV.out]
        clear HV hz
        go_enter Try.func26, Try.ntmps26
        go_wp2
        go_ret
        exact ⟨rfl, HA.out _⟩
    · have b1 : (k == 1) = false := by simpa using h1
      rw [if_neg h1] at HV
      by_cases h2 : k = 2
      · subst h2
        rw [if_pos rfl] at HV
        by_cases hn : n = 0
        · subst hn
          rw [decide_eq_true rfl, Bool.true_and] at HV
          cases p
          · rw [Bool.false_and] at HV
            rw [HV.out]
            go_enter Try.func26, Try.ntmps26
            go_wp2_with (go_at_call 32; refine (HP.out _).mono ?_; rintro e w' ⟨rfl, rfl⟩)
            go_ret
            exact ⟨rfl, HA.out _⟩
          · rw [Bool.true_and] at HV
            by_cases hl : s.size ≤ 16
            · have hd : decide (s.size ≤ 16) = true := decide_eq_true hl
              have hd2 : decide ((s.size : Int) ≤ 16) = true := decide_eq_true (by omega)
              rw [decide_eq_true hl] at HV
              rw [HV.out]
              go_enter Try.func26, Try.ntmps26
              go_wp2_with (go_at_call 32; refine (HP.out _).mono ?_; rintro e w' ⟨rfl, rfl⟩)
              go_ret
              exact ⟨rfl, HA.out _⟩
            · have hd : decide (s.size ≤ 16) = false := decide_eq_false hl
              have hd2 : decide ((s.size : Int) ≤ 16) = false := decide_eq_false (by omega)
              rw [decide_eq_false hl] at HV
              rw [HV.out]
              go_enter Try.func26, Try.ntmps26
              go_wp2_with (go_at_call 32; refine (HP.out _).mono ?_; rintro e w' ⟨rfl, rfl⟩)
              go_ret
              exact ⟨rfl, HA.out _⟩
        · have hn2 : (n == 0) = false := by simpa using hn
          rw [decide_eq_false hn, Bool.false_and, Bool.false_and] at HV
          rw [HV.out]
          go_enter Try.func26, Try.ntmps26
          go_wp2
          go_ret
          exact ⟨rfl, HA.out _⟩
      · have b2 : (k == 2) = false := by simpa using h2
        rw [if_neg h2] at HV
        rw [HV.out]
        go_enter Try.func26, Try.ntmps26
        go_wp2
        go_ret
        exact ⟨rfl, HA.out _⟩
end Go.Proofs.Ytcocdhndhlegiaa
