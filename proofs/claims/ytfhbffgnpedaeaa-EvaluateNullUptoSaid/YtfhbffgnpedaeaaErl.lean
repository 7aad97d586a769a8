/- The reference: literals; the number of nodes. -/
import Derived.Test.YtfhbffgnpedaeaaErc
namespace Go.Proofs.Ytfhbffgnpedaeaa
open Go.ChangeShapes Go.WideShapes Go.ChangeAt Go.RowKit Go.ChangeMaps

def prB (l : List UInt8) : Bool := l.all fun c => decide (32 ≤ c.toNat) && decide (c.toNat ≤ 126)
theorem prB_step (l : List UInt8) (k : Nat) (h : k < l.length) : prB (l.drop k) = (decide (32 ≤ l[k].toNat) && decide (l[k].toNat ≤ 126) && prB (l.drop (k + 1))) := by
  rw [List.drop_eq_getElem_cons h]; rfl
def litM (v : V3) : Int := if v.k = 0 ∧ v.n = 0 ∧ v.s.size = 0 then 0 else if v.k = 1 ∧ v.s.size = 0 ∧ 0 ≤ v.n ∧ v.n ≤ 2147483648 then 1 else if v.k = 2 ∧ v.n = 0 ∧ v.s.size ≤ 16 then (if prB v.s.data.toList = true then 2 else -1) else -1
theorem empty_list (s : ByteArray) : s.toList.isEmpty = decide (s.size = 0) := by
  have e : s.data.toList.length = s.size := by simp
  rw [ByteArray.toList_eq, ← e]
  cases s.data.toList <;> simp
theorem empty_beq (s : ByteArray) : (s.toList == []) = decide (s.size = 0) := by
  have e : s.data.toList.length = s.size := by simp
  rw [ByteArray.toList_eq, ← e]
  cases s.data.toList <;> simp
set_option maxRecDepth 100000 in
set_option maxHeartbeats 4000000 in
theorem literal_any (v : V3) (w : World) (hv : v.s.size ≤ 9223372036854775807) : Calls Try.prog 47 #[v.agg] w fun e w' => e = .returned (.int .i64 (litM v)) ∧ Below w.heap.size w w' := by
  obtain ⟨k, n, s⟩ := v
  unfold V3.agg
  dsimp only at *
  have HL := Lib.hid (show s.data.toList.length = s.size by simp)
  obtain ⟨r, hr⟩ : ∃ r, litM ⟨k, n, s⟩ = r := ⟨_, rfl⟩
  rw [hr]
  unfold litM at hr
  dsimp only at hr
  have HR := Lib.hid hr
  clear hr
  have E1 := empty_list s
  have E2 := empty_beq s
  have HB := Lib.hid (show Below w.heap.size w (w.alloc (.cells #[.int .i64 k, .int .i64 n, .string s] 23)) from (Below.refl _ w).alloc (Nat.le_refl _) _)
  by_cases h0 : k = 0
  · subst h0
    by_cases hn : n = 0
    · subst hn
      by_cases hs : s.size = 0
      · rw [decide_eq_true hs] at E1 E2
        have HF := Lib.hid (show (0 : Int) = r by rw [← HR.out]; simp [hs])
        clear HR
        go_enter Try.func47, Try.ntmps47
        go_wp2
        go_ret
        exact ⟨ret_int HF.out, HB.out⟩
      rw [decide_eq_false hs] at E1 E2
      have HF := Lib.hid (show (-1 : Int) = r by rw [← HR.out]; simp [hs])
      clear HR
      go_enter Try.func47, Try.ntmps47
      go_wp2
      go_ret
      exact ⟨ret_int HF.out, HB.out⟩
    have f0 : (n == 0) = false := by simpa using hn
    have HF := Lib.hid (show (-1 : Int) = r by rw [← HR.out]; simp [hn])
    clear HR
    go_enter Try.func47, Try.ntmps47
    go_wp2
    go_ret
    exact ⟨ret_int HF.out, HB.out⟩
  by_cases h1 : k = 1
  · subst h1
    by_cases hs : s.size = 0
    · rw [decide_eq_true hs] at E1 E2
      by_cases hn : 0 ≤ n
      · by_cases hm : n ≤ 2147483648
        · have HF := Lib.hid (show (1 : Int) = r by rw [← HR.out]; simp [hs, hn, hm])
          clear HR
          go_enter Try.func47, Try.ntmps47
          go_wp2
          go_ret
          exact ⟨ret_int HF.out, HB.out⟩
        have HF := Lib.hid (show (-1 : Int) = r by rw [← HR.out]; simp [hm])
        clear HR
        go_enter Try.func47, Try.ntmps47
        go_wp2
        go_ret
        exact ⟨ret_int HF.out, HB.out⟩
      have HF := Lib.hid (show (-1 : Int) = r by rw [← HR.out]; simp [hn])
      clear HR
      go_enter Try.func47, Try.ntmps47
      go_wp2
      go_ret
      exact ⟨ret_int HF.out, HB.out⟩
    rw [decide_eq_false hs] at E1 E2
    have HF := Lib.hid (show (-1 : Int) = r by rw [← HR.out]; simp [hs])
    clear HR
    go_enter Try.func47, Try.ntmps47
    go_wp2
    go_ret
    exact ⟨ret_int HF.out, HB.out⟩
  by_cases h2 : k = 2
  · subst h2
    by_cases hn : n = 0
    · subst hn
      by_cases hs : s.size ≤ 16
      · have f2 : (s.size : Int) ≤ 16 := by omega
        have HF := Lib.hid (show (if prB s.data.toList = true then (2 : Int) else -1) = r by rw [← HR.out]; simp [hs])
        clear HR E1 E2
        go_enter Try.func47, Try.ntmps47
        go_wp2
        go_loopw [3] (fun iv wr => ∃ i : Nat, iv = .int .i64 (i : Int) ∧ i ≤ s.size ∧ prB s.data.toList = prB (s.data.toList.drop i) ∧ Blk wr w.heap.size 23 #[.int .i64 2, .int .i64 0, .string s] ∧ Below w.heap.size w wr) (fun iv _ => s.size - (intOf iv).toNat)
        case atStart => exact ⟨0, rfl, Nat.zero_le _, rfl, Blk.new _ _ _, HB.out⟩
        case round =>
          obtain ⟨i, rfl, hi, hc, hk, hb⟩ := hrel
          replace HB := Lib.hid hb
          have HK := Lib.hid hk
          have k2 : wr.cell? ⟨w.heap.size, 2, none⟩ = some (.string s) := hk.cell 2
          clear hb hk
          by_cases hlt : i < s.size
          · have H := Lib.hid (hc.trans (prB_step _ i (by rw [HL.out]; exact hlt)))
            have hlti : (i : Int) < s.size := by omega
            have ex : s.data.toList[i]'(by rw [HL.out]; exact hlt) = s[i] := by simp; rfl
            rw [ex] at H
            have hx : s[i].toNat < 256 := s[i].toNat_lt
            clear hc ex
            by_cases g1 : s[i].toNat < 32
            · have HG := Lib.hid (show (-1 : Int) = r by rw [← HF.out, H.out, decide_eq_false (by omega)]; rfl)
              go_wp2
              go_ret
              exact ⟨ret_int HG.out, HB.out⟩
            · by_cases g2 : 126 < s[i].toNat
              · have HG := Lib.hid (show (-1 : Int) = r by rw [← HF.out, H.out, decide_eq_false (p := s[i].toNat ≤ 126) (by omega), Bool.and_false]; rfl)
                have g1' : 32 ≤ s[i].toNat := by omega
                go_wp2
                go_ret
                exact ⟨ret_int HG.out, HB.out⟩
              · have HG := Lib.hid (show prB s.data.toList = prB (s.data.toList.drop (i + 1)) by rw [H.out, decide_eq_true (by omega), decide_eq_true (by omega)]; rfl)
                have g1' : 32 ≤ s[i].toNat := by omega
                have g2' : s[i].toNat ≤ 126 := by omega
                go_wp2
                go_roundw
                case rel => exact ⟨i + 1, by go_num, hlt, HG.out, HK.out, HB.out⟩
                case measure => simp [intOf]; omega
          · have hi2 : i = s.size := by omega
            have HG := Lib.hid (show (2 : Int) = r by rw [← HF.out, hc, List.drop_of_length_le (by rw [HL.out]; omega)]; rfl)
            have hn : ¬ (i : Int) < s.size := by omega
            clear hc hi2
            go_wp2
            go_ret
            exact ⟨ret_int HG.out, HB.out⟩
      have f0 : ¬ (s.size : Int) ≤ 16 := by omega
      have HF := Lib.hid (show (-1 : Int) = r by rw [← HR.out]; simp [hs])
      clear HR
      go_enter Try.func47, Try.ntmps47
      go_wp2
      go_ret
      exact ⟨ret_int HF.out, HB.out⟩
    have f0 : (n == 0) = false := by simpa using hn
    have HF := Lib.hid (show (-1 : Int) = r by rw [← HR.out]; simp [hn])
    clear HR
    go_enter Try.func47, Try.ntmps47
    go_wp2
    go_ret
    exact ⟨ret_int HF.out, HB.out⟩
  have f0 : (k == 0) = false := by simpa using h0
  have f1 : (k == 1) = false := by simpa using h1
  have f2 : (k == 2) = false := by simpa using h2
  have HF := Lib.hid (show (-1 : Int) = r by rw [← HR.out]; simp [h0, h1, h2])
  clear HR
  go_enter Try.func47, Try.ntmps47
  go_wp2
  go_ret
  exact ⟨ret_int HF.out, HB.out⟩
end Go.Proofs.Ytfhbffgnpedaeaa
