/- The number of decimal digits, and decimal texts. -/
import Derived.Test.YtndkcimdbidgaaaDoorBtp
import Derived.BigQuiet
namespace Go.Proofs.YtndkcimdbidgaaaDoor
open Go.ChangeShapes Go.WideShapes Go.ChangeAt Go.RowKit Go.ChangeMaps

/-- The number that digits stand for. -/
def nv (l : List UInt8) : Nat := l.foldl (fun a b => 10 * a + (b.toNat - 48)) 0
def isd (b : UInt8) : Prop := 48 ≤ b.toNat ∧ b.toNat ≤ 57
instance (b : UInt8) : Decidable (isd b) := inferInstanceAs (Decidable (_ ∧ _))
theorem nv_snoc (l : List UInt8) (b : UInt8) : nv (l ++ [b]) = 10 * nv l + (b.toNat - 48) := by simp [nv, List.foldl_append]
theorem nv_lt : ∀ (n : Nat) (l : List UInt8), l.length = n → (∀ b ∈ l, isd b) → nv l < 10 ^ n
  | 0, l, h, _ => by rw [List.eq_nil_of_length_eq_zero h]; decide
  | n + 1, l, h, hd => by
    obtain ⟨m, b, rfl⟩ : ∃ m b, l = m ++ [b] := by
      rcases List.eq_nil_or_concat l with e | ⟨m, b, e⟩
      · subst e; simp at h
      · exact ⟨m, b, by simpa using e⟩
    have h1 := nv_lt n m (by simpa using h) (fun x hx => hd x (by simp [hx]))
    have h2 := hd b (by simp)
    rw [nv_snoc, Nat.pow_succ]
    unfold isd at h2
    omega
set_option maxRecDepth 100000 in
set_option maxHeartbeats 4000000 in
theorem number_any (s : ByteArray) (w : World) (hs : s.size ≤ 9) (hd : ∀ b ∈ s.data.toList, isd b) :
    Calls Tryd.prog 69 #[.string s] w fun e w' => e = .returned (.int .u32 (nv s.data.toList : Int)) ∧ w' = w := by
  have HL := Lib.hid (show s.data.toList.length = s.size by simp)
  have HD := Lib.hid hd
  clear hd
  go_enter Tryd.func69, Tryd.ntmps69
  go_wp2
  go_loopw [3, 7] (fun s3 s7 wr => ∃ (k v : Nat), k ≤ s.size ∧ v = nv (s.data.toList.take k) ∧ s3 = .int .u32 (v : Int) ∧ s7 = .int .i64 (k : Int) ∧ wr = w) (fun _ s7 _ => s.size - (intOf s7).toNat)
  case atStart => exact ⟨0, 0, Nat.zero_le _, rfl, rfl, rfl, rfl⟩
  case round =>
    obtain ⟨k, v, hk, hv, rfl, rfl, rfl⟩ := hrel
    have HV := Lib.hid hv
    clear hv
    by_cases h1 : k < s.size
    · have hlen : k < s.data.toList.length := by rw [HL.out]; exact h1
      have ex : s.data.toList[k]'hlen = s[k] := by simp; rfl
      have hb := HD.out _ (List.getElem_mem hlen)
      rw [ex] at hb
      obtain ⟨hb1, hb2⟩ := hb
      have HN := Lib.hid (show nv (s.data.toList.take (k + 1)) = 10 * v + (s[k].toNat - 48) from by
        rw [List.take_add_one, List.getElem?_eq_getElem hlen, ex, HV.out]
        exact nv_snoc _ _)
      have hvB : v < 1000000000 := by
        have h2 := nv_lt k (s.data.toList.take k) (by rw [List.length_take]; omega) (fun b hb => HD.out b (List.mem_of_mem_take hb))
        rw [← HV.out] at h2
        have h3 : 10 ^ k ≤ 10 ^ 9 := Nat.pow_le_pow_right (by decide) (by omega)
        omega
      have hvC : 10 * v < 4294967296 - 10 := by
        have h2 := nv_lt k (s.data.toList.take k) (by rw [List.length_take]; omega) (fun b hb => HD.out b (List.mem_of_mem_take hb))
        rw [← HV.out] at h2
        have h3 : 10 ^ k ≤ 10 ^ 8 := Nat.pow_le_pow_right (by decide) (by omega)
        omega
      clear ex
      go_wp2
      go_roundw
      case rel => exact ⟨k + 1, 10 * v + (s[k].toNat - 48), by omega, HN.out.symm, by congr 1; omega, by go_num, trivial⟩
      case measure => simp [intOf]; omega
    · obtain rfl : k = s.size := by omega
      have hlt : ¬ ((s.size : Int) < (s.size : Int)) := by omega
      have HF := Lib.hid (show v = nv s.data.toList from by rw [HV.out, ← HL.out, List.take_length])
      go_wp2
      go_ret
      exact ⟨by rw [← HF.out]; rfl, rfl⟩
def decT (l : List UInt8) : Prop := l ≠ [] ∧ (∀ b ∈ l, isd b) ∧ (l.head? = some 48 → l.length = 1)
def DcP (s : ByteArray) (w : World) (e : Ending) (w' : World) : Prop := ∃ b : Bool, e = .returned (.bool b) ∧ (b = true ↔ decT s.data.toList) ∧ w' = w
set_option maxRecDepth 100000 in
set_option maxHeartbeats 4000000 in
theorem decimal_any (s : ByteArray) (w : World) (hs : s.size ≤ 9223372036854775807) : Calls Tryd.prog 67 #[.string s] w (DcP s w) := by
  have HL := Lib.hid (show s.data.toList.length = s.size by simp)
  by_cases h0 : s.size = 0
  · have h1 : s.data.toList = [] := List.eq_nil_of_length_eq_zero (by rw [HL.out]; exact h0)
    have q2 : s.toList.isEmpty = true := by rw [ByteArray.toList_eq, h1]; rfl
    have q3 : s.toList = [] := by rw [ByteArray.toList_eq, h1]
    have HE := Lib.hid h1
    clear h1 h0
    go_enter Tryd.func67, Tryd.ntmps67
    go_wp2
    go_ret
    exact ⟨false, rfl, by rw [HE.out]; simp [decT], rfl⟩
  · have hpos : 0 < s.size := by omega
    have h1 : s.data.toList ≠ [] := by
      intro e
      have := congrArg List.length e
      rw [HL.out] at this
      exact h0 this
    have q2 : s.toList.isEmpty = false := by rw [ByteArray.toList_eq]; simpa using h1
    have q3 : ¬ s.toList = [] := by rw [ByteArray.toList_eq]; exact h1
    have hlen0 : 0 < s.data.toList.length := by rw [HL.out]; exact hpos
    have ex0 : s.data.toList[0]'hlen0 = s[0] := by simp; rfl
    have HH := Lib.hid (show s.data.toList.head? = some s[0] from by rw [← ex0]; rw [List.head?_eq_getElem?]; exact List.getElem?_eq_getElem hlen0)
    have HNE := Lib.hid h1
    clear h1 h0 ex0
    by_cases hbad : s[0].toNat = 48 ∧ 1 < s.size
    · obtain ⟨hb1, hb2⟩ := hbad
      have hb1' : (s[0].toNat : Int) = 48 := by omega
      have hb1b : ((s[0].toNat : Int) == 48) = true := by simp [hb1]
      have hb2' : (1 : Int) < (s.size : Int) := by omega
      have HB := Lib.hid hb1
      have HB2 := Lib.hid hb2
      clear hb1 hb2
      go_enter Tryd.func67, Tryd.ntmps67
      go_wp2
      go_ret
      have HF : ¬ decT s.data.toList := by
        intro h
        have h3 := h.2.2 (by rw [HH.out]; exact congrArg some (UInt8.toNat_inj.1 HB.out))
        rw [HL.out] at h3
        have := HB2.out
        omega
      exact ⟨false, rfl, ⟨(fun h => by cases h), fun h => absurd h HF⟩, rfl⟩
    · have HG := Lib.hid (show s.data.toList.head? = some 48 → s.data.toList.length = 1 from fun h => by
        rw [HH.out] at h
        injection h with h
        rw [HL.out]
        rcases Nat.lt_or_ge 1 s.size with e | e
        · exact absurd ⟨by rw [h]; rfl, e⟩ hbad
        · omega)
      have HX : ((s[0].toNat : Int) == 48) = false ∨ (((s[0].toNat : Int) == 48) = true ∧ ¬ (1 : Int) < (s.size : Int)) := by
        by_cases e : s[0].toNat = 48
        · exact .inr ⟨by simp [e], fun h => hbad ⟨e, by omega⟩⟩
        · exact .inl (by simp; omega)
      clear hbad HH
      rcases HX with h48 | ⟨h48, hle⟩
      all_goals
        go_enter Tryd.func67, Tryd.ntmps67
        go_wp2
        go_loopw [18] (fun s18 wr => ∃ (k : Nat), k ≤ s.size ∧ (∀ b ∈ s.data.toList.take k, isd b) ∧ s18 = .int .i64 (k : Int) ∧ wr = w) (fun s18 _ => s.size - (intOf s18).toNat)
        case atStart => exact ⟨0, Nat.zero_le _, fun b hb => by simp at hb, rfl, rfl⟩
        case round =>
          obtain ⟨k, hk, hv, rfl, rfl⟩ := hrel
          have HV := Lib.hid hv
          clear hv h48
          by_cases h1 : k < s.size
          · have hlen : k < s.data.toList.length := by rw [HL.out]; exact h1
            have ex : s.data.toList[k]'hlen = s[k] := by simp; rfl
            have HM := Lib.hid (show s[k] ∈ s.data.toList by rw [← ex]; exact List.getElem_mem hlen)
            have HT := Lib.hid (show s.data.toList.take (k + 1) = s.data.toList.take k ++ [s[k]] by rw [List.take_add_one, List.getElem?_eq_getElem hlen, ex]; rfl)
            clear ex
            rcases Nat.lt_or_ge s[k].toNat 48 with hb | hb
            · have hbi : (s[k].toNat : Int) < 48 := by omega
              have HF := Lib.hid (show ¬ decT s.data.toList from fun h => by have := (h.2.1 _ HM.out).1; omega)
              clear hb
              go_wp2
              go_ret
              exact ⟨false, rfl, ⟨(fun h => by cases h), fun h => absurd h HF.out⟩, rfl⟩
            · have hbi : ¬ (s[k].toNat : Int) < 48 := by omega
              rcases Nat.lt_or_ge 57 s[k].toNat with hc | hc
              · have hci : (57 : Int) < (s[k].toNat : Int) := by omega
                have HF := Lib.hid (show ¬ decT s.data.toList from fun h => by have := (h.2.1 _ HM.out).2; omega)
                clear hb hc
                go_wp2
                go_ret
                exact ⟨false, rfl, ⟨(fun h => by cases h), fun h => absurd h HF.out⟩, rfl⟩
              · have hci : ¬ (57 : Int) < (s[k].toNat : Int) := by omega
                have HI := Lib.hid (show isd s[k] from ⟨hb, hc⟩)
                clear hb hc
                go_wp2
                go_roundw
                case rel => exact ⟨k + 1, by omega, (fun b hb => by
                  rw [HT.out] at hb
                  rcases List.mem_append.1 hb with hb | hb
                  · exact HV.out b hb
                  · rw [List.mem_singleton.1 hb]; exact HI.out), by go_num, trivial⟩
                case measure => simp [intOf]; omega
          · obtain rfl : k = s.size := by omega
            have hlt : ¬ ((s.size : Int) < (s.size : Int)) := by omega
            have HF := Lib.hid (show decT s.data.toList from ⟨HNE.out, fun b hb => HV.out b (by rw [← HL.out, List.take_length]; exact hb), HG.out⟩)
            go_wp2
            go_ret
            exact ⟨true, rfl, ⟨(fun _ => HF.out), fun _ => rfl⟩, rfl⟩
end Go.Proofs.YtndkcimdbidgaaaDoor
