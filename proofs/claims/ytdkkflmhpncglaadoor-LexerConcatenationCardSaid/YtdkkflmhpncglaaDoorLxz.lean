/- The literal of the reference; Unquote. -/
import Derived.Test.YtdkkflmhpncglaaDoorLxv
namespace Go.Proofs.YtdkkflmhpncglaaDoor
open Go.ChangeShapes Go.WideShapes Go.ChangeAt Go.RowKit Go.ChangeMaps

def litV : Option (List UInt8 × Nat) → Value
  | none => .tuple #[.string ⟨#[]⟩, .int .i64 (-1)]
  | some x => .tuple #[.string ⟨x.1.toArray⟩, .int .i64 (x.2 : Int)]
theorem cat_one (o s : ByteArray) (k : Nat) (hk : k < (lst s).length) : lst (o ++ s.extract k (k + 1)) = lst o ++ [(lst s)[k]] := by
  have e : lst (s.extract k (k + 1)) = [(lst s)[k]] := by
    rw [lst_extract, show k + 1 - k = 1 by omega, List.drop_eq_getElem_cons hk]
    rfl
  rw [← e]
  simp [lst]
theorem cat_size (o s : ByteArray) (k : Nat) (hk : k < s.size) : (o ++ s.extract k (k + 1)).size = o.size + 1 := by
  rw [ByteArray.size_append, ByteArray.size_extract]
  omega
set_option maxRecDepth 100000 in
set_option maxHeartbeats 2000000 in
theorem literal_any (s : ByteArray) (p : Nat) (w : World) (hs : s.size ≤ 100000) (hp : p < s.size) : Calls Tryd.prog 36 #[.string s, .int .i64 (p : Int)] w fun e w' => e = .returned (litV (litP (lst s) (p + 1) [])) ∧ w' = w := by
  have HL := Lib.hid (lst_len s)
  obtain ⟨R, hR⟩ : ∃ R, litP (lst s) (p + 1) [] = R := ⟨_, rfl⟩
  rw [hR]
  have HR := Lib.hid hR
  clear hR
  obtain ⟨V, hV⟩ : ∃ V, litV R = V := ⟨_, rfl⟩
  rw [hV]
  have HV := Lib.hid hV
  clear hV
  have hw1 : IntKind.i64.wrap ((p : Int) + 1) = (p : Int) + 1 := by rw [IntKind.wrap_i64]; omega
  go_enter Tryd.func36, Tryd.ntmps36
  go_wp2
  go_loop [6, 7] (fun s6 s7 => ∃ (o : ByteArray) (k : Nat), k ≤ s.size ∧ o.size ≤ k ∧ s6 = .string o ∧ s7 = .int .i64 (k : Int) ∧ litP (lst s) k (lst o) = R) (fun _ s7 => s.size - (intOf s7).toNat)
  case atStart => exact ⟨⟨#[]⟩, p + 1, by omega, Nat.zero_le _, rfl, by go_num, HR.out⟩
  case round =>
    obtain ⟨o, k, hkn, ho, rfl, rfl, hE⟩ := hrel
    have HE := Lib.hid hE
    clear hE
    have hk0 : (0 : Int) ≤ (k : Int) := by omega
    have hkn2 : (k : Int) ≤ s.size := by omega
    by_cases hlt : k < s.size
    · have hkl : k < (lst s).length := by rw [HL.out]; exact hlt
      have hki : (k : Int) < s.size := by omega
      have HG := Lib.hid (lst_get s k hlt hkl)
      have hwk : IntKind.i64.wrap ((k : Int) + 1) = (k : Int) + 1 := by rw [IntKind.wrap_i64]; omega
      cases h32 : decide ((32 : Int) ≤ s[k].toNat)
      · have HN := Lib.hid (show none = R by rw [← HE.out, litP_bad _ k _ hkl (by rw [HG.out]; unfold prtN; rw [h32]; rfl)])
        go_wp2
        go_ret2
        rw [← HV.out, ← HN.out]
        exact ⟨rfl, rfl⟩
      · cases h126 : decide ((s[k].toNat : Int) ≤ 126)
        · have HN := Lib.hid (show none = R by rw [← HE.out, litP_bad _ k _ hkl (by rw [HG.out]; unfold prtN; rw [h32, h126]; rfl)])
          go_wp2
          go_ret2
          rw [← HV.out, ← HN.out]
          exact ⟨rfl, rfl⟩
        · have HPR := Lib.hid (show prtN (lst s)[k].toNat = true by rw [HG.out]; unfold prtN; rw [h32, h126]; rfl)
          cases hq : ((s[k].toNat : Int) == 39)
          · have HC := Lib.hid (show (lst s)[k] ≠ 39 by rw [HG.out]; intro e; have := (quo_iff _).1 e; rw [this] at hq; exact absurd hq (by decide))
            have HQ := Lib.hid (show litP (lst s) (k + 1) (lst (o ++ s.extract k (k + 1))) = R by rw [cat_one o s k hkl, ← litP_one _ k _ hkl HPR.out HC.out]; exact HE.out)
            have HZ := Lib.hid (cat_size o s k hlt)
            go_wp2
            go_round
            case rel => exact ⟨o ++ s.extract k (k + 1), k + 1, hlt, by rw [HZ.out]; omega, rfl, by go_num, HQ.out⟩
            case measure => simp [intOf]; omega
          · have HC := Lib.hid (show (lst s)[k] = 39 by rw [HG.out]; exact (quo_iff _).2 (beq_iff_eq.1 hq))
            by_cases hl2 : k + 1 < s.size
            · have hkl2 : k + 1 < (lst s).length := by rw [HL.out]; exact hl2
              have hki2 : (k : Int) + 1 < s.size := by omega
              have hkne : ((k : Int) + 1 == (s.size : Int)) = false := by simp; omega
              have HG2 := Lib.hid (lst_get s (k + 1) hl2 hkl2)
              have HD2 := Lib.hid (show ((lst s).drop (k + 1)).head? = some (lst s)[k + 1] by rw [List.drop_eq_getElem_cons hkl2]; rfl)
              cases hq2 : ((s[k + 1].toNat : Int) == 39)
              · have HST := Lib.hid (show some (lst o, k + 1) = R by
                  rw [← HE.out, litP_stop _ k _ hkl HC.out (by
                    rw [HD2.out, HG2.out]
                    intro e
                    have := (quo_iff _).1 (Option.some.inj e)
                    rw [this] at hq2
                    exact absurd hq2 (by decide))])
                have HO := Lib.hid (of_lst o)
                go_wp2
                go_ret2
                rw [← HV.out, ← HST.out]
                exact ⟨by unfold litV; simp only [HO.out]; rfl, rfl⟩
              · have HC2 := Lib.hid (show (lst s)[k + 1] = 39 by rw [HG2.out]; exact (quo_iff _).2 (beq_iff_eq.1 hq2))
                have HQ := Lib.hid (show litP (lst s) (k + 1 + 1) (lst (o ++ s.extract (k + 1) (k + 1 + 1))) = R by
                  rw [cat_one o s (k + 1) hkl2, HC2.out, ← litP_two _ k _ hkl HC.out (by rw [HD2.out, HC2.out])]; exact HE.out)
                have HZ := Lib.hid (cat_size o s (k + 1) hl2)
                have hwk2 : IntKind.i64.wrap ((k : Int) + 1 + 1) = (k : Int) + 1 + 1 := by rw [IntKind.wrap_i64]; omega
                go_wp2
                go_round
                case rel => exact ⟨o ++ s.extract (k + 1) (k + 1 + 1), k + 1 + 1, by omega, by rw [HZ.out]; omega, rfl, by go_num, HQ.out⟩
                case measure => simp [intOf]; omega
            · have hkne : ((k : Int) + 1 == (s.size : Int)) = true := by simp; omega
              have HST := Lib.hid (show some (lst o, k + 1) = R by
                rw [← HE.out, litP_stop _ k _ hkl HC.out (by rw [List.drop_eq_nil_of_le (by rw [HL.out]; omega)]; intro e; cases e)])
              have HO := Lib.hid (of_lst o)
              go_wp2
              go_ret2
              rw [← HV.out, ← HST.out]
              exact ⟨by unfold litV; simp only [HO.out]; rfl, rfl⟩
    · have hle : ¬ (k : Int) < s.size := by omega
      have HN := Lib.hid (show none = R by rw [← HE.out, litP_end _ k _ (by rw [HL.out]; omega)])
      go_wp2
      go_ret2
      rw [← HV.out, ← HN.out]
      exact ⟨rfl, rfl⟩
end Go.Proofs.YtdkkflmhpncglaaDoor
