/- Symbols, of the reference. -/
import Derived.Test.YtdkkflmhpncglaaDoorLxz
import Derived.Test.YtdkkflmhpncglaaDoorLxy
import Derived.BigQuiet
import Derived.Deep.QuietTactic
import Derived.Deep.Cut
namespace Go.Proofs.YtdkkflmhpncglaaDoor
open Go.ChangeShapes Go.WideShapes Go.ChangeAt Go.RowKit Go.ChangeMaps

theorem idx_mem (c : UInt8) : ∀ l : List UInt8, c ∈ l → 0 ≤ Lib.indexByte l c
  | a :: l, h => by
    unfold Lib.indexByte
    have hg := Lib.indexByte_ge l c
    by_cases e : (a == c) = true
    · rw [if_pos e]; omega
    · rw [if_neg e]
      have hc : c ∈ l := by
        rcases List.mem_cons.1 h with rfl | h
        · simp at e
        · exact h
      have := idx_mem c l hc
      rw [if_neg (by simp; omega)]
      omega
theorem idx_not (c : UInt8) : ∀ l : List UInt8, c ∉ l → Lib.indexByte l c = -1
  | [], _ => rfl
  | a :: l, h => by
    unfold Lib.indexByte
    have h1 : ¬ (a == c) = true := fun e => h (by rw [beq_iff_eq.1 e]; exact List.mem_cons_self)
    rw [if_neg h1, idx_not c l (fun hc => h (List.mem_cons_of_mem _ hc))]
    rfl
def symN (l : List UInt8) : Nat := if two l then 2 else if Lib.indexByte SYM (l.getD 0 0) < 0 then 0 else 1
set_option maxRecDepth 100000 in
set_option maxHeartbeats 2000000 in
theorem RSymbol_any (s : ByteArray) (p : Nat) (w : World) (hs : s.size ≤ 100000) (hp : p < s.size) : Calls Tryd.prog 47 #[.string s, .int .i64 (p : Int)] w fun e w' => e = .returned (.int .i64 (symN ((lst s).drop p) : Nat)) ∧ Below w.heap.size w w' := by
  have HL := Lib.hid (lst_len s)
  have HR0 := Lib.hid (show symN ((lst s).drop p) = if two ((lst s).drop p) then 2 else if Lib.indexByte SYM s[p] < 0 then 0 else 1 by
    have h0 : p < (lst s).length := by rw [lst_len]; exact hp
    have e0 : ((lst s).drop p).getD 0 0 = s[p] := by rw [← lst_get s p hp h0]; simp [List.getD, List.getElem?_eq_getElem h0]
    unfold symN
    rw [e0])
  obtain ⟨res, hres⟩ : ∃ z, symN ((lst s).drop p) = z := ⟨_, rfl⟩
  rw [hres] at HR0
  rw [hres]
  clear hres
  obtain ⟨q, hq⟩ : ∃ q : ByteArray, q = ⟨#[40, 41, 44, 59, 46, 42, 43, 45, 47, 37, 61, 60, 62]⟩ := ⟨_, rfl⟩
  have HQ0 := Lib.hid hq
  have HQS := Lib.hid (show q.size = 13 by rw [hq]; rfl)
  have HQL := Lib.hid (show lst q = SYM by rw [hq]; rfl)
  clear hq
  have hpi : (p : Int) < s.size := by omega
  have hp0 : (0 : Int) ≤ (p : Int) := by omega
  have hw1 : IntKind.i64.wrap ((p : Int) + 1) = (p : Int) + 1 := by rw [IntKind.wrap_i64]; omega
  have hw2 : IntKind.i64.wrap ((p : Int) + 2) = (p : Int) + 2 := by rw [IntKind.wrap_i64]; omega
  by_cases h1 : p + 1 < s.size
  · have hq1 : (p : Int) + 1 < s.size := by omega
    have hq2 : (p : Int) + 2 ≤ s.size := by omega
    have HEL := Lib.hid (show (s.extract p (p + 2)).toList = ((lst s).drop p).take 2 by rw [tol, lst_extract, show p + 2 - p = 2 by omega])
    have HT0 := Lib.hid (show two ((lst s).drop p) = (((lst s).drop p).take 2 == [60, 62] || ((lst s).drop p).take 2 == [60, 61] || ((lst s).drop p).take 2 == [62, 61]) by unfold two; rw [decide_eq_true (by rw [List.length_drop, HL.out]; omega)]; exact Bool.true_and _)
    cases b1 : (((lst s).drop p).take 2 == [60, 62])
    · cases b2 : (((lst s).drop p).take 2 == [60, 61])
      · cases b3 : (((lst s).drop p).take 2 == [62, 61])
        · have HT := Lib.hid (show two ((lst s).drop p) = false by rw [HT0.out, b1, b2, b3]; rfl)
          rw [← HEL.out] at b1 b2 b3
          go_enter Tryd.func47, Tryd.ntmps47
          have HR := Lib.hid (show res = if Lib.indexByte SYM s[p] < 0 then 0 else 1 by rw [HR0.out, if_neg (by rw [HT.out]; decide)])
          clear HR0
          go_wp2
          rw [← HQ0.out]
          go_loopw [7] (fun s7 wr => ∃ k : Nat, s7 = .int .i64 (k : Int) ∧ k ≤ 13 ∧ (∀ j (hj : j < SYM.length), j < k → SYM[j] ≠ s[p]) ∧ Below w.heap.size w wr) (fun s7 _ => 13 - (intOf s7).toNat)
          case atStart => exact ⟨0, rfl, Nat.zero_le _, fun j _ hj => absurd hj (Nat.not_lt_zero _), Below.refl _ _⟩
          case round =>
            obtain ⟨k, rfl, hkn, hE, hB⟩ := hrel
            have HE := Lib.hid hE
            have HB := Lib.hid hB
            clear hE hB
            have hk0 : (0 : Int) ≤ (k : Int) := by omega
            have hqs := HQS.out
            by_cases hlt : k < 13
            · have hki : (k : Int) < 13 := by omega
              have hkq : k < q.size := by rw [hqs]; exact hlt
              have hkl : k < SYM.length := hlt
              have HQK := Lib.hid (show q[k] = SYM[k] by
                have h0 : k < (lst q).length := by rw [lst_len]; exact hkq
                rw [← lst_get q k hkq h0]
                simp only [HQL.out])
              cases hc : ((q[k].toNat : Int) == (s[p].toNat : Int))
              · have HNE := Lib.hid (show SYM[k] ≠ s[p] from fun e => by
                  rw [← HQK.out] at e
                  rw [e] at hc
                  simp at hc)
                go_upto_region 9 with fail
                go_quiet (fail)
                go_wp2
                go_roundw
                case rel => exact ⟨k + 1, by go_num, hlt, fun j hj hjk => by
                  rcases Nat.lt_or_ge j k with h | h
                  · exact HE.out j hj h
                  · obtain rfl : j = k := by omega
                    exact HNE.out, by first | exact HB.out | exact below_drew HB.out | exact HB.out.drewN _ | exact below_drewN HB.out⟩
                case measure => simp only [intOf]; omega
              · have HF := Lib.hid (show 1 = res by
                  rw [HR.out, if_neg (by
                    have e : SYM[k] = s[p] := by
                      rw [← HQK.out, ← UInt8.toNat_inj]
                      have := beq_iff_eq.1 hc
                      omega
                    have := idx_mem s[p] SYM (by rw [← e]; exact List.getElem_mem hkl)
                    omega)])
                go_upto_region 9 with fail
                go_quiet (fail)
                go_wp2
                go_ret
                exact ⟨by rw [← HF.out]; rfl, by first | exact HB.out | exact below_drew HB.out | exact HB.out.drewN _ | exact below_drewN HB.out⟩
            · obtain rfl : k = 13 := by omega
              have HF := Lib.hid (show 0 = res by
                rw [HR.out, if_pos (by
                  rw [idx_not s[p] SYM (fun hm => by
                    obtain ⟨j, hj, e⟩ := List.getElem_of_mem hm
                    exact HE.out j hj hj e)]
                  decide)])
              go_wp2
              go_ret
              exact ⟨by rw [← HF.out]; rfl, HB.out⟩
        · have HT := Lib.hid (show two ((lst s).drop p) = true by rw [HT0.out, b1, b2, b3]; rfl)
          rw [← HEL.out] at b1 b2 b3
          go_enter Tryd.func47, Tryd.ntmps47
          have HF := Lib.hid (show 2 = res by rw [HR0.out, if_pos HT.out])
          go_wp2
          go_ret
          exact ⟨by rw [← HF.out]; rfl, Below.refl _ _⟩
      · have HT := Lib.hid (show two ((lst s).drop p) = true by rw [HT0.out, b1, b2]; rfl)
        rw [← HEL.out] at b1 b2
        go_enter Tryd.func47, Tryd.ntmps47
        have HF := Lib.hid (show 2 = res by rw [HR0.out, if_pos HT.out])
        go_wp2
        go_ret
        exact ⟨by rw [← HF.out]; rfl, Below.refl _ _⟩
    · have HT := Lib.hid (show two ((lst s).drop p) = true by rw [HT0.out, b1]; rfl)
      rw [← HEL.out] at b1
      go_enter Tryd.func47, Tryd.ntmps47
      have HF := Lib.hid (show 2 = res by rw [HR0.out, if_pos HT.out])
      go_wp2
      go_ret
      exact ⟨by rw [← HF.out]; rfl, Below.refl _ _⟩
  · have hq1 : ¬ (p : Int) + 1 < s.size := by omega
    have HT := Lib.hid (show two ((lst s).drop p) = false by unfold two; rw [decide_eq_false (by rw [List.length_drop, HL.out]; omega)]; rfl)
    go_enter Tryd.func47, Tryd.ntmps47
    have HR := Lib.hid (show res = if Lib.indexByte SYM s[p] < 0 then 0 else 1 by rw [HR0.out, if_neg (by rw [HT.out]; decide)])
    clear HR0
    go_wp2
    rw [← HQ0.out]
    go_loopw [7] (fun s7 wr => ∃ k : Nat, s7 = .int .i64 (k : Int) ∧ k ≤ 13 ∧ (∀ j (hj : j < SYM.length), j < k → SYM[j] ≠ s[p]) ∧ Below w.heap.size w wr) (fun s7 _ => 13 - (intOf s7).toNat)
    case atStart => exact ⟨0, rfl, Nat.zero_le _, fun j _ hj => absurd hj (Nat.not_lt_zero _), Below.refl _ _⟩
    case round =>
      obtain ⟨k, rfl, hkn, hE, hB⟩ := hrel
      have HE := Lib.hid hE
      have HB := Lib.hid hB
      clear hE hB
      have hk0 : (0 : Int) ≤ (k : Int) := by omega
      have hqs := HQS.out
      by_cases hlt : k < 13
      · have hki : (k : Int) < 13 := by omega
        have hkq : k < q.size := by rw [hqs]; exact hlt
        have hkl : k < SYM.length := hlt
        have HQK := Lib.hid (show q[k] = SYM[k] by
          have h0 : k < (lst q).length := by rw [lst_len]; exact hkq
          rw [← lst_get q k hkq h0]
          simp only [HQL.out])
        cases hc : ((q[k].toNat : Int) == (s[p].toNat : Int))
        · have HNE := Lib.hid (show SYM[k] ≠ s[p] from fun e => by
            rw [← HQK.out] at e
            rw [e] at hc
            simp at hc)
          go_upto_region 9 with fail
          go_quiet (fail)
          go_wp2
          go_roundw
          case rel => exact ⟨k + 1, by go_num, hlt, fun j hj hjk => by
            rcases Nat.lt_or_ge j k with h | h
            · exact HE.out j hj h
            · obtain rfl : j = k := by omega
              exact HNE.out, by first | exact HB.out | exact below_drew HB.out | exact HB.out.drewN _ | exact below_drewN HB.out⟩
          case measure => simp only [intOf]; omega
        · have HF := Lib.hid (show 1 = res by
            rw [HR.out, if_neg (by
              have e : SYM[k] = s[p] := by
                rw [← HQK.out, ← UInt8.toNat_inj]
                have := beq_iff_eq.1 hc
                omega
              have := idx_mem s[p] SYM (by rw [← e]; exact List.getElem_mem hkl)
              omega)])
          go_upto_region 9 with fail
          go_quiet (fail)
          go_wp2
          go_ret
          exact ⟨by rw [← HF.out]; rfl, by first | exact HB.out | exact below_drew HB.out | exact HB.out.drewN _ | exact below_drewN HB.out⟩
      · obtain rfl : k = 13 := by omega
        have HF := Lib.hid (show 0 = res by
          rw [HR.out, if_pos (by
            rw [idx_not s[p] SYM (fun hm => by
              obtain ⟨j, hj, e⟩ := List.getElem_of_mem hm
              exact HE.out j hj hj e)]
            decide)])
        go_wp2
        go_ret
        exact ⟨by rw [← HF.out]; rfl, HB.out⟩
end Go.Proofs.YtdkkflmhpncglaaDoor
