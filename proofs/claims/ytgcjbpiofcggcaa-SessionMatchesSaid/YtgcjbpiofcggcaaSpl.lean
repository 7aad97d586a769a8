/- The transactions of a script. -/
import Derived.Test.YtgcjbpiofcggcaaEnd
namespace Go.Proofs.Ytgcjbpiofcggcaa
open Go.ChangeShapes Go.WideShapes Go.ChangeAt Go.RowKit Go.ChangeMaps

set_option maxRecDepth 100000 in
set_option maxHeartbeats 1000000 in
theorem Split_any (A : Option Addr) (n c : Nat) (K : List Int) (w : World) (hr : At w A n 22 (stC K n)) (hL : K.length = n) (hn : n ≤ 300000000000) (hc : n ≤ c) :
    Calls Try.prog 11 #[.slice A n c] w fun e w' => ∃ v, e = .returned v ∧ w'.ownsRow w.heap.size 31 2 v (splitM K).length (pC (splitM K)) ∧ Below w.heap.size w w' := by
  obtain ⟨i0, hi, hz0, hz1, hz2⟩ := info_parts Try.info31
  have HL := Lib.hid hL
  have HR := Lib.hid hr
  have HC := Lib.hid hc
  clear hr hL hc
  go_enter Try.func11, Try.ntmps11
  go_wp2
  go_loopw [3, 4] (fun v i wr => ∃ (k fu : Nat) (L : List (Nat × Nat)), k ≤ n ∧ i = .int .i64 k ∧ n - k ≤ fu ∧ splitM K = L ++ splitF K fu k ∧ L.length ≤ k ∧ wr.ownsRow w.heap.size 31 2 v L.length (pC L) ∧ Below w.heap.size w wr) (fun _ i _ => n - (intOf i).toNat)
  case atStart => exact ⟨0, n, [], Nat.zero_le _, rfl, by omega, by unfold splitM; rw [HL.out]; rfl, Nat.le_refl _, World.ownsRow_nil _ _ _ _, Below.refl _ _⟩
  case round =>
    obtain ⟨k, fu, L, hk, rfl, hfu, hs, hl, hown, hB⟩ := hrel
    have HO := Lib.hid hown
    have HB := Lib.hid hB
    have HS := Lib.hid hs
    clear hown hB hs
    by_cases hlt : k < n
    · obtain ⟨g, hg, hstep⟩ := splitF_step K fu k (by rw [HL.out]; exact hlt) (by rw [HL.out]; exact hfu)
      have hbd := endM_bd K k (by rw [HL.out]; exact hlt)
      rw [HL.out] at hg hbd
      have H2 : Hid (splitM K = (L ++ [(k, endM K k)]) ++ splitF K g (endM K k + 1)) := Lib.hid (by rw [HS.out, hstep]; simp)
      have H3 := Lib.hid (pC_snoc L (k, endM K k))
      clear hstep
      have CE := Lib.hid (end_any A n c K k wr (HR.out.below HB.out) HL.out hn HC.out hlt)
      obtain ⟨hb0, hb1⟩ := hbd
      generalize hE : endM K k = el at *
      clear hE
      go_wp2_with (first | (go_at_call 25; (with_reducible refine CE.out.mono ?_); rintro e w2 ⟨rfl, hb2⟩; have HO2 := Lib.hid (own_below HO.out hb2); have HB2 := Lib.hid (HB.out.trans (hb2.mono HB.out.size)); clear hb2) | (at_builtin; go_loud (refine wpList_append_own _ rfl _ _ 25 rfl w.heap.size 31 i0 (.agg #[.int .i64 0, .int .i64 0]) 2 16 Try.underlying25 hi hz0 hz1 hz2 rfl (by decide) _ _ _ rfl (HO2.out.alloc _) ⟨w2.heap.size, 0, none⟩ 1 1 (pv (k, el)) rfl rfl ?c1 ?c2 ?c3 ?c4 ?c5 ?_)))
      case c1 =>
        intro jj u hj
        unfold pv at hj
        match jj, hj with
        | 0, hj => simp at hj; subst hj; simp [Addr.add]
        | 1, hj => simp at hj; subst hj; simp [Addr.add]
      case c2 => intro u hu; simp only [pv, List.mem_cons, List.not_mem_nil, or_false] at hu; rcases hu with rfl | rfl <;> rfl
      case c3 => unfold maxLen; omega
      case c4 => omega
      case c5 => have := HB2.out.size; simp; omega
      intro v' w1 hown' hgrow _
      have HB3 := Lib.hid ((HB2.out.alloc (by have := HB2.out.size; omega) _).grown hgrow (by have := HB2.out.size; simp; omega) (fun j hj => (HO2.out.lt j hj).1))
      have HO3 : Hid (w1.ownsRow w.heap.size 31 2 v' (L ++ [(k, el)]).length (pC (L ++ [(k, el)]))) := by
        refine Lib.hid ?_
        rw [H3.out, List.length_append]
        exact hown'
      have HL3 : Hid ((L ++ [(k, el)]).length ≤ el + 1) := Lib.hid (by simp; omega)
      clear hown' hgrow
      go_wp2
      go_roundw
      case rel => exact ⟨el + 1, g, L ++ [(k, el)], by omega, by go_num, hg, H2.out, HL3.out, HO3.out, HB3.out⟩
      case measure => simp [intOf]; omega
    · obtain rfl : k = n := by omega
      rw [splitF_done K fu k (by rw [HL.out]; exact Nat.le_refl _), List.append_nil] at HS
      go_wp2
      go_ret
      exact ⟨_, rfl, by rw [HS.out]; exact HO.out, HB.out⟩
end Go.Proofs.Ytgcjbpiofcggcaa
