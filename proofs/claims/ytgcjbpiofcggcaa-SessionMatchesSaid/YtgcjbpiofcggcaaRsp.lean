/- The transactions of a script, by the reference. -/
import Derived.Test.YtgcjbpiofcggcaaSpl
namespace Go.Proofs.Ytgcjbpiofcggcaa
open Go.ChangeShapes Go.WideShapes Go.ChangeAt Go.RowKit Go.ChangeMaps

theorem scan_step (K : List Int) (j : Nat) (h : j < K.length) : scanF K (K.length - j) j = if isE (K.getD j 0) then j else scanF K (K.length - (j + 1)) (j + 1) := by
  rw [show K.length - j = (K.length - (j + 1)) + 1 by omega, scanF]
set_option maxRecDepth 100000 in
set_option maxHeartbeats 2000000 in
theorem RSplit_any (A : Option Addr) (n c : Nat) (K : List Int) (w : World) (hr : At w A n 1 (ic .i64 K)) (hn : n ≤ 300000000000) :
    Calls Try.prog 13 #[.slice A n c] w fun e w' => ∃ v, e = .returned v ∧ w'.ownsRow w.heap.size 31 2 v (splitM K).length (pC (splitM K)) ∧ Below w.heap.size w w' := by
  obtain ⟨i0, hi, hz0, hz1, hz2⟩ := info_parts Try.info31
  have HL := Lib.hid hr.int
  have HR := Lib.hid hr
  clear hr
  go_enter Try.func13, Try.ntmps13
  go_wp2
  go_loopw [3, 4] (fun v i wr => ∃ (k fu : Nat) (L : List (Nat × Nat)), k ≤ n ∧ i = .int .i64 k ∧ n - k ≤ fu ∧ splitM K = L ++ splitF K fu k ∧ L.length ≤ k ∧ wr.ownsRow w.heap.size 31 2 v L.length (pC L) ∧ Below w.heap.size w wr) (fun _ i _ => n - (intOf i).toNat)
  case atStart => exact ⟨0, n, [], Nat.zero_le _, rfl, by omega, by unfold splitM; rw [HL.out]; rfl, Nat.le_refl _, World.ownsRow_made w #[] 0 (Nat.le_refl _) (by decide) rfl, (Below.refl _ w).alloc (Nat.le_refl _) _⟩
  case round =>
    obtain ⟨i, fu, L, hk, rfl, hfu, hs, hl, hown, hB⟩ := hrel
    have HO := Lib.hid hown
    have HB := Lib.hid hB
    have HS := Lib.hid hs
    clear hown hB hs
    by_cases hlt : i < n
    · obtain ⟨g, hg, hstep⟩ := splitF_step K fu i (by rw [HL.out]; exact hlt) (by rw [HL.out]; exact hfu)
      have hbd := endM_bd K i (by rw [HL.out]; exact hlt)
      rw [HL.out] at hg hbd
      have H2 : Hid (splitM K = (L ++ [(i, endM K i)]) ++ splitF K g (endM K i + 1)) := Lib.hid (by rw [HS.out, hstep]; simp)
      have H3 := Lib.hid (pC_snoc L (i, endM K i))
      clear hstep
      obtain ⟨hb0, hb1⟩ := hbd
      obtain ⟨b, off, rfl, hb, hc⟩ := HR.out.2 (by omega)
      have HC : Hid (∀ j, j < n → wr.cell? ⟨b, off + j, none⟩ = some (.int .i64 (K.getD j 0))) := Lib.hid (fun j hj => (HB.out.cell (p := ⟨b, off + j, none⟩) hb).trans (hc j _ (ic_get _ _ _ (by rw [HL.out]; exact hj))))
      have hcell := HC.out i hlt
      clear hc hb
      by_cases h6 : K.getD i 0 = 6
      · have HE : Hid (endM K i = scanF K (n - (i + 1)) (i + 1)) := Lib.hid (by
          unfold endM; rw [if_pos h6, scan_step K i (by rw [HL.out]; exact hlt), h6, HL.out]; rfl)
        have HZ : Hid (scanF K (n - (n - 1 + 1)) (n - 1 + 1) = n - 1) := Lib.hid (by rw [show n - (n - 1 + 1) = 0 by omega, scanF, HL.out])
        have HT : Hid (∀ j, j < n → scanF K (n - j) j = if isE (K.getD j 0) then j else scanF K (n - (j + 1)) (j + 1)) := Lib.hid (fun j hj => by
          have := scan_step K j (by rw [HL.out]; exact hj); rwa [HL.out] at this)
        generalize endM K i = el at *
        rw [h6] at hcell
        clear h6
        go_wp2
        go_loop [5, 6] (fun l j => ∃ (k x : Nat), i ≤ k ∧ k < n ∧ j = .int .i64 (k : Int) ∧ l = .int .i64 (x : Int) ∧ scanF K (n - (k + 1)) (k + 1) = x) (fun _ j => (intOf j).toNat)
        case atStart => exact ⟨n - 1, n - 1, by omega, by omega, by go_num, by go_num, HZ.out⟩
        case round =>
          obtain ⟨k, x, hk1, hk2, rfl, rfl, hx⟩ := hrel
          have HX := Lib.hid hx
          clear hx
          by_cases hki : i < k
          · have hck := HC.out k hk2
            have HN := Lib.hid (HT.out k hk2)
            have HM : Hid (k - 1 + 1 = k) := Lib.hid (by omega)
            generalize hkk : K.getD k 0 = kk at *
            clear hkk
            by_cases h7 : kk = 7
            · subst h7
              have HY : Hid (scanF K (n - (k - 1 + 1)) (k - 1 + 1) = k) := Lib.hid (by rw [HM.out, HN.out]; rfl)
              go_wp2
              go_round
              case rel => exact ⟨k - 1, k, by omega, by omega, by go_num, rfl, HY.out⟩
              case measure => simp [intOf]; omega
            · by_cases h8 : kk = 8
              · subst h8
                have HY : Hid (scanF K (n - (k - 1 + 1)) (k - 1 + 1) = k) := Lib.hid (by rw [HM.out, HN.out]; rfl)
                clear h7
                go_wp2
                go_round
                case rel => exact ⟨k - 1, k, by omega, by omega, by go_num, rfl, HY.out⟩
                case measure => simp [intOf]; omega
              · have HY : Hid (scanF K (n - (k - 1 + 1)) (k - 1 + 1) = x) := Lib.hid (by rw [HM.out, HN.out, if_neg (by unfold isE; simp [h7, h8])]; exact HX.out)
                have q7 : (kk == 7) = false := by simpa using h7
                have q8 : (kk == 8) = false := by simpa using h8
                clear h7 h8
                go_wp2
                go_round
                case rel => exact ⟨k - 1, x, by omega, by omega, by go_num, rfl, HY.out⟩
                case measure => simp [intOf]; omega
          · obtain rfl : i = k := by omega
            obtain rfl : el = x := by rw [HE.out]; exact HX.out
            go_wp2_with (at_builtin; go_loud (refine wpList_append_own _ rfl _ _ 25 rfl w.heap.size 31 i0 (.agg #[.int .i64 0, .int .i64 0]) 2 16 Try.underlying25 hi hz0 hz1 hz2 rfl (by decide) _ _ _ rfl (HO.out.alloc _) ⟨wr.heap.size, 0, none⟩ 1 1 (pv (i, el)) rfl rfl ?c1 ?c2 ?c3 ?c4 ?c5 ?_))
            case c1 =>
              intro jj u hj
              unfold pv at hj
              match jj, hj with
              | 0, hj => simp at hj; subst hj; simp [Addr.add]
              | 1, hj => simp at hj; subst hj; simp [Addr.add]
            case c2 => intro u hu; simp only [pv, List.mem_cons, List.not_mem_nil, or_false] at hu; rcases hu with rfl | rfl <;> rfl
            case c3 => unfold maxLen; omega
            case c4 => omega
            case c5 => have := HB.out.size; simp; omega
            intro v' w1 hown' hgrow _
            have HB3 := Lib.hid ((HB.out.alloc (by have := HB.out.size; omega) _).grown hgrow (by have := HB.out.size; simp; omega) (fun j hj => (HO.out.lt j hj).1))
            have HO3 : Hid (w1.ownsRow w.heap.size 31 2 v' (L ++ [(i, el)]).length (pC (L ++ [(i, el)]))) := by
              refine Lib.hid ?_
              rw [H3.out, List.length_append]
              exact hown'
            have HL3 : Hid ((L ++ [(i, el)]).length ≤ el + 1) := Lib.hid (by simp; omega)
            clear hown' hgrow
            go_wp2
            go_roundw
            case rel => exact ⟨el + 1, g, L ++ [(i, el)], by omega, by go_num, hg, H2.out, HL3.out, HO3.out, HB3.out⟩
            case measure => simp [intOf]; omega
      · have HE : endM K i = i := by unfold endM; rw [if_neg h6]
        rw [HE] at hg H2 H3 hb0 hb1
        clear HE
        have q6 : (K.getD i 0 == 6) = false := by simpa using h6
        clear h6
        generalize K.getD i 0 = ki at *
        go_wp2_with (at_builtin; go_loud (refine wpList_append_own _ rfl _ _ 25 rfl w.heap.size 31 i0 (.agg #[.int .i64 0, .int .i64 0]) 2 16 Try.underlying25 hi hz0 hz1 hz2 rfl (by decide) _ _ _ rfl (HO.out.alloc _) ⟨wr.heap.size, 0, none⟩ 1 1 (pv (i, i)) rfl rfl ?c1 ?c2 ?c3 ?c4 ?c5 ?_))
        case c1 =>
          intro jj u hj
          unfold pv at hj
          match jj, hj with
          | 0, hj => simp at hj; subst hj; simp [Addr.add]
          | 1, hj => simp at hj; subst hj; simp [Addr.add]
        case c2 => intro u hu; simp only [pv, List.mem_cons, List.not_mem_nil, or_false] at hu; rcases hu with rfl | rfl <;> rfl
        case c3 => unfold maxLen; omega
        case c4 => omega
        case c5 => have := HB.out.size; simp; omega
        intro v' w1 hown' hgrow _
        have HB3 := Lib.hid ((HB.out.alloc (by have := HB.out.size; omega) _).grown hgrow (by have := HB.out.size; simp; omega) (fun j hj => (HO.out.lt j hj).1))
        have HO3 : Hid (w1.ownsRow w.heap.size 31 2 v' (L ++ [(i, i)]).length (pC (L ++ [(i, i)]))) := by
          refine Lib.hid ?_
          rw [H3.out, List.length_append]
          exact hown'
        have HL3 : Hid ((L ++ [(i, i)]).length ≤ i + 1) := Lib.hid (by simp; omega)
        clear hown' hgrow
        go_wp2
        go_roundw
        case rel => exact ⟨i + 1, g, L ++ [(i, i)], by omega, by go_num, hg, H2.out, HL3.out, HO3.out, HB3.out⟩
        case measure => simp [intOf]; omega
    · obtain rfl : i = n := by omega
      rw [splitF_done K fu i (by rw [HL.out]; exact Nat.le_refl _), List.append_nil] at HS
      go_wp2
      go_ret
      exact ⟨_, rfl, by rw [HS.out]; exact HO.out, HB.out⟩
end Go.Proofs.Ytgcjbpiofcggcaa
