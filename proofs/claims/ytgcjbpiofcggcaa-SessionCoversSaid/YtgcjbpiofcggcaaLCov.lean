/- Law SessionCovers: for every input the call returns true, and its arguments read afterwards as before. -/
import Derived.Test.YtgcjbpiofcggcaaOpn
import Derived.Test.YtgcjbpiofcggcaaAwk
namespace Go.Proofs.Ytgcjbpiofcggcaa
open Go.ChangeShapes Go.WideShapes Go.ChangeAt Go.RowKit Go.ChangeMaps

theorem sessionCovers_long (A : Option Addr) (n c : Nat) (K : List Int) (w : World) (hn : n ≤ 9223372036854775807) (h60 : 60 < n) :
    Calls Try.prog 4 #[.slice A n c] w fun e w' => e = .returned (.bool true) ∧ Below w.heap.size w w' := by
  go_enter Try.func4, Try.ntmps4
  go_wp2_with fail
  refine (awake_any _).mono ?_
  rintro e w1 ⟨rfl, hb1⟩
  go_wp2_with fail
  refine (awake_any _).mono ?_
  rintro e w2 ⟨rfl, hb2⟩
  go_wp2
  go_ret
  exact ⟨rfl, more_below hb1 hb2⟩
set_option maxRecDepth 100000 in
set_option maxHeartbeats 4000000 in
theorem sessionCovers_in (A : Option Addr) (n c : Nat) (K : List Int) (w : World) (hr : At w A n 1 (ic .i64 K)) (h60 : n ≤ 60) :
    Calls Try.prog 4 #[.slice A n c] w fun e w' => e = .returned (.bool true) ∧ Below w.heap.size w w' := by
  have HL := Lib.hid hr.int
  have HR := Lib.hid hr
  clear hr
  go_enter Try.func4, Try.ntmps4
  go_wp2_with fail
  refine (awake_any _).mono ?_
  rintro e w1 ⟨rfl, hb1⟩
  have HW := Lib.hid hb1
  clear hb1
  go_wp2_with fail
  refine (Script_New _ _ _ K w1 (HR.out.below HW.out) (by omega)).mono ?_
  rintro e w2 ⟨A2, c2, rfl, hA2, hc2, hn2, hb⟩
  have HW := Lib.hid (more_below HW.out hb)
  have HA := Lib.hid hA2
  have HC := Lib.hid hc2
  clear hb hA2 hc2 hn2
  go_wp2_with fail
  refine (Split_any _ _ _ K w2 HA.out HL.out (by omega) HC.out).mono ?_
  rintro e w3 ⟨v, rfl, ho, hb⟩
  obtain ⟨D, d, rfl, hD, _⟩ := At.of_own ho
  have HW := Lib.hid (more_below HW.out hb)
  have HD := Lib.hid hD
  have HT := Lib.hid (show (splitM K).length ≤ n by have := splitM_len K; rw [HL.out] at this; exact this)
  have htn : (splitM K).length ≤ 60 := by have := HT.out; omega
  have HE := Lib.hid (show fst_ n (splitM K) (splitM K).length = n from fst_end _ _)
  have HF := Lib.hid (show fst_ n (splitM K) 0 = 0 by have := (splitM_chain K).1; rwa [HL.out] at this)
  have HS : Hid (∀ k, k < (splitM K).length → ∃ s el, fst_ n (splitM K) k = s ∧ fst_ n (splitM K) (k + 1) = el + 1 ∧ (splitM K)[k]? = some (s, el) ∧ s ≤ el ∧ el < n ∧ (s < el → K.getD s 0 = 6) ∧ ∀ j, s ≤ j → j < el → isE (K.getD j 0) = false) := Lib.hid (fun k hk => by
    obtain ⟨h1, h2, h3⟩ := (splitM_chain K).2 k hk
    obtain ⟨h4, h5, h6⟩ := fs_facts hk
    rw [HL.out] at h1 h2 h3 h6
    refine ⟨fst_ n (splitM K) k, endM K (fst_ n (splitM K) k), rfl, h3, ?_, ?_, ?_, fun h => endM_begin K _ h, fun j hj hl => endM_no K _ (by rw [HL.out]; exact h2) j hj hl⟩
    · rw [h4]; unfold fs; rw [HL.out]
    · have := endM_bd K (fst_ n (splitM K) k) (by rw [HL.out]; exact h2); exact this.1
    · have := endM_bd K (fst_ n (splitM K) k) (by rw [HL.out]; exact h2); rw [HL.out] at this; exact this.2)
  clear hb ho hD HA HC
  have HPG : Hid (∀ k (h : k < (splitM K).length) s el, (splitM K)[k]? = some (s, el) → (pC (splitM K))[k * 2]? = some (.int .i64 (s : Int)) ∧ (pC (splitM K))[k * 2 + 1]? = some (.int .i64 (el : Int))) := Lib.hid (fun k h s el he => by
    rw [List.getElem?_eq_getElem h] at he
    injection he with he
    exact ⟨by rw [pC_get0 _ _ h, he], by rw [pC_get1 _ _ h, he]⟩)
  generalize hP : pC (splitM K) = PC at *
  clear hP
  generalize splitM K = T at *
  generalize T.length = t at *
  go_wp2_with fail
  go_loopw [3, 19] (fun v i wr => ∃ k : Nat, k ≤ t ∧ i = .int .i64 (k : Int) ∧ v = .int .i64 (fst_ n T k : Int) ∧ Below w3.heap.size w3 wr) (fun _ i _ => t - (intOf i).toNat)
  case atStart => exact ⟨0, Nat.zero_le _, rfl, by rw [HF.out]; rfl, Below.refl _ _⟩
  case round =>
    obtain ⟨k, hk, rfl, rfl, hB⟩ := hrel
    have HB := Lib.hid hB
    by_cases hlt : k < t
    · obtain ⟨s, el, e1, e2, e3, hse, hel, h6, hno⟩ := HS.out k hlt
      obtain ⟨z0, z1⟩ := HPG.out k hlt s el e3
      obtain ⟨b, off, rfl, hb, hc⟩ := HD.out.2 (by omega)
      have d0 := (hB.cell (p := ⟨b, off + k * 2, none⟩) hb).trans (hc _ _ z0)
      have d1 := (hB.cell (p := ⟨b, off + (k * 2 + 1), none⟩) hb).trans (hc _ _ z1)
      rw [← Nat.add_assoc] at d1
      obtain ⟨b0, off0, rfl, hb0, hc0⟩ := HR.out.2 (by omega)
      have HK : Hid (∀ j, j < n → (wr.alloc (.cells #[.int .i64 (s : Int), .int .i64 (el : Int)] 31)).cell? ⟨b0, off0 + j, none⟩ = some (.int .i64 (K.getD j 0))) := Lib.hid (fun j hj => pastcell ((hB.cell (p := ⟨b0, off0 + j, none⟩) (Nat.lt_of_lt_of_le hb0 HW.out.size)).trans ((HW.out.cell (p := ⟨b0, off0 + j, none⟩) hb0).trans (hc0 j _ (ic_get _ _ _ (by rw [HL.out]; exact hj))))))
      rw [e1]
      have E2 := Lib.hid e2
      have HN := Lib.hid hno
      clear hc hc0 z0 z1 e1 e2 e3 hno hB
      have HB2 := Lib.hid (HB.out.alloc HB.out.size (.cells #[.int .i64 (s : Int), .int .i64 (el : Int)] 31))
      rcases Nat.lt_or_ge s el with hsl | hsl
      · have ks : (wr.alloc (.cells #[.int .i64 (s : Int), .int .i64 (el : Int)] 31)).cell? ⟨b0, off0 + s, none⟩ = some (.int .i64 6) := by rw [← h6 hsl]; exact HK.out s (by omega)
        clear h6
        go_wp2
        go_loop [6] (fun i => ∃ j : Nat, s ≤ j ∧ j ≤ el ∧ i = .int .i64 (j : Int)) (fun i => el - (intOf i).toNat)
        case atStart => exact ⟨s, Nat.le_refl _, hse, rfl⟩
        case round =>
          obtain ⟨j, hj, hjl, rfl⟩ := hrel
          by_cases hjt : j < el
          · have hcell : (wr.alloc (.cells #[.int .i64 (s : Int), .int .i64 (el : Int)] 31)).cell? ⟨b0, off0 + j, none⟩ = some (.int .i64 (K.getD j 0)) := HK.out j (by omega)
            have hn := HN.out j hj hjt
            generalize K.getD j 0 = kj at *
            have q7 : (kj == 7) = false := by unfold isE at hn; simp only [Bool.or_eq_false_iff] at hn; exact hn.1
            have q8 : (kj == 8) = false := by unfold isE at hn; simp only [Bool.or_eq_false_iff] at hn; exact hn.2
            have HJ := Lib.hid (show j + 1 ≤ el from hjt)
            clear hn
            rcases Nat.eq_or_lt_of_le hj with h | h
            · subst h
              go_wp2
              go_round
              case rel => exact ⟨s + 1, by omega, HJ.out, by go_num⟩
              case measure => simp [intOf]; omega
            · go_wp2
              go_round
              case rel => exact ⟨j + 1, by omega, HJ.out, by go_num⟩
              case measure => simp [intOf]; omega
          · obtain rfl : j = el := by omega
            go_wp2
            go_roundw
            case rel => exact ⟨k + 1, by omega, by go_num, by rw [E2.out]; go_num, HB2.out⟩
            case measure => simp [intOf]; omega
      · obtain rfl : s = el := by omega
        clear h6
        go_wp2
        refine wp_loop_rounds 1 ?_
        rw [rounds_succ]
        go_wp2
        go_roundw
        case rel => exact ⟨k + 1, by omega, by go_num, by rw [E2.out]; go_num, HB2.out⟩
        case measure => simp [intOf]; omega
    · obtain rfl : k = t := by omega
      rw [HE.out]
      clear hB
      go_wp2
      go_ret
      exact ⟨rfl, more_below HW.out HB.out⟩
theorem sessionCovers_walk (A : Option Addr) (n c : Nat) (K : List Int) (w : World) (hr : At w A n 1 (ic .i64 K)) (hn : n ≤ 9223372036854775807) (_ : ∀ z ∈ K, -9223372036854775808 ≤ z ∧ z ≤ 9223372036854775807) :
    Calls Try.prog 4 #[.slice A n c] w fun e w' => e = .returned (.bool true) ∧ Below w.heap.size w w' := by
  by_cases h : n ≤ 60
  · exact sessionCovers_in A n c K w hr h
  · exact sessionCovers_long A n c K w hn (by omega)

set_option maxRecDepth 100000 in
theorem sessionCovers_lifted (os : Os) (started : os.Started) (H : Type) (enc : TypeId × Value → H) :
    ReturnsInHanded {} Try.checked os 4 .any (Rows.sessionCoversSpec.pre6 enc Try.prog Try.f4 Rows.sessionCoversRow.domain false) (Rows.sessionCoversSpec.post enc Try.prog Try.f4 false true false false) := by
  refine law_lifted (C := Try.checked) (B := 4) Try.own started (by kernel_rfl) Try.func4
    (ChangeSpec.witness6 (enc := enc) (C := Try.checked) false ⟨#[], #[.slice none 0 0], []⟩ 8 (by kernel_rfl) (by kernel_rfl) (by kernel_rfl) (by kernel_rfl))
    Try.laidOut (by kernel_rfl) rfl rfl rfl Try.underlying4 (fun ds h => match ds, h with | [_], _ => rfl) ?_
  intro W base args ds ps hval hA hlt hsz
  rw [Try.params4] at hA hval hsz
  obtain ⟨v0, vs0, d0, ds0, p0, q0, hargs, rfl, rfl, h0, r0⟩ := trodAll_cons hA
  obtain ⟨rfl, rfl, rfl⟩ := trodAll_nil r0
  obtain rfl : args = #[v0] := by cases args; simp_all
  obtain ⟨A0, n0, c0, R0, rfl, k0, l0, g0⟩ := open_intsA (hval 0 22 v0 rfl rfl) h0 (fun x hx => hlt x (by simp [hx]))
  exact sessionCovers_walk A0 n0 c0 R0 W k0 l0 g0

theorem sessionCovers_over : Rows.sessionCoversRow.holds Try.pinned (OpenSpec.ofChange Rows.sessionCoversSpec) :=
  OpenClaim.holds_of_wide 4 Try.f4 rfl rfl rfl rfl rfl rfl rfl ⟨rfl, rfl, rfl, rfl, rfl⟩ rfl rfl rfl rfl rfl (by kernel_rfl) Try.func4 (by kernel_rfl)
    (of_decide_eq_true (by kernel_rfl)) (by unfold Func.isWrapper; first | (rw [if_pos (by decide +kernel)]; kernel_rfl) | (rw [if_neg (by decide +kernel)]; exact ⟨rfl, rfl⟩))
    (fun os started H enc _ => sessionCovers_lifted os started H enc)

theorem sessionCovers_proved : Rows.SessionCoversSaid := sessionCovers_over
end Go.Proofs.Ytgcjbpiofcggcaa
