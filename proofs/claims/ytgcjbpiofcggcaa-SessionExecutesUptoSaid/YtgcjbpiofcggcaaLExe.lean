/- Law SessionExecutes, where the arguments are of bulk at most 1048576: for every such input the call returns true, and its arguments read afterwards as before. -/
import Derived.Test.YtgcjbpiofcggcaaNum
import Derived.Test.YtgcjbpiofcggcaaSta
import Derived.Test.YtgcjbpiofcggcaaUpt
namespace Go.Proofs.Ytgcjbpiofcggcaa
open Go.ChangeShapes Go.WideShapes Go.ChangeAt Go.RowKit Go.ChangeMaps

set_option maxRecDepth 100000 in
set_option maxHeartbeats 4000000 in
theorem sessionExecutes_walk (x : Int) (A : Option Addr) (n c : Nat) (K : List Int) (w : World) (hx : 0 ≤ x) (hx2 : x ≤ 255) (hr : At w A n 1 (ic .i64 K)) (hn : n ≤ 1048576) (_ : ∀ z ∈ K, -9223372036854775808 ≤ z ∧ z ≤ 9223372036854775807) :
    Calls Try.prog 6 #[.int .u8 x, .slice A n c] w fun e w' => e = .returned (.bool true) ∧ Below w.heap.size w w' := by
  have HL := Lib.hid hr.int
  have HR := Lib.hid hr
  obtain ⟨num, hnum, hxn⟩ := new_rem x (by omega)
  have HX := Lib.hid hxn
  clear hr hxn
  go_enter Try.func6, Try.ntmps6
  go_wp2_with fail
  refine (Script_New _ _ _ K w HR.out (by omega)).mono ?_
  rintro e w2 ⟨A2, c2, rfl, hA2, hc2, hn2, hb⟩
  have HW := Lib.hid hb
  have HA := Lib.hid hA2
  have HC := Lib.hid hc2
  have HN := Lib.hid hn2
  clear hb hA2 hc2 hn2
  go_wp2_with fail
  refine (New_at _ num HX.out _ _ _ K w2 HA.out HL.out (by omega) HC.out HN.out hnum).mono ?_
  rintro e w3 ⟨p, rfl, hs, hb⟩
  have hp : w.heap.size ≤ p := by have h1 := HW.out.size; obtain ⟨_, _, _, h2, _⟩ := hs; omega
  have HW := Lib.hid (HW.out.trans (hb.mono HW.out.size))
  have HS := Lib.hid hs
  clear hb hs HA HC HN
  go_wp2_with fail
  refine (awake_any _).mono ?_
  rintro e w4 ⟨rfl, hb⟩
  have HW := Lib.hid (HW.out.trans (hb.mono HW.out.size))
  have HS := Lib.hid (HS.out.below hb)
  clear hb
  by_cases h60 : n ≤ 60
  · have HT := Lib.hid (show (splitM K).length ≤ n by have := splitM_len K; rw [HL.out] at this; exact this)
    have HE := Lib.hid (show fst_ n (splitM K) (splitM K).length = n from fst_end _ _)
    have HF := Lib.hid (show fst_ n (splitM K) 0 = 0 by have := (splitM_chain K).1; rwa [HL.out] at this)
    have HQ : Hid (∀ k, k < (splitM K).length → fst_ n (splitM K) k ≤ endM K (fst_ n (splitM K) k) ∧ endM K (fst_ n (splitM K) k) < n ∧ fst_ n (splitM K) (k + 1) = endM K (fst_ n (splitM K) k) + 1 ∧ ∀ ex, nx K k ex = if fst_ n (splitM K) k + ex ≤ endM K (fst_ n (splitM K) k) then (fst_ n (splitM K) k + ex, true) else (endM K (fst_ n (splitM K) k), false)) := Lib.hid (fun k hk => by
      obtain ⟨h1, h2, h3⟩ := (splitM_chain K).2 k hk
      obtain ⟨h4, h5, h6⟩ := fs_facts hk
      unfold fs at h5 h6
      rw [HL.out] at h1 h2 h3 h5 h6
      refine ⟨h5, h6, h3, fun ex => ?_⟩
      unfold nx fs
      rw [if_pos hk, HL.out])
    generalize fst_ n (splitM K) = F at *
    obtain ⟨t, hTT⟩ : ∃ t, (splitM K).length = t := ⟨_, rfl⟩
    rw [hTT] at HT HE HQ
    have HTT := Lib.hid hTT
    clear hTT
    go_wp2
    go_loopw [6, 30] (fun m i wr => ∃ k : Nat, k ≤ t ∧ i = .int .i64 (k : Int) ∧ m = .int .i64 (F k : Int) ∧ Ses wr w2.heap.size (p + 1) p num K k 0 ∧ Below w.heap.size w wr) (fun _ i _ => n + 1 - (intOf i).toNat)
    case atStart => exact ⟨0, Nat.zero_le _, rfl, by rw [HF.out]; rfl, HS.out, HW.out⟩
    case round =>
      obtain ⟨k, hk, rfl, rfl, hS, hB⟩ := hrel
      have HS := Lib.hid hS
      have HB := Lib.hid hB
      clear hS hB
      have htn : k < n + 1 := by have := HT.out; omega
      have hti : (k : Int) < (n : Int) + 1 := by omega
      by_cases hlt : k < t
      · obtain ⟨q1, q2, q3, q4⟩ := HQ.out k hlt
        generalize endM K (F k) = el at *
        have HQ3 := Lib.hid q3
        have HQ4 := Lib.hid q4
        clear q3 q4
        have HD : Hid (decide (k = (splitM K).length) = false) := Lib.hid (by rw [HTT.out]; simp; omega)
        go_wp2_with fail
        refine (done_at _ _ _ _ _ _ _ _ HS.out false HD.out).mono ?_
        rintro e v0 ⟨rfl, hb⟩
        have HB := Lib.hid (HB.out.trans (hb.mono HB.out.size))
        have HS := Lib.hid (HS.out.below hb)
        clear hb
        go_wp2_with fail
        go_loopw [6, 37] (fun m i wr => ∃ j : Nat, F k + j ≤ el + 1 ∧ i = .int .i64 (j : Int) ∧ m = .int .i64 ((F k + j : Nat) : Int) ∧ Ses wr w2.heap.size (p + 1) p num K k j ∧ Below w.heap.size w wr) (fun _ i _ => n + 1 - (intOf i).toNat)
        case atStart => exact ⟨0, by omega, rfl, rfl, HS.out, HB.out⟩
        case round =>
          obtain ⟨j, hj, rfl, rfl, hS, hB⟩ := hrel
          have HS := Lib.hid hS
          have HB := Lib.hid hB
          clear hS hB
          have htj : (j : Int) < (n : Int) + 1 := by omega
          by_cases hje : F k + j ≤ el
          · have HNX : Hid (nx K k j = (F k + j, true)) := Lib.hid (by rw [HQ4.out, if_pos hje])
            go_wp2_with fail
            refine (stm_yes _ _ _ _ _ _ _ _ HS.out _ HNX.out).mono ?_
            rintro e v1 ⟨cs, rfl, hcz, hca, hc20, -, hb⟩
            have HB := Lib.hid (HB.out.trans (hb.mono HB.out.size))
            have HS := Lib.hid (HS.out.below hb)
            have hcz := Lib.hid hcz
            have hca := Lib.hid hca
            clear hb
            obtain ⟨hl20, h20⟩ := Array.getElem?_eq_some_iff.1 hc20
            rw [show ((F k + j : Nat) : Int) = (F k : Int) + (j : Int) by omega] at h20
            clear hc20
            go_wp2_with (refine wpList_store_new (op := ⟨none, _, _, _, _, _⟩) rfl 56 _ _ rfl v1 _ cs rfl rfl (by rw [hcz.out]; exact size56) (by rw [hcz.out]; rfl) hca.out ?_)
            have HB := Lib.hid (HB.out.alloc HB.out.size (.cells cs 56))
            have HS := Lib.hid (HS.out.below ((Below.refl _ v1).alloc (Nat.le_refl _) (.cells cs 56)))
            refine (adv_at _ _ _ _ _ _ _ _ HS.out (j + 1) (adv_yes HNX.out)).mono ?_
            rintro e v2 ⟨rfl, hg, hs⟩
            have HB := Lib.hid (upd_below2 HB.out hp hg HB.out.size)
            have HS := Lib.hid hs
            clear hg hs
            go_wp2
            go_roundw
            case rel => exact ⟨j + 1, by omega, by go_num, by go_num, HS.out, HB.out⟩
            case measure => simp [intOf]; omega
          · have HNX : Hid ((nx K k j).2 = false) := Lib.hid (by rw [HQ4.out, if_neg hje])
            have HLT : Hid (k < (splitM K).length) := Lib.hid (by rw [HTT.out]; exact hlt)
            have HE3 : Hid (F k + j = F (k + 1)) := Lib.hid (by rw [HQ3.out]; omega)
            go_wp2_with fail
            refine (stm_no _ _ _ _ _ _ _ _ HS.out HNX.out).mono ?_
            rintro e v1 ⟨cs, rfl, hcz, hca, hc20, -, hb⟩
            have HB := Lib.hid (HB.out.trans (hb.mono HB.out.size))
            have HS := Lib.hid (HS.out.below hb)
            have hcz := Lib.hid hcz
            have hca := Lib.hid hca
            clear hb
            go_wp2_with (refine wpList_store_new (op := ⟨none, _, _, _, _, _⟩) rfl 56 _ _ rfl v1 _ cs rfl rfl (by rw [hcz.out]; exact size56) (by rw [hcz.out]; rfl) hca.out ?_)
            have HB := Lib.hid (HB.out.alloc HB.out.size (.cells cs 56))
            have HS := Lib.hid (HS.out.below ((Below.refl _ v1).alloc (Nat.le_refl _) (.cells cs 56)))
            refine (fin_at _ _ _ _ _ _ _ _ HS.out (k + 1) 0 (fin_in HLT.out)).mono ?_
            rintro e v2 ⟨rfl, hg, hs⟩
            have HB := Lib.hid (upd_below2 HB.out hp hg HB.out.size)
            have HS := Lib.hid hs
            clear hg hs
            go_wp2
            go_roundw
            case rel => exact ⟨k + 1, by omega, by go_num, by rw [← HE3.out]; simp, HS.out, HB.out⟩
            case measure => simp [intOf]; omega
      · obtain rfl : k = t := by omega
        have HD : Hid (decide (k = (splitM K).length) = true) := Lib.hid (by rw [HTT.out]; simp)
        go_wp2_with fail
        refine (done_at _ _ _ _ _ _ _ _ HS.out true HD.out).mono ?_
        rintro e v0 ⟨rfl, hb⟩
        have HB := Lib.hid (HB.out.trans (hb.mono HB.out.size))
        have HS := Lib.hid (HS.out.below hb)
        clear hb
        rw [HE.out]
        go_wp2_with fail
        refine (done_at _ _ _ _ _ _ _ _ HS.out true HD.out).mono ?_
        rintro e v1 ⟨rfl, hb⟩
        have HB := Lib.hid (HB.out.trans (hb.mono HB.out.size))
        clear hb
        go_wp2
        go_ret
        exact ⟨rfl, HB.out⟩
  · go_wp2_with fail
    refine (awake_any _).mono ?_
    rintro e w5 ⟨rfl, hb⟩
    have HW := Lib.hid (HW.out.trans (hb.mono HW.out.size))
    clear hb
    go_wp2
    go_ret
    exact ⟨rfl, HW.out⟩

set_option maxRecDepth 100000 in
theorem sessionExecutes_lifted (os : Os) (started : os.Started) (H : Type) (enc : TypeId × Value → H) (F : Stop.Interp) :
    ReturnsInHanded {} Try.checked os 6 .any ((Rows.OpenSpec.upto Rows.sessionExecutesSpec).pre6 enc Try.prog Try.f6 Rows.sessionExecutesUptoRow.domain false) (((Rows.OpenSpec.upto Rows.sessionExecutesSpec).at F).post enc Try.prog Try.f6 false true false false) := by
  refine law_upto (C := Try.checked) (B := 4) F Try.own started (by kernel_rfl) Try.func6
    (OpenSpec.witness (enc := enc) (C := Try.checked) (s := Rows.OpenSpec.upto Rows.sessionExecutesSpec) (k := Rows.uptoSmall) rfl false ⟨#[], #[.int .u8 0, .slice none 0 0], []⟩ 8 (by kernel_rfl) (by kernel_rfl) (by kernel_rfl)
      (x := ([.lit (.int .u8 0), .nil], [], [])) (by kernel_rfl) rfl (by kernel_rfl))
    Try.laidOut (by kernel_rfl) rfl rfl rfl Try.underlying4 (fun ds h => match ds, h with | [_, _], _ => rfl) ?_
  intro W base args ds ps hval hA hlt hsz hk
  rw [Try.params6] at hA hval hsz
  obtain ⟨v0, vs0, d0, ds0, p0, q0, hargs, rfl, rfl, h0, r0⟩ := trodAll_cons hA
  obtain ⟨v1, vs1, d1, ds1, p1, q1, rfl, rfl, rfl, h1, r1⟩ := trodAll_cons r0
  obtain ⟨rfl, rfl, rfl⟩ := trodAll_nil r1
  obtain rfl : args = #[v0, v1] := by cases args; simp_all
  obtain ⟨a0, rfl, rfl, rfl, w0⟩ := open_int Try.underlying5 (hval 0 5 v0 rfl rfl) h0
  obtain ⟨l0, g0⟩ := u8_bd w0
  obtain ⟨A1, n1, c1, R1, rfl, k1, l1, g1⟩ := open_intsA (hval 1 22 v1 rfl rfl) h1 (fun x hx => hlt x (by simp [hx]))
  have u1 := Nat.le_trans (ints_bulk Try.underlying22 Try.underlying3 Try.cells3o h1) (bulk_bound hk (by simp))
  exact sessionExecutes_walk a0 A1 n1 c1 R1 W l0 g0 k1 u1 g1

theorem sessionExecutes_over : Rows.sessionExecutesUptoRow.holds Try.pinned (Rows.OpenSpec.upto Rows.sessionExecutesSpec) :=
  OpenClaim.holds_of_cond 6 Try.f6 rfl rfl rfl rfl rfl rfl rfl ⟨rfl, rfl, rfl, rfl, rfl⟩ rfl rfl rfl rfl rfl (by kernel_rfl) Try.func6 (by kernel_rfl)
    (of_decide_eq_true (by kernel_rfl)) (by unfold Func.isWrapper; first | (rw [if_pos (by decide +kernel)]; kernel_rfl) | (rw [if_neg (by decide +kernel)]; exact ⟨rfl, rfl⟩))
    (fun os started H enc _ F => sessionExecutes_lifted os started H enc F)

theorem sessionExecutes_proved : Rows.SessionExecutesUptoSaid := sessionExecutes_over
end Go.Proofs.Ytgcjbpiofcggcaa
