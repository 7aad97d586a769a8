/- Law SessionRestart, where the arguments are of bulk at most 1048576: for every such input the call returns true, and its arguments read afterwards as before. -/
import Derived.Test.YtgcjbpiofcggcaaNum
import Derived.Test.YtgcjbpiofcggcaaSta
import Derived.Test.YtgcjbpiofcggcaaUpt
namespace Go.Proofs.Ytgcjbpiofcggcaa
open Go.ChangeShapes Go.WideShapes Go.ChangeAt Go.RowKit Go.ChangeMaps

theorem fs_zero (K : List Int) (h : 0 < (splitM K).length) : fs K 0 = 0 := (splitM_chain K).1
set_option maxRecDepth 100000 in
set_option maxHeartbeats 4000000 in
theorem sessionRestart_walk (A : Option Addr) (n c : Nat) (K : List Int) (D : Option Addr) (m d : Nat) (O : List Int) (w : World) (hr : At w A n 1 (ic .i64 K)) (hn : n ≤ 1048576) (_ : ∀ z ∈ K, -9223372036854775808 ≤ z ∧ z ≤ 9223372036854775807)
    (ho : At w D m 1 (ic .u8 O)) (hm : m ≤ 1048576) (hO : ∀ z ∈ O, 0 ≤ z ∧ z ≤ 255) :
    Calls Try.prog 7 #[.slice A n c, .slice D m d] w fun e w' => e = .returned (.bool true) ∧ Below w.heap.size w w' := by
  have HL := Lib.hid hr.int
  have HM := Lib.hid ho.int
  have HR := Lib.hid hr
  have HO := Lib.hid ho
  have HOB := Lib.hid hO
  clear hr ho hO
  go_enter Try.func7, Try.ntmps7
  go_wp2_with fail
  refine (Script_New _ _ _ K w HR.out (by omega)).mono ?_
  rintro e w2 ⟨A2, c2, rfl, hA2, hc2, hn2, hb⟩
  have HW := Lib.hid hb
  have HA := Lib.hid hA2
  have HC := Lib.hid hc2
  have HN := Lib.hid hn2
  clear hb hA2 hc2 hn2
  go_wp2_with fail
  refine (New_at _ 0 rfl _ _ _ K w2 HA.out HL.out (by omega) HC.out HN.out (by omega)).mono ?_
  rintro e w3 ⟨p, rfl, hs, hb⟩
  have hp : w.heap.size ≤ p := by have h1 := HW.out.size; obtain ⟨_, _, _, h2, _⟩ := hs; omega
  have HW := Lib.hid (HW.out.trans (hb.mono HW.out.size))
  have HS := Lib.hid hs
  clear hb hs HA HC HN
  go_wp2_with fail
  refine (awake_any _).mono ?_
  rintro e w4 ⟨rfl, hb⟩
  have HW := Lib.hid (HW.out.trans (hb.mono HW.out.size))
  have HS := Lib.hid (HS.out.below hb)
  clear hb
  by_cases h60 : n ≤ 60 ∧ m ≤ 60
  · obtain ⟨h60, h61⟩ := h60
    have HF0 := Lib.hid (fs_zero K)
    obtain ⟨t, hTT⟩ : ∃ t, (splitM K).length = t := ⟨_, rfl⟩
    rw [hTT] at HF0
    have HTT := Lib.hid hTT
    have HFS : Hid (∀ k, k < t → fs K k < 9000 ∧ fs K k + 0 ≤ endM K (fs K k)) := Lib.hid (fun k hk => by
      have := fs_facts (K := K) (cur := k) (by rw [hTT]; exact hk); have := HL.out; omega)
    clear hTT
    go_wp2
    go_loopw [6, 34] (fun f i wr => ∃ (k cur ex x : Nat), k ≤ m ∧ i = .int .i64 (k : Int) ∧ f = .int .i64 (x : Int) ∧ (cur < t → fs K cur = x) ∧ Ses wr w2.heap.size (p + 1) p 0 K cur ex ∧ Below w.heap.size w wr) (fun _ i _ => m - (intOf i).toNat)
    case atStart => exact ⟨0, 0, 0, 0, Nat.zero_le _, rfl, rfl, HF0.out, HS.out, HW.out⟩
    case round =>
      obtain ⟨k, cur, ex, x, hk, rfl, rfl, hf, hS, hB⟩ := hrel
      have HS := Lib.hid hS
      have HB := Lib.hid hB
      have HF := Lib.hid hf
      clear hS hB hf
      by_cases hlt : k < m
      · obtain ⟨b, off, rfl, hb, hc⟩ := HO.out.2 (by omega)
        have hcell : wr.cell? ⟨b, off + k, none⟩ = some (.int .u8 (O.getD k 0)) := (HB.out.cell (p := ⟨b, off + k, none⟩) hb).trans (hc k _ (ic_get _ _ _ (by rw [HM.out]; exact hlt)))
        have hob := HOB.out (O.getD k 0) (by rw [List.getD_eq_getElem?_getD, List.getElem?_eq_getElem (by rw [HM.out]; exact hlt)]; exact List.getElem_mem _)
        clear hc hb
        generalize O.getD k 0 = o at *
        obtain ⟨ho1, ho2⟩ := hob
        rcases ht : (o % 4 == 3) with _ | _
        · go_wp2_with fail
          refine (adv_at _ _ _ _ _ _ _ _ HS.out (adv K cur ex) rfl).mono ?_
          rintro e v2 ⟨rfl, hg, hs⟩
          have HB := Lib.hid (upd_below2 HB.out hp hg HB.out.size)
          have HS := Lib.hid hs
          clear hg hs
          go_wp2
          go_roundw
          case rel => exact ⟨k + 1, cur, _, x, by omega, by go_num, rfl, HF.out, HS.out, HB.out⟩
          case measure => simp [intOf]; omega
        · go_wp2_with fail
          refine (fin_at _ _ _ _ _ _ _ _ HS.out (fin K cur ex).1 (fin K cur ex).2 rfl).mono ?_
          rintro e v2 ⟨rfl, hg, hs⟩
          have HB := Lib.hid (upd_below2 HB.out hp hg HB.out.size)
          have HS := Lib.hid hs
          clear hg hs
          obtain ⟨y, ok, hny⟩ : ∃ y ok, nx K (fin K cur ex).1 (fin K cur ex).2 = (y, ok) := ⟨_, _, rfl⟩
          have HY : Hid ((fin K cur ex).1 < t → fs K (fin K cur ex).1 = y) := Lib.hid (fun h => by
            by_cases hc : cur < (splitM K).length
            · rw [fin_in hc] at hny h ⊢
              rw [nx_in (by rw [HTT.out]; exact h) (HFS.out _ h).2] at hny
              injection hny with h1 h2
            · rw [fin_out hc] at h
              rw [HTT.out] at hc
              exact absurd h hc)
          have HNY := Lib.hid hny
          clear hny
          generalize (fin K cur ex).1 = cur2 at *
          generalize (fin K cur ex).2 = ex2 at *
          go_wp2_with fail
          refine (next_at _ _ _ _ _ _ _ _ HS.out _ y ok HNY.out rfl).mono ?_
          rintro e v3 ⟨rfl, hb⟩
          have HB := Lib.hid (HB.out.trans (hb.mono HB.out.size))
          have HS := Lib.hid (HS.out.below hb)
          clear hb
          go_wp2
          go_roundw
          case rel => exact ⟨k + 1, cur2, ex2, y, by omega, by go_num, rfl, HY.out, HS.out, HB.out⟩
          case measure => simp [intOf]; omega
      · obtain rfl : k = m := by omega
        go_wp2_with fail
        refine (trans_at _ _ _ _ _ _ _ _ HS.out _ rfl).mono ?_
        rintro e v0 ⟨rfl, hb⟩
        have HB := Lib.hid (HB.out.trans (hb.mono HB.out.size))
        have HS := Lib.hid (HS.out.below hb)
        clear hb
        go_wp2_with fail
        refine (Restart_any _ _ _ _ _ _ _ _ HS.out).mono ?_
        rintro e v2 ⟨rfl, hg, hs⟩
        have HB := Lib.hid (upd_below2 HB.out hp hg HB.out.size)
        have HS := Lib.hid hs
        clear hg hs
        by_cases hct : cur < t
        · have HNX : Hid (nx K cur 0 = (x, true)) := Lib.hid (by rw [nx_in (by rw [HTT.out]; exact hct) (HFS.out _ hct).2, HF.out hct]; rfl)
          have HD : Hid (decide (cur = (splitM K).length) = false) := Lib.hid (by rw [HTT.out]; simp; omega)
          go_wp2_with fail
          refine (next_at _ _ _ _ _ _ _ _ HS.out _ x true HNX.out rfl).mono ?_
          rintro e v3 ⟨rfl, hb⟩
          have HB := Lib.hid (HB.out.trans (hb.mono HB.out.size))
          have HS := Lib.hid (HS.out.below hb)
          clear hb
          go_wp2_with fail
          refine (trans_at _ _ _ _ _ _ _ _ HS.out _ rfl).mono ?_
          rintro e v4 ⟨rfl, hb⟩
          have HB := Lib.hid (HB.out.trans (hb.mono HB.out.size))
          have HS := Lib.hid (HS.out.below hb)
          clear hb
          go_wp2_with fail
          refine (done_at _ _ _ _ _ _ _ _ HS.out false HD.out).mono ?_
          rintro e v5 ⟨rfl, hb⟩
          have HB := Lib.hid (HB.out.trans (hb.mono HB.out.size))
          clear hb
          go_wp2
          go_ret
          exact ⟨rfl, HB.out⟩
        · have hle : cur ≤ t := by obtain ⟨_, _, _, _, _, _, _, _, _, _, _, hc, _⟩ := HS.out.parts; rw [HTT.out] at hc; exact hc
          have HNX : Hid (nx K cur 0 = (0, false)) := Lib.hid (nx_out (by rw [HTT.out]; exact hct))
          have HD : Hid (decide (cur = (splitM K).length) = true) := Lib.hid (by rw [HTT.out]; simp; omega)
          go_wp2_with fail
          refine (next_at _ _ _ _ _ _ _ _ HS.out _ 0 false HNX.out rfl).mono ?_
          rintro e v3 ⟨rfl, hb⟩
          have HB := Lib.hid (HB.out.trans (hb.mono HB.out.size))
          have HS := Lib.hid (HS.out.below hb)
          clear hb
          go_wp2_with fail
          refine (trans_at _ _ _ _ _ _ _ _ HS.out _ rfl).mono ?_
          rintro e v4 ⟨rfl, hb⟩
          have HB := Lib.hid (HB.out.trans (hb.mono HB.out.size))
          have HS := Lib.hid (HS.out.below hb)
          clear hb
          go_wp2_with fail
          refine (done_at _ _ _ _ _ _ _ _ HS.out true HD.out).mono ?_
          rintro e v5 ⟨rfl, hb⟩
          have HB := Lib.hid (HB.out.trans (hb.mono HB.out.size))
          clear hb
          go_wp2
          go_ret
          exact ⟨rfl, HB.out⟩
  · by_cases h60n : n ≤ 60
    · have h61 : ¬ m ≤ 60 := fun h => h60 ⟨h60n, h⟩
      clear h60
      go_wp2_with fail
      refine (awake_any _).mono ?_
      rintro e w5 ⟨rfl, hb⟩
      have HW := Lib.hid (HW.out.trans (hb.mono HW.out.size))
      clear hb
      go_wp2
      go_ret
      exact ⟨rfl, HW.out⟩
    · clear h60
      go_wp2_with fail
      refine (awake_any _).mono ?_
      rintro e w5 ⟨rfl, hb⟩
      have HW := Lib.hid (HW.out.trans (hb.mono HW.out.size))
      clear hb
      go_wp2
      go_ret
      exact ⟨rfl, HW.out⟩

set_option maxRecDepth 100000 in
theorem sessionRestart_lifted (os : Os) (started : os.Started) (H : Type) (enc : TypeId × Value → H) (F : Stop.Interp) :
    ReturnsInHanded {} Try.checked os 7 .any ((Rows.OpenSpec.upto Rows.sessionRestartSpec).pre6 enc Try.prog Try.f7 Rows.sessionRestartUptoRow.domain false) (((Rows.OpenSpec.upto Rows.sessionRestartSpec).at F).post enc Try.prog Try.f7 false true false false) := by
  refine law_upto (C := Try.checked) (B := 4) F Try.own started (by kernel_rfl) Try.func7
    (OpenSpec.witness (enc := enc) (C := Try.checked) (s := Rows.OpenSpec.upto Rows.sessionRestartSpec) (k := Rows.uptoSmall) rfl false ⟨#[], #[.slice none 0 0, .slice none 0 0], []⟩ 8 (by kernel_rfl) (by kernel_rfl) (by kernel_rfl)
      (x := ([.nil, .nil], [], [])) (by kernel_rfl) rfl (by kernel_rfl))
    Try.laidOut (by kernel_rfl) rfl rfl rfl Try.underlying4 (fun ds h => match ds, h with | [_, _], _ => rfl) ?_
  intro W base args ds ps hval hA hlt hsz hk
  rw [Try.params7] at hA hval hsz
  obtain ⟨v0, vs0, d0, ds0, p0, q0, hargs, rfl, rfl, h0, r0⟩ := trodAll_cons hA
  obtain ⟨v1, vs1, d1, ds1, p1, q1, rfl, rfl, rfl, h1, r1⟩ := trodAll_cons r0
  obtain ⟨rfl, rfl, rfl⟩ := trodAll_nil r1
  obtain rfl : args = #[v0, v1] := by cases args; simp_all
  obtain ⟨A0, n0, c0, R0, rfl, k0, l0, g0⟩ := open_intsA (hval 0 22 v0 rfl rfl) h0 (fun x hx => hlt x (by simp [hx]))
  obtain ⟨A1, n1, c1, R1, rfl, k1, l1, g1⟩ := open_bytesA (hval 1 32 v1 rfl rfl) h1 (fun x hx => hlt x (by simp [hx]))
  have u0 := Nat.le_trans (ints_bulk Try.underlying22 Try.underlying3 Try.cells3o h0) (bulk_bound hk (by simp))
  have u1 := Nat.le_trans (ints_bulk Try.underlying32 Try.underlying5 Try.cells5o h1) (bulk_bound hk (by simp))
  exact sessionRestart_walk A0 n0 c0 R0 A1 n1 c1 R1 W k0 u0 g0 k1 u1 g1

theorem sessionRestart_over : Rows.sessionRestartUptoRow.holds Try.pinned (Rows.OpenSpec.upto Rows.sessionRestartSpec) :=
  OpenClaim.holds_of_cond 7 Try.f7 rfl rfl rfl rfl rfl rfl rfl ⟨rfl, rfl, rfl, rfl, rfl⟩ rfl rfl rfl rfl rfl (by kernel_rfl) Try.func7 (by kernel_rfl)
    (of_decide_eq_true (by kernel_rfl)) (by unfold Func.isWrapper; first | (rw [if_pos (by decide +kernel)]; kernel_rfl) | (rw [if_neg (by decide +kernel)]; exact ⟨rfl, rfl⟩))
    (fun os started H enc _ F => sessionRestart_lifted os started H enc F)

theorem sessionRestart_proved : Rows.SessionRestartUptoSaid := sessionRestart_over
end Go.Proofs.Ytgcjbpiofcggcaa
