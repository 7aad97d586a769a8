/- The steps of a session. -/
import Derived.Test.YtgcjbpiofcggcaaNxt
namespace Go.Proofs.Ytgcjbpiofcggcaa
open Go.ChangeShapes Go.WideShapes Go.ChangeAt Go.RowKit Go.ChangeMaps

theorem Ses.free {w : World} {B M p num : Nat} {K : List Int} {cur ex : Nat} (h : Ses w B M p num K cur ex) (i : Nat) : w.frozen? ⟨p, i, none⟩ = false := by
  obtain ⟨S, T, hb, _⟩ := h
  exact Joins.unfrozen_of_block hb i
theorem nx_lt {K : List Int} {cur ex i : Nat} (h : nx K cur ex = (i, true)) : i < K.length ∧ ex + 1 ≤ K.length ∧ cur < (splitM K).length := by
  unfold nx at h
  by_cases hc : cur < (splitM K).length
  · obtain ⟨_, _, h3⟩ := fs_facts hc
    rw [if_pos hc] at h
    by_cases hs : fs K cur + ex ≤ endM K (fs K cur)
    · rw [if_pos hs] at h
      injection h with h1 h2
      exact ⟨by omega, by omega, hc⟩
    · rw [if_neg hs] at h
      injection h with h1 h2
      cases h2
  · rw [if_neg hc] at h
    injection h with h1 h2
    cases h2
def adv (K : List Int) (cur ex : Nat) : Nat := if (nx K cur ex).2 then ex + 1 else ex
def fin (K : List Int) (cur ex : Nat) : Nat × Nat := if cur < (splitM K).length then (cur + 1, 0) else (cur, ex)
set_option maxRecDepth 100000 in
theorem Advance_any (w : World) (B M p num : Nat) (K : List Int) (cur ex : Nat) (h : Ses w B M p num K cur ex) :
    Calls Try.prog 16 #[.pointer (some ⟨p, 0, none⟩)] w (Upd w B M p num K cur (adv K cur ex)) := by
  have CN := Next_any w B M p num K cur ex h
  have HS := Lib.hid h
  have hx : ex ≤ 300000000000 := by obtain ⟨_, _, _, _, _, _, _, _, _, _, _, _, hx, hn, _⟩ := h.parts; omega
  clear h
  rcases hN : nx K cur ex with ⟨i, _ | _⟩
  · have HA : Hid (adv K cur ex = ex) := Lib.hid (by unfold adv; rw [hN]; rfl)
    rw [hN] at CN
    simp only at CN
    have CN := Lib.hid CN
    clear hN
    go_enter Try.func16, Try.ntmps16
    go_wp2_with (go_at_call 22; ((with_reducible refine CN.out.mono ?_); rintro e w2 ⟨rfl, hb2⟩))
    go_end0
    exact ⟨rfl, grown_of_below hb2, by rw [HA.out]; exact HS.out.below hb2⟩
  · have HA : Hid (adv K cur ex = ex + 1) := Lib.hid (by unfold adv; rw [hN]; rfl)
    have hlt := nx_lt hN
    have HE := Lib.hid hlt.2.1
    rw [hN] at CN
    simp only at CN
    have CN := Lib.hid CN
    clear hN hlt
    go_enter Try.func16, Try.ntmps16
    go_wp2_with (go_at_call 22; ((with_reducible refine CN.out.mono ?_); rintro e w2 ⟨rfl, hb2⟩); have HB := Lib.hid hb2; have H2 := Lib.hid (HS.out.below hb2); have c4 : w2.cell? ⟨p, 4, none⟩ = some (.int .i64 (ex : Int)) := (by obtain ⟨_, _, _, _, _, _, _, _, _, _, c4, _⟩ := H2.out.parts; exact c4); have f4 := H2.out.free 4; clear hb2)
    go_end0
    exact ⟨rfl, grown_trans (grown_of_below HB.out) (grown_set _ _ _ _), by rw [HA.out]; exact H2.out.set_ex (ex + 1) HE.out⟩
set_option maxRecDepth 100000 in
theorem Restart_any (w : World) (B M p num : Nat) (K : List Int) (cur ex : Nat) (h : Ses w B M p num K cur ex) :
    Calls Try.prog 17 #[.pointer (some ⟨p, 0, none⟩)] w (Upd w B M p num K cur 0) := by
  have HS := Lib.hid h
  have c4 : w.cell? ⟨p, 4, none⟩ = some (.int .i64 (ex : Int)) := by obtain ⟨_, _, _, _, _, _, _, _, _, _, c4, _⟩ := h.parts; exact c4
  have f4 := h.free 4
  clear h
  go_enter Try.func17, Try.ntmps17
  go_wp2
  go_end0
  exact ⟨rfl, grown_set _ _ _ _, HS.out.set_ex 0 (Nat.zero_le _)⟩
set_option maxRecDepth 100000 in
theorem Finish_any (w : World) (B M p num : Nat) (K : List Int) (cur ex : Nat) (h : Ses w B M p num K cur ex) :
    Calls Try.prog 18 #[.pointer (some ⟨p, 0, none⟩)] w (Upd w B M p num K (fin K cur ex).1 (fin K cur ex).2) := by
  have CD := Lib.hid (Done_any w B M p num K cur ex h)
  have HS := Lib.hid h
  obtain ⟨_, _, _, _, _, _, _, _, _, _, _, hc, _, hn, _, hl⟩ := h.parts
  clear h
  by_cases hlt : cur < (splitM K).length
  · have HA : Hid (fin K cur ex = (cur + 1, 0)) := Lib.hid (by unfold fin; rw [if_pos hlt])
    have e1 : decide (cur = (splitM K).length) = false := by simp; omega
    rw [e1] at CD
    have HL := Lib.hid hlt
    have hcb : cur < 300000000000 := by omega
    clear e1 hc hl hlt hn
    go_enter Try.func18, Try.ntmps18
    go_wp2_with (go_at_call 20; ((with_reducible refine CD.out.mono ?_); rintro e w2 ⟨rfl, hb2⟩); have HB := Lib.hid hb2; have H2 := Lib.hid (HS.out.below hb2); have c3 : w2.cell? ⟨p, 3, none⟩ = some (.int .i64 (cur : Int)) := (by obtain ⟨_, _, _, _, _, _, _, _, _, c3, _⟩ := H2.out.parts; exact c3); have c4 : w2.cell? ⟨p, 4, none⟩ = some (.int .i64 (ex : Int)) := (by obtain ⟨_, _, _, _, _, _, _, _, _, _, c4, _⟩ := H2.out.parts; exact c4); have f3 := H2.out.free 3; have f4 := H2.out.free 4; clear hb2)
    go_end0
    refine ⟨rfl, grown_trans (grown_of_below HB.out) (grown_trans (grown_set _ _ _ _) (grown_set _ _ _ _)), ?_⟩
    rw [HA.out]
    exact (H2.out.set_cur (cur + 1) HL.out).set_ex 0 (Nat.zero_le _)
  · have HA : Hid (fin K cur ex = (cur, ex)) := Lib.hid (by unfold fin; rw [if_neg hlt])
    have e1 : decide (cur = (splitM K).length) = true := by simp; omega
    rw [e1] at CD
    clear e1 hc hl hlt hn
    go_enter Try.func18, Try.ntmps18
    go_wp2_with (go_at_call 20; ((with_reducible refine CD.out.mono ?_); rintro e w2 ⟨rfl, hb2⟩))
    go_end0
    exact ⟨rfl, grown_of_below hb2, by rw [HA.out]; exact HS.out.below hb2⟩
end Go.Proofs.Ytgcjbpiofcggcaa
