/- The function awake of the laws of this layer returns true. -/
import Derived.Test.YtgcjbpiofcggcaaNew
import Derived.Test.YtgcjbpiofcggcaaSam
import Derived.Test.YtgcjbpiofcggcaaMut
namespace Go.Proofs.Ytgcjbpiofcggcaa
open Go.ChangeShapes Go.WideShapes Go.ChangeAt Go.RowKit Go.ChangeMaps

def exK : List Int := [5, 6, 3, 6, 7, 8, 6, 5]
theorem exK_split : splitM exK = [(0, 0), (1, 4), (5, 5), (6, 7)] := by decide
theorem example_any (w : World) : Calls Try.prog 24 #[] w fun e w' => ∃ A c, e = .returned (.slice A 8 c) ∧ At w' A 8 1 (ic .i64 exK) ∧ Below w.heap.size w w' := by
  go_enter Try.func24, Try.ntmps24
  go_wp2
  go_ret
  refine ⟨_, _, rfl, ⟨rfl, fun _ => ⟨w.heap.size, 0, rfl, by simp, fun j u hj => ?_⟩⟩, (Below.refl _ w).alloc (Nat.le_refl _) _⟩
  rw [Nat.zero_add]
  exact newcell j u rfl (by rw [← hj, ← Array.getElem?_toList]; rfl)
section
variable (w : World) (B M p num : Nat) (K : List Int) (cur ex : Nat) (h : Ses w B M p num K cur ex)
include h
theorem trans_at (v : Int) (hv : v = ((1 + cur * 8 + num : Nat) : Int)) : Calls Try.prog 23 #[.pointer (some ⟨p, 0, none⟩)] w fun e w' => e = .returned (.int .i64 v) ∧ Below w.heap.size w w' := by subst hv; exact Transaction_any w B M p num K cur ex h
theorem next_at (i : Int) (n : Nat) (ok : Bool) (hN : nx K cur ex = (n, ok)) (hi : i = (n : Int)) : Calls Try.prog 22 #[.pointer (some ⟨p, 0, none⟩)] w fun e w' => e = .returned (.tuple #[.int .i64 i, .bool ok]) ∧ Below w.heap.size w w' := by
  have := Next_any w B M p num K cur ex h; rw [hN] at this; subst hi; exact this
theorem adv_at (x : Nat) (hx : adv K cur ex = x) : Calls Try.prog 16 #[.pointer (some ⟨p, 0, none⟩)] w (Upd w B M p num K cur x) := by have := Advance_any w B M p num K cur ex h; rw [hx] at this; exact this
theorem fin_at (c x : Nat) (hx : fin K cur ex = (c, x)) : Calls Try.prog 18 #[.pointer (some ⟨p, 0, none⟩)] w (Upd w B M p num K c x) := by have := Finish_any w B M p num K cur ex h; rw [hx] at this; exact this
theorem done_at (b : Bool) (hb : decide (cur = (splitM K).length) = b) : Calls Try.prog 20 #[.pointer (some ⟨p, 0, none⟩)] w fun e w' => e = .returned (.bool b) ∧ Below w.heap.size w w' := by have := Done_any w B M p num K cur ex h; rw [hb] at this; exact this
end
theorem own_none {w : World} {B : Nat} {e : TypeId} {size n : Nat} {A : Option Addr} {c : Nat} {xs : List Value} (h : w.ownsRow B e size (.slice A n c) n xs) (hA : A = none) : n = 0 ∧ c = 0 := by
  subst hA
  rcases h.2 with ⟨h1, h2⟩ | ⟨g, cap, cur, h1, _⟩
  · simp at h1; exact h1
  · simp at h1
/-- A script and a session over it. -/
theorem Script_New (A : Option Addr) (n c : Nat) (K : List Int) (w : World) (hr : At w A n 1 (ic .i64 K)) (hn : n ≤ 300000000000) :
    Calls Try.prog 12 #[.slice A n c] w fun e w' => ∃ A' c', e = .returned (.slice A' n c') ∧ At w' A' n 22 (stC K n) ∧ n ≤ c' ∧ (A' = none → n = 0 ∧ c' = 0) ∧ Below w.heap.size w w' :=
  (script_any A n c K w hr hn).mono fun e w' ⟨v, he, ho, hb⟩ => by
    obtain ⟨A', c', rfl, hA, hc, _⟩ := At.of_own ho
    exact ⟨A', c', he, hA, hc, own_none ho, hb⟩
theorem upd_below {w0 W W' : World} {p : Nat} (hb : Below w0.heap.size w0 W) (hp : w0.heap.size ≤ p) (h : W.grownBy W' (some p)) : Below w0.heap.size w0 W' := hb.grown h hb.size (fun k hk => by injection hk with hk; omega)
theorem pC_at (L : List (Nat × Nat)) (W : World) (cs : List Value) (h : cs = pC L) : At (W.alloc (.cells cs.toArray 31)) (some ⟨W.heap.size, 0, none⟩) L.length 2 (pC L) := by
  subst h
  refine ⟨pC_len L, fun _ => ⟨W.heap.size, 0, rfl, by simp, fun j u hj => ?_⟩⟩
  rw [Nat.zero_add]
  exact newcell j u rfl (by simpa using hj)
set_option maxRecDepth 100000 in
set_option maxHeartbeats 4000000 in
theorem awake_any (w : World) : Calls Try.prog 9 #[] w fun e w' => e = .returned (.bool true) ∧ Below w.heap.size w w' := by
  have HW := Lib.hid (Below.refl w.heap.size w)
  go_enter Try.func9, Try.ntmps9
  go_wp2_with fail
  refine (example_any _).mono ?_
  rintro e w1 ⟨A1, c1, rfl, hA1, hb⟩
  have HW := Lib.hid (more_below HW.out hb)
  have HA := Lib.hid hA1
  clear hb hA1
  go_wp2_with fail
  refine (Script_New _ _ _ exK w1 HA.out (by decide)).mono ?_
  rintro e w2 ⟨A2, c2, rfl, hA2, hc2, hn2, hb⟩
  have HW := Lib.hid (more_below HW.out hb)
  have HA := Lib.hid hA2
  have HC := Lib.hid hc2
  have HN := Lib.hid hn2
  clear hb hA2 hc2 hn2
  go_wp2_with fail
  refine (New_any 2 _ _ _ exK w2 HA.out rfl (by decide) HC.out HN.out (by decide)).mono ?_
  rintro e w3 ⟨p, rfl, hs, hb⟩
  have hp : w.heap.size ≤ p := by have h1 := HW.out.size; obtain ⟨_, _, _, h2, _⟩ := hs; omega
  have HW := Lib.hid (more_below HW.out hb)
  have HS := Lib.hid hs
  clear hb hs HA HC HN
  go_wp2_with fail
  refine (New_bad 8 (by decide) _ _).mono ?_
  rintro e w4 ⟨rfl, rfl⟩
  go_wp2_with fail
  refine (New_bad (-1) (by decide) _ _).mono ?_
  rintro e w4 ⟨rfl, rfl⟩
  go_wp2_with fail
  refine (trans_at _ _ _ _ _ _ _ _ HS.out 3 rfl).mono ?_
  rintro e w5 ⟨rfl, hb⟩
  have HW := Lib.hid (more_below HW.out hb)
  have HS := Lib.hid (HS.out.below hb)
  clear hb
  go_wp2_with fail
  refine (fin_at _ _ _ _ _ _ _ _ HS.out 1 0 (by decide)).mono ?_
  rintro e w6 ⟨rfl, hg, hs⟩
  have HW := Lib.hid (upd_below HW.out hp hg)
  have HS := Lib.hid hs
  clear hg hs
  go_wp2_with fail
  refine (trans_at _ _ _ _ _ _ _ _ HS.out 11 rfl).mono ?_
  rintro e w7 ⟨rfl, hb⟩
  have HW := Lib.hid (more_below HW.out hb)
  have HS := Lib.hid (HS.out.below hb)
  clear hb
  go_wp2_with fail
  refine (adv_at _ _ _ _ _ _ _ _ HS.out 1 (by decide)).mono ?_
  rintro e w8 ⟨rfl, hg, hs⟩
  have HW := Lib.hid (upd_below HW.out hp hg)
  have HS := Lib.hid hs
  clear hg hs
  go_wp2_with fail
  refine (next_at _ _ _ _ _ _ _ _ HS.out 2 2 true (by decide) rfl).mono ?_
  rintro e w9 ⟨rfl, hb⟩
  have HW := Lib.hid (more_below HW.out hb)
  have HS := Lib.hid (HS.out.below hb)
  clear hb
  go_wp2_with fail
  refine (fin_at _ _ _ _ _ _ _ _ HS.out 2 0 (by decide)).mono ?_
  rintro e w10 ⟨rfl, hg, hs⟩
  have HW := Lib.hid (upd_below HW.out hp hg)
  have HS := Lib.hid hs
  clear hg hs
  go_wp2_with fail
  refine (fin_at _ _ _ _ _ _ _ _ HS.out 3 0 (by decide)).mono ?_
  rintro e w11 ⟨rfl, hg, hs⟩
  have HW := Lib.hid (upd_below HW.out hp hg)
  have HS := Lib.hid hs
  clear hg hs
  go_wp2_with fail
  refine (adv_at _ _ _ _ _ _ _ _ HS.out 1 (by decide)).mono ?_
  rintro e w12 ⟨rfl, hg, hs⟩
  have HW := Lib.hid (upd_below HW.out hp hg)
  have HS := Lib.hid hs
  clear hg hs
  go_wp2_with fail
  refine (adv_at _ _ _ _ _ _ _ _ HS.out 2 (by decide)).mono ?_
  rintro e w13 ⟨rfl, hg, hs⟩
  have HW := Lib.hid (upd_below HW.out hp hg)
  have HS := Lib.hid hs
  clear hg hs
  go_wp2_with fail
  refine (next_at _ _ _ _ _ _ _ _ HS.out 7 7 false (by decide) rfl).mono ?_
  rintro e w14 ⟨rfl, hb⟩
  have HW := Lib.hid (more_below HW.out hb)
  have HS := Lib.hid (HS.out.below hb)
  clear hb
  go_wp2_with fail
  refine (trans_at _ _ _ _ _ _ _ _ HS.out 27 rfl).mono ?_
  rintro e w15 ⟨rfl, hb⟩
  have HW := Lib.hid (more_below HW.out hb)
  have HS := Lib.hid (HS.out.below hb)
  clear hb
  go_wp2_with fail
  refine (example_any _).mono ?_
  rintro e w20 ⟨A1, c1, rfl, hA1, hb⟩
  have HW := Lib.hid (more_below HW.out hb)
  have HS := Lib.hid (HS.out.below hb)
  have HA := Lib.hid hA1
  clear hb hA1
  go_wp2_with fail
  refine (Script_New _ _ _ exK w20 HA.out (by decide)).mono ?_
  rintro e w21 ⟨A2, c2, rfl, hA2, hc2, hn2, hb⟩
  have HW := Lib.hid (more_below HW.out hb)
  have HS := Lib.hid (HS.out.below hb)
  have HA := Lib.hid hA2
  have HC := Lib.hid hc2
  clear hb hA2 hc2 hn2
  go_wp2_with fail
  refine (Split_any _ _ _ exK w21 HA.out rfl (by decide) HC.out).mono ?_
  rintro e w22 ⟨v, rfl, ho, hb⟩
  have HW := Lib.hid (more_below HW.out hb)
  have HS := Lib.hid (HS.out.below hb)
  obtain ⟨A4, c4, rfl, hA4, _⟩ := At.of_own ho
  have HA4 := Lib.hid (hA4.alloc (.cells #[.int .i64 0, .int .i64 0, .int .i64 1, .int .i64 4, .int .i64 5, .int .i64 5, .int .i64 6, .int .i64 7] 31))
  have HP := Lib.hid (pC_at (splitM exK) w22 [.int .i64 0, .int .i64 0, .int .i64 1, .int .i64 4, .int .i64 5, .int .i64 5, .int .i64 6, .int .i64 7] (by rw [exK_split]; rfl))
  have HS := Lib.hid (HS.out.below ((Below.refl _ w22).alloc (Nat.le_refl _) (.cells #[.int .i64 0, .int .i64 0, .int .i64 1, .int .i64 4, .int .i64 5, .int .i64 5, .int .i64 6, .int .i64 7] 31)))
  have HW := Lib.hid (HW.out.alloc HW.out.size (.cells #[.int .i64 0, .int .i64 0, .int .i64 1, .int .i64 4, .int .i64 5, .int .i64 5, .int .i64 6, .int .i64 7] 31))
  clear hb hA4 ho HA HC
  rw [show (splitM exK).length = 4 by rw [exK_split]; rfl] at *
  go_wp2_with fail
  refine (same_any _ 4 _ _ _ (splitM exK) _ HA4.out HP.out rfl (by decide)).mono ?_
  rintro e w23 ⟨rfl, hb⟩
  have HW := Lib.hid (more_below HW.out hb)
  have HS := Lib.hid (HS.out.below hb)
  clear hb
  go_wp2_with fail
  refine (done_at _ _ _ _ _ _ _ _ HS.out false (by decide)).mono ?_
  rintro e w24 ⟨rfl, hb⟩
  have HW := Lib.hid (more_below HW.out hb)
  have HS := Lib.hid (HS.out.below hb)
  clear hb
  go_wp2
  go_ret
  exact ⟨rfl, HW.out⟩
end Go.Proofs.Ytgcjbpiofcggcaa
