/- Law RowcodecEnd: for every input the call returns true, and its arguments read afterwards as before. -/
import Derived.Test.YtdfkcibmmabjcaaOpn
namespace Go.Proofs.Ytdfkcibmmabjcaa
open Go.ChangeShapes Go.WideShapes Go.ChangeAt Go.RowKit Go.ChangeMaps

theorem rowcodecEnd_long (p s : ByteArray) (w : World) (h : 100 < p.size ∨ 100 < s.size) (lp : p.size ≤ 140737488351232) (ls : s.size ≤ 140737488351232) :
    Calls Try.prog 9 #[.string p, .string s] w fun e w' => e = .returned (.bool true) ∧ Below w.heap.size w w' := by
  rcases (show 100 < p.size ∨ (p.size ≤ 100 ∧ 100 < s.size) by omega) with h1 | ⟨h1, h2⟩
  all_goals
    clear h
    go_enter Try.func9, Try.ntmps9
    go_wp2_with fail
    refine (awake_any _).mono ?_
    rintro e w1 ⟨rfl, b1⟩
    go_wp2_with fail
    refine (awake_any _).mono ?_
    rintro e w2 ⟨rfl, b2⟩
    go_wp2
    go_ret
    exact ⟨rfl, b1.trans (b2.mono b1.size)⟩

theorem rowcodecEnd_short (p s : ByteArray) (w : World) (h1 : p.size ≤ 100) (h2 : s.size ≤ 100) :
    Calls Try.prog 9 #[.string p, .string s] w fun e w' => e = .returned (.bool true) ∧ Below w.heap.size w w' := by
  have H := pre_iff p.data.toList s.data.toList
  rw [← (end_is p.data.toList).1, ← (end_is p.data.toList).2] at H
  have H : Hid (preB p s = (!Op.bytesLess s.toList p.toList && (!endB p.data.toList || Op.bytesLess s.toList (ByteArray.toList ⟨(endS p.data.toList).toArray⟩)))) := Lib.hid (by
    rw [ByteArray.toList_eq, ByteArray.toList_eq, ByteArray.toList_eq]; exact H)
  obtain ⟨E, hE⟩ : ∃ E : ByteArray, ⟨(endS p.data.toList).toArray⟩ = E := ⟨_, rfl⟩
  obtain ⟨b, hb⟩ : ∃ b : Bool, endB p.data.toList = b := ⟨_, rfl⟩
  obtain ⟨q, hq⟩ : ∃ q : Bool, preB p s = q := ⟨_, rfl⟩
  have C1 : ∀ w, Calls Try.prog 25 #[.string p] w fun e w' => e = .returned (.tuple #[.string E, .bool b]) ∧ Below w.heap.size w w' := fun w => by rw [← hE, ← hb]; exact End_any p w (by omega)
  have C2 : ∀ w, Calls Try.prog 26 #[.string p] w fun e w' => e = .returned (.tuple #[.string E, .bool b]) ∧ Below w.heap.size w w' := fun w => by rw [← hE, ← hb]; exact refEnd_any p w (by omega)
  have C3 : ∀ w, Calls Try.prog 22 #[.string s, .string p] w fun e w' => e = .returned (.bool q) ∧ w = w' := fun w => by rw [← hq]; exact has_any s p w (by omega) (by omega)
  rw [hE, hb, hq] at H
  have K1 := Lib.hid C1
  have K2 := Lib.hid C2
  have K3 := Lib.hid C3
  clear C1 C2 C3 hE hb hq
  rcases hu : Op.bytesLess s.toList p.toList with _ | _ <;> rcases ht : Op.bytesLess s.toList E.toList with _ | _ <;> rcases b with _ | _ <;> rw [hu, ht] at H <;> (have H2 := H.out; simp only [Bool.not_false, Bool.not_true, Bool.true_and, Bool.false_and, Bool.or_true, Bool.or_false] at H2; subst H2; clear H)
  all_goals
    go_enter Try.func9, Try.ntmps9
    go_wp2_with fail
    refine (awake_any _).mono ?_
    rintro e w1 ⟨rfl, b1⟩
    go_wp2_with fail
    refine (K1.out _).mono ?_
    rintro e w2 ⟨rfl, b2⟩
    go_wp2_with fail
    refine (K2.out _).mono ?_
    rintro e w3 ⟨rfl, b3⟩
    go_wp2_with fail
    refine (K3.out _).mono ?_
    rintro e w4 ⟨rfl, rfl⟩
    go_wp2
    go_ret
    have b12 := b1.trans (b2.mono b1.size)
    exact ⟨rfl, b12.trans (b3.mono b12.size)⟩

theorem rowcodecEnd_walk (p s : ByteArray) (w : World) (lp : p.size ≤ 140737488351232) (ls : s.size ≤ 140737488351232) :
    Calls Try.prog 9 #[.string p, .string s] w fun e w' => e = .returned (.bool true) ∧ Below w.heap.size w w' := by
  by_cases h : p.size ≤ 100 ∧ s.size ≤ 100
  · exact rowcodecEnd_short p s w h.1 h.2
  · exact rowcodecEnd_long p s w (by omega) lp ls

set_option maxRecDepth 100000 in
theorem rowcodecEnd_lifted (os : Os) (started : os.Started) (H : Type) (enc : TypeId × Value → H) :
    ReturnsInHanded {} Try.checked os 9 .any (Rows.rowcodecEndSpec.pre6 enc Try.prog Try.f9 Rows.rowcodecEndRow.domain false) (Rows.rowcodecEndSpec.post enc Try.prog Try.f9 false true false false) := by
  refine law_lifted (C := Try.checked) (B := 4) Try.own started (by kernel_rfl) Try.func9
    (ChangeSpec.witness6 (enc := enc) (C := Try.checked) false ⟨#[], #[.string ⟨#[]⟩, .string ⟨#[]⟩], []⟩ 8 (by kernel_rfl) (by kernel_rfl) (by kernel_rfl) (by kernel_rfl))
    Try.laidOut (by kernel_rfl) rfl rfl rfl Try.underlying4 (fun ds h => match ds, h with | [_, _], _ => rfl) ?_
  intro W base args ds ps hval hA hlt hsz
  rw [Try.params9] at hA hval hsz
  obtain ⟨v0, vs0, d0, ds0, p0, q0, hargs, rfl, rfl, h0, r0⟩ := trodAll_cons hA
  obtain ⟨v1, vs1, d1, ds1, p1, q1, rfl, rfl, rfl, h1, r1⟩ := trodAll_cons r0
  obtain ⟨rfl, rfl, rfl⟩ := trodAll_nil r1
  obtain rfl : args = #[v0, v1] := by cases args; simp_all
  obtain ⟨s0, rfl, rfl, rfl, w0⟩ := open_string Try.underlying9 (hval 0 9 v0 rfl rfl) h0
  have l0 : s0.size ≤ 140737488351232 := by have := sized_string hsz (j := 0) (t := 9) rfl rfl; simpa [reachBytes] using this
  obtain ⟨s1, rfl, rfl, rfl, w1⟩ := open_string Try.underlying9 (hval 1 9 v1 rfl rfl) h1
  have l1 : s1.size ≤ 140737488351232 := by have := sized_string hsz (j := 1) (t := 9) rfl rfl; simpa [reachBytes] using this
  clear hlt hsz
  exact rowcodecEnd_walk s0 s1 W l0 l1

theorem rowcodecEnd_over : Rows.rowcodecEndRow.holds Try.pinned (OpenSpec.ofChange Rows.rowcodecEndSpec) :=
  OpenClaim.holds_of_wide 9 Try.f9 rfl rfl rfl rfl rfl rfl rfl ⟨rfl, rfl, rfl, rfl, rfl⟩ rfl rfl rfl rfl rfl (by kernel_rfl) Try.func9 (by kernel_rfl)
    (of_decide_eq_true (by kernel_rfl)) (by unfold Func.isWrapper; first | (rw [if_pos (by decide +kernel)]; kernel_rfl) | (rw [if_neg (by decide +kernel)]; exact ⟨rfl, rfl⟩))
    (fun os started H enc _ => rowcodecEnd_lifted os started H enc)

theorem rowcodecEnd_proved : Rows.RowcodecEndSaid := rowcodecEnd_over
end Go.Proofs.Ytdfkcibmmabjcaa
