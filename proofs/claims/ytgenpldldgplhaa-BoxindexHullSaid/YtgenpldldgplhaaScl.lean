/- A copy of a list of sides. -/
import Derived.Test.YtgenpldldgplhaaSow
import Derived.Lib.SliceRun
namespace Go.Proofs.Ytgenpldldgplhaa
open Go.ChangeShapes Go.WideShapes Go.ChangeAt Go.RowKit Go.ChangeMaps

theorem flat_one (R : List Sd) : ∀ u ∈ R.flatMap Sd.cells, u.oneCell' = true := by
  intro u hu
  obtain ⟨s, _, h⟩ := List.mem_flatMap.1 hu
  exact cells_one s u h
theorem own_empty (w : World) : (w.alloc (.cells #[] 56)).ownsRow w.heap.size 56 6 (.slice (some ⟨w.heap.size, 0, none⟩) 0 0) 0 [] :=
  ⟨rfl, .inr ⟨w.heap.size, 0, #[], rfl, Nat.le_refl _, heap_alloc_new w _, Nat.le_refl _, Nat.zero_le _, rfl, rfl⟩⟩
set_option maxRecDepth 100000 in
set_option maxHeartbeats 2000000 in
theorem Clone_any (A : Option Addr) (n c : Nat) (R : List Sd) (w : World) (h : Sds w A n R) (hn : n ≤ 1000) :
    Calls Try.prog 27 #[.slice A n c] w fun e w' => ∃ A' c', e = .returned (.slice A' n c') ∧ w'.ownsRow w.heap.size 56 6 (.slice A' n c') n (R.flatMap Sd.cells) ∧ Below w.heap.size w w' := by
  obtain ⟨i0, hi, hz0, hz1, hz2⟩ := info_parts Try.info56
  have HH := Lib.hid h
  have qn : ∀ (w : World) (a : Option Addr) (n c n' c' : Nat), (binOp .eql 38 (.slice a n c) (.slice none n' c')).run Try.prog w = .ok (.bool a.isNone) w := fun w a n c n' c' => Lib.run_eql_slice_nil w _ _ a n c n' c' Try.underlying38
  rcases A with _ | ⟨b, off, pth⟩
  · have hz : n = 0 := by
      rcases Nat.eq_zero_or_pos n with h0 | h0
      · exact h0
      · obtain ⟨b, off, e, -⟩ := h.at h0
        cases e
    subst hz
    clear h
    go_enter Try.func27, Try.ntmps27
    go_wp2
    go_ret
    have hR : R = [] := List.eq_nil_of_length_eq_zero HH.out.len
    refine ⟨_, _, rfl, ?_, Below.refl _ _⟩
    rw [hR]
    exact World.ownsRow_nil _ _ _ _
  · have HO := Lib.hid (own_empty w)
    have HS := Lib.hid (At.src (P := Try.prog) (c := c) Try.underlying38 (HH.out.alloc (.cells #[] 56)) (flat_one R) (by decide))
    clear h
    go_enter Try.func27, Try.ntmps27
    go_wp2_with (at_builtin; go_loud (refine wpList_append_src _ rfl _ _ 38 38 rfl w.heap.size 56 i0 zS 6 56 Try.underlying38 hi hz0 hz1 hz2 rfl _ 0 [] rfl HO.out _ n (R.flatMap Sd.cells) rfl HS.out ?c1 ?c2 ?c3 ?_))
    case c1 => unfold maxLen; omega
    case c2 => omega
    case c3 => simp
    intro v' w1 own' hg _
    have HB := Lib.hid ((((Below.refl _ w).alloc (Nat.le_refl _) (.cells #[] 56)).grown hg (by simp) (fun j hj => (HO.out.lt j hj).1)))
    obtain ⟨A3, a3, rfl, -⟩ := At.of_own own'
    have HR := Lib.hid own'
    clear own' hg
    go_wp2
    go_ret
    exact ⟨_, _, rfl, HR.out, HB.out⟩
end Go.Proofs.Ytgenpldldgplhaa
