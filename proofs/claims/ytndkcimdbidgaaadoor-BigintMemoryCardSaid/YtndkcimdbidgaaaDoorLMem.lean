/- Law BigintMemory, the tied card: for every input the call returns true, and its arguments read afterwards as before; on the condition that the listed tables of the library start as the program text lays them, which the card ties to that text. -/
import Derived.Test.YtndkcimdbidgaaaDoorLMemW
import Derived.Test.YtndkcimdbidgaaaDoorLws
import Derived.Test.YtndkcimdbidgaaaDoorCards
import Derived.Test.YtndkcimdbidgaaaDoorTie
namespace Go.Proofs.YtndkcimdbidgaaaDoor
open Go.ChangeShapes Go.WideShapes Go.ChangeAt Go.RowKit Go.ChangeMaps

set_option maxRecDepth 100000 in
theorem bigintMemory_lifted (os : Os) (started : os.Started) (H : Type) (enc : TypeId × Value → H) :
    ReturnsInHanded {} Tryd.checked os 12 .any (fun w args => (Rows.bigintMemorySpec.pre enc Tryd.prog Tryd.f12 [] false w args ∧ laidMetH Tryd.prog Rows.bigintMemoryRow.laid w) ∧ sizedMet enc Tryd.prog Tryd.f12 (OpenSpec.ofChange Rows.bigintMemorySpec) false w args)
      (Rows.bigintMemorySpec.post enc Tryd.prog Tryd.f12 false true false false) := by
  refine door_shaped (C := Tryd.checked) (B := 4) Tryd.own started (by kernel_rfl) Tryd.func12
    (ChangeSpec.witness_shaped (enc := enc) (C := Tryd.checked) (os := os) (X := fun w _ => laidMetH Tryd.prog Rows.bigintMemoryRow.laid w) false (World.laidAll Tryd.prog os Rows.bigintMemoryRow.laid) #[.agg #[.bool false, .slice none 0 0], .agg #[.bool false, .slice none 0 0]] 8 (World.laidAll_os _ _ _)
      (World.shaped_of_ZipB (by kernel_rfl) (by kernel_rfl)) (by kernel_rfl) (by kernel_rfl) (by kernel_rfl)
      (by rw [MakeChecks.laidMetH_plain _ _ _ (by kernel_rfl)]; exact laidMet_laidAll _ (by kernel_rfl) (by kernel_rfl)))
    Tryd.laidOut (by kernel_rfl) rfl rfl rfl Tryd.underlying4 (fun ds h => match ds, h with | [_, _], _ => rfl) ?_
  intro W base args ds ps hval hA hlt hsz hL hsh
  rw [Tryd.params12] at hA hval hsz
  obtain ⟨v0, vs0, d0, ds0, p0, q0, hargs, rfl, rfl, h0, r0⟩ := trodAll_cons hA
  obtain ⟨v1, vs1, d1, ds1, p1, q1, rfl, rfl, rfl, h1, r1⟩ := trodAll_cons r0
  obtain ⟨rfl, rfl, rfl⟩ := trodAll_nil r1
  obtain rfl : args = #[v0, v1] := by cases args; simp_all
  obtain ⟨x0, A0, n0, c0, D0, rfl, k0, l0⟩ := open_Big (hval 0 24 v0 rfl rfl) h0 (fun x hx => hlt x (by simp [hx]))
  obtain ⟨x1, A1, n1, c1, D1, rfl, k1, l1⟩ := open_Big (hval 1 24 v1 rfl rfl) h1 (fun x hx => hlt x (by simp [hx]))
  exact bigintMemory_walk x0 A0 n0 c0 D0 x1 A1 n1 c1 D1 W k0 l0 k1 l1 (env_of hL)

theorem bigintMemory_holds : Rows.BigintMemorySaid :=
  OpenClaim.holds_of_wide 12 Tryd.f12 rfl rfl rfl rfl rfl rfl rfl ⟨rfl, rfl, rfl, rfl, rfl⟩ rfl rfl rfl rfl rfl (by kernel_rfl) Tryd.func12 (by kernel_rfl)
    (of_decide_eq_true (by kernel_rfl)) (by unfold Func.isWrapper; first | (rw [if_pos (by decide +kernel)]; kernel_rfl) | (rw [if_neg (by decide +kernel)]; exact ⟨rfl, rfl⟩))
    (fun os started H enc _ => bigintMemory_lifted os started H enc)

theorem bigintMemory_proved : Rows.BigintMemoryCardSaid :=
  Claim7.holds_tied_plain_at .later [] [.data, .data, .data] true (true, "1d762e0d4f9c983056144b13e0838cadf91257c531d4dc3566f789e4f130c6f2") false
    bigintMemory_holds (fun _ h => by cases h) (by kernel_rfl) (fun _ h => by cases h) bigintMemory_row_tie rfl ⟨rfl, rfl⟩ (by kernel_rfl) rfl
    (fun f fn hf hfn => by
      obtain rfl : f = 12 := Option.some.inj ((show Tryd.prog.funcNamed "disjoint/disjointlaw02.BigintMemory" = some 12 by kernel_rfl).symm.trans hf) |>.symm
      obtain rfl : fn = Tryd.f12 := (Option.some.inj (Tryd.func12.symm.trans hfn)).symm
      exact ⟨by kernel_rfl, fun j t ht => by
        rw [Tryd.params12] at ht
        have hm : t ∈ [24, 24] := by simpa using Array.mem_of_getElem? ht
        have hall : ([24, 24].all fun u => !Tryd.prog.wantsStandIn u) = true := by kernel_rfl
        exact (show Tryd.prog.wantsStandIn t = false by simpa using List.all_eq_true.1 hall t hm)⟩)
    (by kernel_rfl)
end Go.Proofs.YtndkcimdbidgaaaDoor
