/- Law ValueTrichotomy, the tied card: for every input the call returns true, and its arguments read afterwards as before; on the condition that the listed tables of the library start as the program text lays them, which the card ties to that text. -/
import Derived.Test.YtkigdglipoeaaaaDoorLTriW
import Derived.Test.YtkigdglipoeaaaaDoorLws
import Derived.Test.YtkigdglipoeaaaaDoorCards
import Derived.Test.YtkigdglipoeaaaaDoorTie
namespace Go.Proofs.YtkigdglipoeaaaaDoor
open Go.ChangeShapes Go.WideShapes Go.ChangeAt Go.RowKit Go.ChangeMaps

set_option maxRecDepth 100000 in
theorem valueTrichotomy_lifted (os : Os) (started : os.Started) (H : Type) (enc : TypeId × Value → H) :
    ReturnsInHanded {} Tryd.checked os 7 .any (fun w args => (Rows.valueTrichotomySpec.pre enc Tryd.prog Tryd.f7 [] false w args ∧ laidMetH Tryd.prog Rows.valueTrichotomyRow.laid w) ∧ sizedMet enc Tryd.prog Tryd.f7 (OpenSpec.ofChange Rows.valueTrichotomySpec) false w args)
      (Rows.valueTrichotomySpec.post enc Tryd.prog Tryd.f7 false true false false) := by
  refine door_shaped (C := Tryd.checked) (B := 4) Tryd.own started (by kernel_rfl) Tryd.func7
    (ChangeSpec.witness_shaped (enc := enc) (C := Tryd.checked) (os := os) (X := fun w _ => laidMetH Tryd.prog Rows.valueTrichotomyRow.laid w) false (World.laidAll Tryd.prog os Rows.valueTrichotomyRow.laid) #[.agg #[.int .i64 0, .int .i64 0, .string ⟨#[]⟩], .agg #[.int .i64 0, .int .i64 0, .string ⟨#[]⟩]] 8 (World.laidAll_os _ _ _)
      (World.shaped_of_ZipB (by kernel_rfl) (by kernel_rfl)) (by kernel_rfl) (by kernel_rfl) (by kernel_rfl)
      (by rw [MakeChecks.laidMetH_plain _ _ _ (by kernel_rfl)]; exact laidMet_laidAll _ (by kernel_rfl) (by kernel_rfl)))
    Tryd.laidOut (by kernel_rfl) rfl rfl rfl Tryd.underlying4 (fun ds h => match ds, h with | [_, _], _ => rfl) ?_
  intro W base args ds ps hval hA hlt hsz hL hsh
  rw [Tryd.params7] at hA hval hsz
  obtain ⟨v0, vs0, d0, ds0, p0, q0, hargs, rfl, rfl, h0, r0⟩ := trodAll_cons hA
  obtain ⟨v1, vs1, d1, ds1, p1, q1, rfl, rfl, rfl, h1, r1⟩ := trodAll_cons r0
  obtain ⟨rfl, rfl, rfl⟩ := trodAll_nil r1
  obtain rfl : args = #[v0, v1] := by cases args; simp_all
  obtain ⟨x0, y0, z0, rfl, rfl, rfl, lx0, gx0, ly0, gy0, lz0⟩ := open_val (hval 0 23 v0 rfl rfl) h0
  obtain ⟨x1, y1, z1, rfl, rfl, rfl, lx1, gx1, ly1, gy1, lz1⟩ := open_val (hval 1 23 v1 rfl rfl) h1
  exact valueTrichotomy_walk x0 y0 z0 x1 y1 z1 W lx0 gx0 ly0 gy0 lz0 lx1 gx1 ly1 gy1 lz1 (env_of hL hsh)

theorem valueTrichotomy_holds : Rows.ValueTrichotomySaid :=
  OpenClaim.holds_of_wide 7 Tryd.f7 rfl rfl rfl rfl rfl rfl rfl ⟨rfl, rfl, rfl, rfl, rfl⟩ rfl rfl rfl rfl rfl (by kernel_rfl) Tryd.func7 (by kernel_rfl)
    (of_decide_eq_true (by kernel_rfl)) (by unfold Func.isWrapper; first | (rw [if_pos (by decide +kernel)]; kernel_rfl) | (rw [if_neg (by decide +kernel)]; exact ⟨rfl, rfl⟩))
    (fun os started H enc _ => valueTrichotomy_lifted os started H enc)

theorem valueTrichotomy_proved : Rows.ValueTrichotomyCardSaid :=
  Claim7.holds_tied_plain_at .later [] [.data, .data, .data, .data, .pinned] true (true, "a9832f81358393bb4ccdda0ed7890f8cb5abf2ec96743f216868da50bd1dc87b") true
    valueTrichotomy_holds (fun _ h => by cases h) (by kernel_rfl) (fun _ h => by cases h) valueTrichotomy_row_tie rfl ⟨rfl, rfl⟩ (by kernel_rfl) rfl
    (fun f fn hf hfn => by
      obtain rfl : f = 7 := Option.some.inj ((show Tryd.prog.funcNamed "disjoint/disjointlaw04.ValueTrichotomy" = some 7 by kernel_rfl).symm.trans hf) |>.symm
      obtain rfl : fn = Tryd.f7 := (Option.some.inj (Tryd.func7.symm.trans hfn)).symm
      exact ⟨by kernel_rfl, fun j t ht => by
        rw [Tryd.params7] at ht
        have hm : t ∈ [23, 23] := by simpa using Array.mem_of_getElem? ht
        have hall : ([23, 23].all fun u => !Tryd.prog.wantsStandIn u) = true := by kernel_rfl
        exact (show Tryd.prog.wantsStandIn t = false by simpa using List.all_eq_true.1 hall t hm)⟩)
    (by kernel_rfl)
end Go.Proofs.YtkigdglipoeaaaaDoor
