/- A new session. -/
import Derived.Test.YtgcjbpiofcggcaaSpl
import Derived.Test.YtgcjbpiofcggcaaCln
import Derived.Test.YtgcjbpiofcggcaaSes
namespace Go.Proofs.Ytgcjbpiofcggcaa
open Go.ChangeShapes Go.WideShapes Go.ChangeAt Go.RowKit Go.ChangeMaps

set_option maxRecDepth 100000 in
set_option maxHeartbeats 1000000 in
theorem New_any (num : Nat) (A : Option Addr) (n c : Nat) (K : List Int) (w : World) (hr : At w A n 22 (stC K n)) (hL : K.length = n) (hn : n ≤ 300000000000) (hc : n ≤ c) (hA : A = none → n = 0 ∧ c = 0) (hnum : num < 8) :
    Calls Try.prog 14 #[.int .i64 (num : Int), .slice A n c] w fun e w' => ∃ p, e = .returned (.pointer (some ⟨p, 0, none⟩)) ∧ Ses w' w.heap.size (p + 1) p num K 0 0 ∧ Below w.heap.size w w' := by
  have C1 := Lib.hid (fun w hr => Clone_any A n c (stC K n) w hr (stC_one K n) hn hA)
  have C2 := Lib.hid (fun w hr => Split_any A n c K w hr hL hn hc)
  have HR := Lib.hid hr
  have HL := Lib.hid hL
  clear hr hL hA hc
  have t1 : decide ((num : Int) < 0) = false := by simp
  have t2 : decide ((num : Int) ≥ 8) = false := by simp; omega
  go_enter Try.func14, Try.ntmps14
  go_wp2_with fail
  refine (C1.out w HR.out).mono ?_
  rintro e w1 ⟨v1, rfl, ho1, hb1⟩
  obtain ⟨A1, c1, rfl, _⟩ := At.of_own ho1
  have HO1 := Lib.hid ho1
  have HB1 := Lib.hid hb1
  clear ho1 hb1
  go_wp2_with fail
  refine (C2.out w1 (HR.out.below HB1.out)).mono ?_
  rintro e w2 ⟨v2, rfl, ho2, hb2⟩
  obtain ⟨A2, c2, rfl, _⟩ := At.of_own ho2
  have HO1 := Lib.hid (own_below HO1.out hb2)
  have HO2 := Lib.hid (own_mono ho2 HB1.out.size)
  have HB2 := Lib.hid (HB1.out.trans (hb2.mono HB1.out.size))
  clear ho2 hb2
  go_wp2
  go_ret
  refine ⟨_, rfl, ?_, HB2.out.alloc HB2.out.size _⟩
  have s2 := HB2.out.size
  subst HL
  refine ⟨_, _, Blk.new _ _ _, HB2.out.size, by omega, ⟨HO1.out.alloc _, fun k hk => by have := (HO1.out.lt k hk).2; omega⟩, ⟨HO2.out.alloc _, fun k hk => by have := (HO2.out.lt k hk).2; omega⟩, by omega, by omega, hn, hnum⟩
theorem New_bad (x : Int) (hx : x < 0 ∨ 8 ≤ x) (v : Value) (w : World) : Calls Try.prog 14 #[.int .i64 x, v] w fun e w' => e = .returned (.pointer none) ∧ w = w' := by
  rcases hx with h | h
  · have t1 : decide (x < 0) = true := by simpa using h
    go_enter Try.func14, Try.ntmps14
    go_wp2
    go_ret
    exact ⟨rfl, rfl⟩
  · have t1 : decide (x < 0) = false := by simp; omega
    have t2 : decide (x ≥ 8) = true := by simpa using h
    go_enter Try.func14, Try.ntmps14
    go_wp2
    go_ret
    exact ⟨rfl, rfl⟩
end Go.Proofs.Ytgcjbpiofcggcaa
