/- Appending where there is no room, or to a failed disk. -/
import Derived.Test.YtgpofkabidginaaWco
namespace Go.Proofs.Ytgpofkabidginaa
open Go.ChangeShapes Go.WideShapes Go.ChangeAt Go.RowKit Go.ChangeMaps

theorem App_full (F : Nat → Prop) (w : World) (g p : Nat) (L : Lg) (hL : Lk F w g p L) (hc : L.c ≤ 65536) (hn : L.n ≤ 100000000) (A : Option Addr) (m c : Nat) (hm : m ≤ 100000000) (hfree : freeM (59 * (L.c : Int) - (L.n : Int)) < (m : Int)) :
    Calls Try.prog 18 #[.pointer (some ⟨g, 0, none⟩), .slice A m c] w fun e w' => e = .returned (.int .i64 16) ∧ Below w.heap.size w w' := by
  have HFR := Lib.hid (FreeL_any F w g p L hL hc hn)
  obtain ⟨fr, hfr⟩ : ∃ x, freeM (59 * (L.c : Int) - (L.n : Int)) = x := ⟨_, rfl⟩
  rw [hfr] at HFR hfree
  clear hfr hL
  go_enter Try.func18, Try.ntmps18
  go_wp2_with fail
  refine HFR.out.mono ?_
  rintro e w1 ⟨rfl, kk, rfl⟩
  go_wp2
  go_ret
  exact ⟨rfl, below_drewN (Below.refl _ _)⟩
theorem App_down (F : Nat → Prop) (w : World) (g p q : Nat) (L : Lg) (s : St) (hL : Lk F w g p L) (hD : Dk w p q s) (hf : s.f = true) (hc : L.c ≤ 65536) (hn : L.n ≤ 100000000) (A : Option Addr) (m c : Nat) (hm : m ≤ 100000000) (hfree : (m : Int) ≤ freeM (59 * (L.c : Int) - (L.n : Int))) :
    Calls Try.prog 18 #[.pointer (some ⟨g, 0, none⟩), .slice A m c] w fun e w' => e = .returned (.int .i64 15) ∧ Below w.heap.size w w' := by
  have HFR := Lib.hid (FreeL_any F w g p L hL hc hn)
  have HD := Lib.hid hD
  obtain ⟨A0, cap0, hblk, -⟩ := hL
  have c0 : w.cell? ⟨g, 0, none⟩ = some (.pointer (some ⟨p, 0, none⟩)) := hblk.cell 0
  obtain ⟨fr, hfr⟩ : ∃ x, freeM (59 * (L.c : Int) - (L.n : Int)) = x := ⟨_, rfl⟩
  rw [hfr] at HFR hfree
  clear hfr hblk hD
  go_enter Try.func18, Try.ntmps18
  go_wp2_with fail
  refine HFR.out.mono ?_
  rintro e w1 ⟨rfl, kk, rfl⟩
  go_wp2_with fail
  refine (Failed_any _ p q s (HD.out.below (below_drewN (Below.refl _ w)))).mono ?_
  rintro e w1 ⟨rfl, hw1⟩
  rw [hf]
  have HB1 := Lib.hid (show Below w.heap.size w w1 from hw1 ▸ below_drewN (Below.refl _ w))
  clear hw1
  go_wp2
  go_ret
  exact ⟨rfl, HB1.out⟩
/-- The blocks that change: the disks, the logs. -/
def F6 (p q r t g m : Nat) : Nat → Prop := fun k => F4 p q r t k ∨ k = g ∨ k = m
theorem freeM_pos {c : Nat} (h : 1 ≤ c) (hc : c ≤ 65536) : (0 : Int) ≤ freeM (59 * (c : Int) - ((0 : Nat) : Int)) := by unfold freeM; omega
end Go.Proofs.Ytgpofkabidginaa
