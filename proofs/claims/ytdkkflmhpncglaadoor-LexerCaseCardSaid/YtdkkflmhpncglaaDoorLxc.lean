/- Classes of bytes. -/
import Derived.Test.YtdkkflmhpncglaaDoorLws
import Derived.Test.YtdkkflmhpncglaaDoorApp
import Derived.Test.YtdkkflmhpncglaaDoorSlc
import Derived.Test.YtdkkflmhpncglaaDoorOne
import Derived.Test.YtdkkflmhpncglaaDoorMix
namespace Go.Proofs.YtdkkflmhpncglaaDoor
open Go.ChangeShapes Go.WideShapes Go.ChangeAt Go.RowKit Go.ChangeMaps

def ltrN (x : Nat) : Bool := decide ((97 : Int) ≤ x) && decide ((x : Int) ≤ 122) || decide ((65 : Int) ≤ x) && decide ((x : Int) ≤ 90)
def dgtN (x : Nat) : Bool := decide ((48 : Int) ≤ x) && decide ((x : Int) ≤ 57)
def prtN (x : Nat) : Bool := decide ((32 : Int) ≤ x) && decide ((x : Int) ≤ 126)
def spcN (x : Nat) : Bool := ((x : Int) == 32) || ((x : Int) == 9) || ((x : Int) == 10)
set_option maxRecDepth 100000 in
set_option maxHeartbeats 1000000 in
theorem isLetter_any (x : Nat) (w : World) : Calls Tryd.prog 39 #[.int .u8 (x : Int)] w fun e w' => e = .returned (.bool (ltrN x)) ∧ w' = w := by
  obtain ⟨r, hr⟩ : ∃ r, ltrN x = r := ⟨_, rfl⟩
  rw [hr]
  unfold ltrN at hr
  cases t0 : decide ((97 : Int) ≤ x) <;> cases t1 : decide ((x : Int) ≤ 122) <;> cases t2 : decide ((65 : Int) ≤ x) <;> cases t3 : decide ((x : Int) ≤ 90) <;>
  · rw [t0, t1, t2, t3] at hr
    have HR := Lib.hid hr
    clear hr
    go_enter Tryd.func39, Tryd.ntmps39
    go_wp2
    go_ret
    exact ⟨by rw [← HR.out]; rfl, rfl⟩
set_option maxRecDepth 100000 in
set_option maxHeartbeats 1000000 in
theorem letter_any (x : Nat) (w : World) : Calls Tryd.prog 45 #[.int .u8 (x : Int)] w fun e w' => e = .returned (.bool (ltrN x)) ∧ w' = w := by
  obtain ⟨r, hr⟩ : ∃ r, ltrN x = r := ⟨_, rfl⟩
  rw [hr]
  unfold ltrN at hr
  cases t0 : decide ((97 : Int) ≤ x) <;> cases t1 : decide ((x : Int) ≤ 122) <;> cases t2 : decide ((65 : Int) ≤ x) <;> cases t3 : decide ((x : Int) ≤ 90) <;>
  · rw [t0, t1, t2, t3] at hr
    have HR := Lib.hid hr
    clear hr
    go_enter Tryd.func45, Tryd.ntmps45
    go_wp2
    go_ret
    exact ⟨by rw [← HR.out]; rfl, rfl⟩
set_option maxRecDepth 100000 in
set_option maxHeartbeats 1000000 in
theorem isDigit_any (x : Nat) (w : World) : Calls Tryd.prog 41 #[.int .u8 (x : Int)] w fun e w' => e = .returned (.bool (dgtN x)) ∧ w' = w := by
  obtain ⟨r, hr⟩ : ∃ r, dgtN x = r := ⟨_, rfl⟩
  rw [hr]
  unfold dgtN at hr
  cases t0 : decide ((48 : Int) ≤ x) <;> cases t1 : decide ((x : Int) ≤ 57) <;>
  · rw [t0, t1] at hr
    have HR := Lib.hid hr
    clear hr
    go_enter Tryd.func41, Tryd.ntmps41
    go_wp2
    go_ret
    exact ⟨by rw [← HR.out]; rfl, rfl⟩
set_option maxRecDepth 100000 in
set_option maxHeartbeats 1000000 in
theorem digit_any (x : Nat) (w : World) : Calls Tryd.prog 28 #[.int .u8 (x : Int)] w fun e w' => e = .returned (.bool (dgtN x)) ∧ w' = w := by
  obtain ⟨r, hr⟩ : ∃ r, dgtN x = r := ⟨_, rfl⟩
  rw [hr]
  unfold dgtN at hr
  cases t0 : decide ((48 : Int) ≤ x) <;> cases t1 : decide ((x : Int) ≤ 57) <;>
  · rw [t0, t1] at hr
    have HR := Lib.hid hr
    clear hr
    go_enter Tryd.func28, Tryd.ntmps28
    go_wp2
    go_ret
    exact ⟨by rw [← HR.out]; rfl, rfl⟩
set_option maxRecDepth 100000 in
set_option maxHeartbeats 1000000 in
theorem isPrintable_any (x : Nat) (w : World) : Calls Tryd.prog 50 #[.int .u8 (x : Int)] w fun e w' => e = .returned (.bool (prtN x)) ∧ w' = w := by
  obtain ⟨r, hr⟩ : ∃ r, prtN x = r := ⟨_, rfl⟩
  rw [hr]
  unfold prtN at hr
  cases t0 : decide ((32 : Int) ≤ x) <;> cases t1 : decide ((x : Int) ≤ 126) <;>
  · rw [t0, t1] at hr
    have HR := Lib.hid hr
    clear hr
    go_enter Tryd.func50, Tryd.ntmps50
    go_wp2
    go_ret
    exact ⟨by rw [← HR.out]; rfl, rfl⟩
set_option maxRecDepth 100000 in
set_option maxHeartbeats 1000000 in
theorem space_any (x : Nat) (w : World) : Calls Tryd.prog 44 #[.int .u8 (x : Int)] w fun e w' => e = .returned (.bool (spcN x)) ∧ w' = w := by
  obtain ⟨r, hr⟩ : ∃ r, spcN x = r := ⟨_, rfl⟩
  rw [hr]
  unfold spcN at hr
  cases t0 : ((x : Int) == 32) <;> cases t1 : ((x : Int) == 9) <;> cases t2 : ((x : Int) == 10) <;>
  · rw [t0, t1, t2] at hr
    have HR := Lib.hid hr
    clear hr
    go_enter Tryd.func44, Tryd.ntmps44
    go_wp2
    go_ret
    exact ⟨by rw [← HR.out]; rfl, rfl⟩
end Go.Proofs.YtdkkflmhpncglaaDoor
