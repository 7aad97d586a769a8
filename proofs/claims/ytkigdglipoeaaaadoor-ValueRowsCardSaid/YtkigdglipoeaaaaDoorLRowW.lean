/- Law ValueRows: the walk. -/
import Derived.Test.YtkigdglipoeaaaaDoorLng
namespace Go.Proofs.YtkigdglipoeaaaaDoor
open Go.ChangeShapes Go.WideShapes Go.ChangeAt Go.RowKit Go.ChangeMaps

theorem vcmp_self (x : V3) : vcmp x x = 0 := (vcmp_zero x x).2 ⟨rfl, rfl, rfl⟩
theorem rcmp_self (R : List V3) : rcmp R R = 0 := by
  unfold rcmp
  induction R with
  | nil => rfl
  | cons a l ih => unfold lex; rw [if_pos (vcmp_self a)]; exact ih
set_option maxRecDepth 100000 in
theorem valueRows_long0 (A : Option Addr) (n c : Nat) (R : List V3) (D : Option Addr) (m d : Nat) (S : List V3) (w : World) (hr : RowAt w A n R) (hn : n ≤ 9223372036854775807) (hR : ∀ x ∈ R, x.ok) (hs : RowAt w D m S) (hm : m ≤ 9223372036854775807) (hS : ∀ x ∈ S, x.ok) (hE : Env w) (l0 : lrow R = true) :
    Calls Tryd.prog 4 #[.slice A n c, .slice D m d] w fun e w' => e = .returned (.bool true) ∧ Below w.heap.size w w' := by
  have L0 := fun w (hr : RowAt w A n R) => longRow_any A n c R w hr hn
  rw [l0] at L0
  have L0 := Lib.hid L0
  have HE := Lib.hid hE
  have HR := Lib.hid hr
  have HS := Lib.hid hs
  clear hE hr hs
  have B1 := Below.refl w.heap.size w
  go_enter Tryd.func4, Tryd.ntmps4
  go_wp2_with fail
  refine (awake_any _ (HE.out.below B1)).mono ?_
  rintro e w0 ⟨rfl, hb⟩
  have B1 := more_below B1 hb
  clear hb
  go_wp2_with fail
  refine (L0.out _ (HR.out.below B1)).mono ?_
  rintro e w1 ⟨rfl, hb⟩
  have B1 := more_below B1 hb
  clear hb
  go_wp2_with fail
  refine (awake_any _ (HE.out.below B1)).mono ?_
  rintro e w2 ⟨rfl, hb⟩
  have B1 := more_below B1 hb
  clear hb
  go_wp2
  go_ret
  exact ⟨rfl, B1⟩
set_option maxRecDepth 100000 in
theorem valueRows_long1 (A : Option Addr) (n c : Nat) (R : List V3) (D : Option Addr) (m d : Nat) (S : List V3) (w : World) (hr : RowAt w A n R) (hn : n ≤ 9223372036854775807) (hR : ∀ x ∈ R, x.ok) (hs : RowAt w D m S) (hm : m ≤ 9223372036854775807) (hS : ∀ x ∈ S, x.ok) (hE : Env w) (l0 : lrow R = false) (l1 : lrow S = true) :
    Calls Tryd.prog 4 #[.slice A n c, .slice D m d] w fun e w' => e = .returned (.bool true) ∧ Below w.heap.size w w' := by
  have L0 := fun w (hr : RowAt w A n R) => longRow_any A n c R w hr hn
  rw [l0] at L0
  have L0 := Lib.hid L0
  have L1 := fun w (hr : RowAt w D m S) => longRow_any D m d S w hr hm
  rw [l1] at L1
  have L1 := Lib.hid L1
  have HE := Lib.hid hE
  have HR := Lib.hid hr
  have HS := Lib.hid hs
  clear hE hr hs
  have B1 := Below.refl w.heap.size w
  go_enter Tryd.func4, Tryd.ntmps4
  go_wp2_with fail
  refine (awake_any _ (HE.out.below B1)).mono ?_
  rintro e w0 ⟨rfl, hb⟩
  have B1 := more_below B1 hb
  clear hb
  go_wp2_with fail
  refine (L0.out _ (HR.out.below B1)).mono ?_
  rintro e w1 ⟨rfl, hb⟩
  have B1 := more_below B1 hb
  clear hb
  go_wp2_with fail
  refine (L1.out _ (HS.out.below B1)).mono ?_
  rintro e w2 ⟨rfl, hb⟩
  have B1 := more_below B1 hb
  clear hb
  go_wp2_with fail
  refine (awake_any _ (HE.out.below B1)).mono ?_
  rintro e w3 ⟨rfl, hb⟩
  have B1 := more_below B1 hb
  clear hb
  go_wp2
  go_ret
  exact ⟨rfl, B1⟩
set_option maxRecDepth 100000 in
theorem valueRows_in (A : Option Addr) (n c : Nat) (R : List V3) (D : Option Addr) (m d : Nat) (S : List V3) (w : World) (hr : RowAt w A n R) (hn : n ≤ 9223372036854775807) (hR : ∀ x ∈ R, x.ok) (hs : RowAt w D m S) (hm : m ≤ 9223372036854775807) (hS : ∀ x ∈ S, x.ok) (hE : Env w) (l0 : lrow R = false) (l1 : lrow S = false) :
    Calls Tryd.prog 4 #[.slice A n c, .slice D m d] w fun e w' => e = .returned (.bool true) ∧ Below w.heap.size w w' := by
  have L0 := fun w (hr : RowAt w A n R) => longRow_any A n c R w hr hn
  rw [l0] at L0
  have L0 := Lib.hid L0
  have L1 := fun w (hr : RowAt w D m S) => longRow_any D m d S w hr hm
  rw [l1] at L1
  have L1 := Lib.hid L1
  have P1 := Lib.hid (fun w (hr : RowAt w A n R) (hs : RowAt w D m S) => VRows_any A n c R D m d S w hr hn hR hs hm hS)
  have P2 := Lib.hid (fun w (hr : RowAt w A n R) (hs : RowAt w D m S) => Rows_any A n c R D m d S w hr hn hR hs hm hS)
  have P3 := fun w (hr : RowAt w A n R) => VRows_any A n c R A n c R w hr hn hR hr hn hR
  rw [rcmp_self] at P3
  have P3 := Lib.hid P3
  generalize rcmp R S = z at *
  have HE := Lib.hid hE
  have HR := Lib.hid hr
  have HS := Lib.hid hs
  clear hE hr hs
  have B1 := Below.refl w.heap.size w
  go_enter Tryd.func4, Tryd.ntmps4
  go_wp2_with fail
  refine (awake_any _ (HE.out.below B1)).mono ?_
  rintro e w0 ⟨rfl, hb⟩
  have B1 := more_below B1 hb
  clear hb
  go_wp2_with fail
  refine (L0.out _ (HR.out.below B1)).mono ?_
  rintro e w1 ⟨rfl, hb⟩
  have B1 := more_below B1 hb
  clear hb
  go_wp2_with fail
  refine (L1.out _ (HS.out.below B1)).mono ?_
  rintro e w2 ⟨rfl, hb⟩
  have B1 := more_below B1 hb
  clear hb
  go_wp2_with fail
  refine (P1.out _ (HR.out.below B1) (HS.out.below B1)).mono ?_
  rintro e w3 ⟨rfl, hb⟩
  have B1 := more_below B1 hb
  clear hb
  go_wp2_with fail
  refine (P2.out _ (HR.out.below B1) (HS.out.below B1)).mono ?_
  rintro e w4 ⟨rfl, hb⟩
  have B1 := more_below B1 hb
  clear hb
  go_wp2_with fail
  refine (P3.out _ (HR.out.below B1)).mono ?_
  rintro e w5 ⟨rfl, hb⟩
  have B1 := more_below B1 hb
  clear hb
  go_wp2
  go_ret
  exact ⟨rfl, B1⟩
theorem valueRows_walk (A : Option Addr) (n c : Nat) (R : List V3) (D : Option Addr) (m d : Nat) (S : List V3) (w : World) (hr : RowAt w A n R) (hn : n ≤ 9223372036854775807) (hR : ∀ x ∈ R, x.ok) (hs : RowAt w D m S) (hm : m ≤ 9223372036854775807) (hS : ∀ x ∈ S, x.ok) (hE : Env w) :
    Calls Tryd.prog 4 #[.slice A n c, .slice D m d] w fun e w' => e = .returned (.bool true) ∧ Below w.heap.size w w' := by
  rcases l0 : lrow R with _ | _
  · rcases l1 : lrow S with _ | _
    · exact valueRows_in A n c R D m d S w hr hn hR hs hm hS hE l0 l1
    · exact valueRows_long1 A n c R D m d S w hr hn hR hs hm hS hE l0 l1
  · exact valueRows_long0 A n c R D m d S w hr hn hR hs hm hS hE l0
end Go.Proofs.YtkigdglipoeaaaaDoor
