/- Law ChecksumCheck: the walk. -/
import Derived.Test.YtpnemkphdminnaaDoorEnv
namespace Go.Proofs.YtpnemkphdminnaaDoor
open Go.ChangeShapes Go.WideShapes Go.ChangeAt Go.RowKit Go.ChangeMaps

set_option maxRecDepth 100000 in
set_option maxHeartbeats 1000000 in
theorem checksumCheck_walk (A : Option Addr) (n c : Nat) (l : List UInt8) (w : World) (k0 : BytesAt w A n l) (l0 : n ≤ c) (g0 : c ≤ 9223372036854775807) (he : Env2 w) :
    Calls Tryd.prog 6 #[.slice A n c] w fun e w' => e = .returned (.bool true) ∧ Below w.heap.size w w' := by
  have HE := Lib.hid he
  have HB := Lib.hid k0
  have HL := Lib.hid k0.1
  clear k0 he
  by_cases h300 : 300 < n
  · go_enter Tryd.func6, Tryd.ntmps6
    go_wp2_with fail
    refine (awake_any _ HE.out).mono ?_
    rintro e w1 ⟨rfl, hb1⟩
    have B1 := Lib.hid hb1
    clear hb1
    go_wp2_with fail
    refine (awake_any _ (HE.out.below B1.out)).mono ?_
    rintro e w2 ⟨rfl, hb2⟩
    have B2 := Lib.hid (more_below B1.out hb2)
    clear hb2
    go_wp2
    go_ret
    exact ⟨rfl, B2.out⟩
  · have h300' : n ≤ 300 := by omega
    go_enter Tryd.func6, Tryd.ntmps6
    go_wp2_with fail
    refine (awake_any _ HE.out).mono ?_
    rintro e w1 ⟨rfl, hb1⟩
    have B1 := Lib.hid hb1
    clear hb1
    go_wp2_with fail
    refine (cp_any _ n _ l _ (HB.out.below B1.out) (by omega)).mono ?_
    rintro e w2 ⟨v2, rfl, o2, hb2⟩
    obtain ⟨A2, c2, rfl, y2, f2, g2⟩ := own_bytes2 (n := n) HL.out o2
    have B2 := Lib.hid (more_below B1.out hb2)
    clear hb2 o2
    have S1 := Lib.hid (Check_all A2 n c2 l w2 y2 (by omega) f2 g2 (HE.out.below B2.out).e)
    have S2 := Lib.hid (fun w hb => CheckRef_all A n c l w hb (by omega) l0 g0)
    clear y2 f2 g2
    generalize (ckR l).1 = q at *
    generalize (ckR l).2 = z at *
    go_wp2_with fail
    refine S1.out.mono ?_
    rintro e w3 ⟨v3, rfl, o3, hb3⟩
    have B3 := Lib.hid (more_below B2.out hb3)
    have O3 := Lib.hid o3
    clear hb3 o3
    go_wp2_with fail
    refine (S2.out _ (HB.out.below B3.out)).mono ?_
    rintro e w4 ⟨v4, rfl, o4, hb4⟩
    have B4 := Lib.hid (more_below B3.out hb4)
    have q3 := run_string_own w4 22 9 5 _ v3 q Tryd.underlying22 Tryd.underlying5 Tryd.underlying9 (own_below O3.out hb4)
    have q4 := run_string_own w4 22 9 5 _ v4 q Tryd.underlying22 Tryd.underlying5 Tryd.underlying9 o4
    clear hb4 o4
    go_wp2
    go_ret
    exact ⟨rfl, B4.out⟩
end Go.Proofs.YtpnemkphdminnaaDoor
