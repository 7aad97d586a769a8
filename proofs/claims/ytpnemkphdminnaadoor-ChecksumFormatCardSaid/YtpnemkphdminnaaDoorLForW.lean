/- Law ChecksumFormat: the walk. -/
import Derived.Test.YtpnemkphdminnaaDoorEnv
namespace Go.Proofs.YtpnemkphdminnaaDoor
open Go.ChangeShapes Go.WideShapes Go.ChangeAt Go.RowKit Go.ChangeMaps

set_option maxRecDepth 100000 in
set_option maxHeartbeats 1000000 in
theorem checksumFormat_walk (s : Int) (w : World) (l0 : 0 ≤ s) (g0 : s ≤ 18446744073709551615) (he : Env2 w) :
    Calls Tryd.prog 7 #[.int .u64 s] w fun e w' => e = .returned (.bool true) ∧ Below w.heap.size w w' := by
  obtain ⟨m, rfl⟩ := Int.eq_ofNat_of_zero_le l0
  have hm : m < 18446744073709551616 := by omega
  have HE := Lib.hid he
  have F := Lib.hid (fun w h => Format_any m w hm h)
  have T := Lib.hid (fun w => Text_any m w hm)
  clear he
  generalize hexs 16 m = q at *
  · go_enter Tryd.func7, Tryd.ntmps7
    go_wp2_with fail
    refine (awake_any _ HE.out).mono ?_
    rintro e w1 ⟨rfl, hb1⟩
    have B1 := Lib.hid hb1
    clear hb1
    go_wp2_with fail
    refine (F.out _ (HE.out.below B1.out).z).mono ?_
    rintro e w2 ⟨rfl, hb2⟩
    have B2 := Lib.hid (more_below B1.out hb2)
    clear hb2
    go_wp2_with fail
    refine (T.out _).mono ?_
    rintro e w' ⟨rfl, rfl⟩
    go_wp2
    go_ret
    exact ⟨rfl, B2.out⟩
end Go.Proofs.YtpnemkphdminnaaDoor
