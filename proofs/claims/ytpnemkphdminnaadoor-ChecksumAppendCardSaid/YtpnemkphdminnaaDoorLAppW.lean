/- Law ChecksumAppend: the walk. -/
import Derived.Test.YtpnemkphdminnaaDoorEnv
import Derived.Test.YtpnemkphdminnaaDoorOne
namespace Go.Proofs.YtpnemkphdminnaaDoor
open Go.ChangeShapes Go.WideShapes Go.ChangeAt Go.RowKit Go.ChangeMaps

set_option maxRecDepth 100000 in
set_option maxHeartbeats 1000000 in
theorem checksumAppend_walk (A : Option Addr) (n c : Nat) (l : List UInt8) (w : World) (k0 : BytesAt w A n l) (l0 : n ≤ c) (g0 : c ≤ 9223372036854775807) (he : Env2 w) :
    Calls Tryd.prog 5 #[.slice A n c] w fun e w' => e = .returned (.bool true) ∧ Below w.heap.size w w' := by
  have HE := Lib.hid he
  have HB := Lib.hid k0
  have HL := Lib.hid k0.1
  clear k0 he
  by_cases h300 : 300 < n
  · go_enter Tryd.func5, Tryd.ntmps5
    go_wp2_with fail
    refine (awake_any _ HE.out).mono ?_
    rintro e w1 ⟨rfl, hb1⟩
    have B1 := Lib.hid hb1
    clear hb1
    go_wp2_with fail
    refine (awake_any _ (HE.out.below B1.out)).mono ?_
    rintro e w2 ⟨rfl, hb2⟩
    have B2 := Lib.hid (more_below B1.out hb2)
    clear hb2
    go_wp2
    go_ret
    exact ⟨rfl, B2.out⟩
  · have h300' : n ≤ 300 := by omega
    have S2 := Lib.hid (fun w hb => Append_ref A n c l w hb h300')
    have HK := Lib.hid (ck_append l)
    have HN := Lib.hid (show (l ++ le8 8 (crc 0 l)).length = n + 8 by rw [List.length_append, le8_len, HL.out])
    go_enter Tryd.func5, Tryd.ntmps5
    go_wp2_with fail
    refine (awake_any _ HE.out).mono ?_
    rintro e w1 ⟨rfl, hb1⟩
    have B1 := Lib.hid hb1
    clear hb1
    go_wp2_with fail
    refine (cp_any _ n _ l _ (HB.out.below B1.out) (by omega)).mono ?_
    rintro e w2 ⟨v2, rfl, o2, hb2⟩
    obtain ⟨A2, c2, rfl, y2, f2, g2⟩ := own_bytes2 (n := n) HL.out o2
    have B2 := Lib.hid (more_below B1.out hb2)
    clear hb2 o2
    have S1 := Lib.hid (Append_any A2 n c2 l w2 y2 h300' (HE.out.below B2.out).e)
    clear y2 f2 g2
    generalize l ++ le8 8 (crc 0 l) = q at *
    go_wp2_with fail
    refine S1.out.mono ?_
    rintro e w3 ⟨v3, rfl, o3, hb3⟩
    obtain ⟨A3, c3, rfl, y3, f3, g3⟩ := own_bytes2 (n := n + 8) HN.out o3
    have B3 := Lib.hid (more_below B2.out hb3)
    have Y3 := Lib.hid y3
    clear hb3 o3
    go_wp2_with fail
    refine (cp_any _ (n + 8) _ q _ y3 (by omega)).mono ?_
    rintro e w4 ⟨v4, rfl, o4, hb4⟩
    obtain ⟨A4, c4, rfl, y4, f4, g4⟩ := own_bytes2 (n := n + 8) HN.out o4
    have B4 := Lib.hid (more_below B3.out hb4)
    have Y4 := Lib.hid (Y3.out.below hb4)
    have S4 := Lib.hid (Check_all A4 (n + 8) c4 q w4 y4 (by omega) f4 g4 (HE.out.below B4.out).e)
    rw [HK.out] at S4
    clear hb4 o4 y4 f4 g4 y3 f3 g3
    go_wp2_with fail
    refine S4.out.mono ?_
    rintro e w5 ⟨v5, rfl, o5, hb5⟩
    have B5 := Lib.hid (more_below B4.out hb5)
    have Y5 := Lib.hid (Y4.out.below hb5)
    have O5 := Lib.hid o5
    clear hb5 o5
    go_wp2_with fail
    have qa : ∀ d os, (convert 22 9 (.slice A3 (n + 8) c3)).run Tryd.prog (Go.Sort.grow (redrawn w5 d) os) = .ok (.string ⟨q.toArray⟩) (Go.Sort.grow (redrawn w5 d) os) := fun d os => string_at (c := c3) (Y5.out.below (below_regrown _ _ _))
    have D5 : Below w5.heap.size w5 w5.drew := below_drew (Below.refl _ _)
    refine wp_region_one_below 3 (fun v w' => w'.ownsRow w5.heap.size 5 1 v q.length (bc q) ∧ Below w5.heap.size w5 w') (by kernel_rfl) (by kernel_rfl) (by kernel_rfl) (by kernel_rfl) (fun _ _ h => h.2) ?_
    refine ⟨_, _, rfl, ?_⟩
    simp only [List.take_succ_cons, List.take_zero]
    repeat (first | go_big_quiet_step (fail) | quiet_step (fail))
    refine wpQuiet_nil ⟨?_, ?_⟩
    · refine ⟨by first | rfl | simp [Region.wanted, yielded], ?_⟩
      go_simp
      refine ⟨_, _, ⟨rfl, rfl⟩, ?_⟩
      refine (S2.out _ (HB.out.below (more_below B5.out D5))).mono ?_
      rintro e w6 ⟨v6, rfl, o6, hb6⟩
      exact ⟨v6, rfl, o6, D5.trans hb6⟩
    · rintro v6 w6 ⟨o6, hb6⟩
      have qa := string_at (c := c3) (Y5.out.below hb6)
      have qb := string_at (c := c) (HB.out.below (more_below B5.out hb6))
      have qc := run_string_own w6 22 9 5 _ v5 l Tryd.underlying22 Tryd.underlying5 Tryd.underlying9 (own_below O5.out hb6)
      have qd := run_string_own w6 22 9 5 _ v6 _ Tryd.underlying22 Tryd.underlying5 Tryd.underlying9 o6
      repeat (first | go_big_quiet_step (fail) | quiet_step (fail))
      refine wpQuiet_nil ?_
      have HB1 := Lib.hid hb6
      clear hb6 qa qb qc qd
      go_wp2
      go_ret
      exact ⟨rfl, more_below B5.out HB1.out⟩
end Go.Proofs.YtpnemkphdminnaaDoor
