/- Law ValueParse: the walk. -/
import Derived.Test.YtkigdglipoeaaaaDoorRed
import Derived.Test.YtkigdglipoeaaaaDoorAwk
namespace Go.Proofs.YtkigdglipoeaaaaDoor
open Go.ChangeShapes Go.WideShapes Go.ChangeAt Go.RowKit Go.ChangeMaps

set_option maxRecDepth 100000 in
theorem valueParse_long (s : ByteArray) (w : World) (hP : EnvP w) (hl : 100 < s.size) (hs : s.size ≤ 9223372036854775807) :
    Calls Tryd.prog 10 #[.string s] w fun e w' => e = .returned (.bool true) ∧ Below w.heap.size w w' := by
  have HE := Lib.hid hP
  clear hP
  have t1 : decide ((s.size : Int) > 100) = true := decide_eq_true (by omega)
  have B1 := Below.refl w.heap.size w
  go_enter Tryd.func10, Tryd.ntmps10
  go_wp2_with fail
  refine (awake_any _ (HE.out.below B1).env).mono ?_
  rintro e w1 ⟨rfl, hb⟩
  have B1 := more_below B1 hb
  clear hb
  go_wp2_with fail
  refine (awake_any _ (HE.out.below B1).env).mono ?_
  rintro e w2 ⟨rfl, hb⟩
  have B1 := more_below B1 hb
  clear hb
  go_wp2
  go_ret
  exact ⟨rfl, B1⟩
set_option maxRecDepth 100000 in
set_option maxHeartbeats 1000000 in
theorem valueParse_in (s : ByteArray) (w : World) (hP : EnvP w) (hl : s.size ≤ 100) :
    Calls Tryd.prog 10 #[.string s] w fun e w' => e = .returned (.bool true) ∧ Below w.heap.size w w' := by
  have HE := Lib.hid hP
  have t1 : decide ((s.size : Int) > 100) = false := decide_eq_false (by omega)
  have PA := fun w hw => Parse_any s w hw (by omega)
  have PR := fun w => Read_any s w (by omega)
  have rc := read_cand s.data.toList
  clear hP
  by_cases hq : fmtV (readC s.data.toList) = s.data.toList
  · obtain ⟨h1, h2⟩ := rc.1.2 hq
    have e1 : parV s.data.toList = (readC s.data.toList, 0) := by unfold parV; rw [if_pos ⟨h1, h2⟩, rc.2 hq]
    have e2 : redV s.data.toList = (readC s.data.toList, true) := by unfold redV; rw [if_pos hq]
    rw [e1] at PA
    rw [e2] at PR
    have rb := read_bd s.data.toList
    have hsz : (readC s.data.toList).s.size ≤ 1000 := by
      rw [← rc.2 hq]
      have e : s.data.toList.length = s.size := by simp
      have := cand_size s.data.toList
      omega
    obtain ⟨x, hx⟩ : ∃ x, readC s.data.toList = x := ⟨_, rfl⟩
    rw [hx] at PA PR rb hsz hq
    rcases x with ⟨k, n, t⟩
    simp only at rb hsz
    have PF := fun w hE => VFormat_any k n t w hE rb.1 rb.2 (by omega)
    have ef : (⟨(fmtV ⟨k, n, t⟩).toArray⟩ : ByteArray) = s := by rw [hq]
    rw [ef] at PF
    have PA : Hid (∀ w, EnvP w → Calls Tryd.prog 27 #[.string s] w fun e w' => e = .returned (.tuple #[.agg #[.int .i64 k, .int .i64 n, .string t], .int .i64 0]) ∧ Below w.heap.size w w') := Lib.hid PA
    have PR : Hid (∀ w, Calls Tryd.prog 31 #[.string s] w fun e w' => e = .returned (.tuple #[.agg #[.int .i64 k, .int .i64 n, .string t], .bool true]) ∧ Below w.heap.size w w') := Lib.hid PR
    have PF := Lib.hid PF
    clear rc e1 e2 hx ef hq h1 h2
    have B1 := Below.refl w.heap.size w
    go_enter Tryd.func10, Tryd.ntmps10
    go_wp2_with fail
    refine (awake_any _ (HE.out.below B1).env).mono ?_
    rintro e w1 ⟨rfl, hb⟩
    have B1 := more_below B1 hb
    clear hb
    go_wp2_with fail
    refine (PA.out _ (HE.out.below B1)).mono ?_
    rintro e w2 ⟨rfl, hb⟩
    have B1 := more_below B1 hb
    have B1 := B1.alloc B1.size (.cells #[.int .i64 k, .int .i64 n, .string t] 23)
    clear hb
    go_wp2_with fail
    refine (PR.out _).mono ?_
    rintro e w3 ⟨rfl, hb⟩
    have a0 := pastcell (x := .cells #[.int .i64 k, .int .i64 n, .string t] 23) (keepcell hb (newcell (w := w2) (cs := #[.int .i64 k, .int .i64 n, .string t]) (T := 23) (g := w2.heap.size) 0 (.int .i64 k) rfl rfl))
    have a1 := pastcell (x := .cells #[.int .i64 k, .int .i64 n, .string t] 23) (keepcell hb (newcell (w := w2) (cs := #[.int .i64 k, .int .i64 n, .string t]) (T := 23) (g := w2.heap.size) 1 (.int .i64 n) rfl rfl))
    have a2 := pastcell (x := .cells #[.int .i64 k, .int .i64 n, .string t] 23) (keepcell hb (newcell (w := w2) (cs := #[.int .i64 k, .int .i64 n, .string t]) (T := 23) (g := w2.heap.size) 2 (.string t) rfl rfl))
    have B1 := more_below B1 hb
    have B1 := B1.alloc B1.size (.cells #[.int .i64 k, .int .i64 n, .string t] 23)
    clear hb
    go_wp2_with fail
    refine (PF.out _ (HE.out.below B1).env).mono ?_
    rintro e w4 ⟨rfl, hb⟩
    have B1 := more_below B1 hb
    clear hb
    go_wp2
    go_ret
    exact ⟨rfl, B1⟩
  · have e1 : parV s.data.toList = (z3, 2) := by unfold parV; rw [if_neg (fun h => hq (rc.1.1 h))]
    have e2 : redV s.data.toList = (z3, false) := by unfold redV; rw [if_neg hq]
    rw [e1] at PA
    rw [e2] at PR
    have PA : Hid (∀ w, EnvP w → Calls Tryd.prog 27 #[.string s] w fun e w' => e = .returned (.tuple #[.agg #[.int .i64 0, .int .i64 0, .string ⟨#[]⟩], .int .i64 2]) ∧ Below w.heap.size w w') := Lib.hid PA
    have PR : Hid (∀ w, Calls Tryd.prog 31 #[.string s] w fun e w' => e = .returned (.tuple #[.agg #[.int .i64 0, .int .i64 0, .string ⟨#[]⟩], .bool false]) ∧ Below w.heap.size w w') := Lib.hid PR
    clear rc e1 e2 hq
    have B1 := Below.refl w.heap.size w
    go_enter Tryd.func10, Tryd.ntmps10
    go_wp2_with fail
    refine (awake_any _ (HE.out.below B1).env).mono ?_
    rintro e w1 ⟨rfl, hb⟩
    have B1 := more_below B1 hb
    clear hb
    go_wp2_with fail
    refine (PA.out _ (HE.out.below B1)).mono ?_
    rintro e w2 ⟨rfl, hb⟩
    have B1 := more_below B1 hb
    have B1 := B1.alloc B1.size (.cells #[.int .i64 0, .int .i64 0, .string ⟨#[]⟩] 23)
    clear hb
    go_wp2_with fail
    refine (PR.out _).mono ?_
    rintro e w3 ⟨rfl, hb⟩
    have a0 := pastcell (x := .cells #[.int .i64 0, .int .i64 0, .string ⟨#[]⟩] 23) (keepcell hb (newcell (w := w2) (cs := #[.int .i64 0, .int .i64 0, .string ⟨#[]⟩]) (T := 23) (g := w2.heap.size) 0 (.int .i64 0) rfl rfl))
    have a1 := pastcell (x := .cells #[.int .i64 0, .int .i64 0, .string ⟨#[]⟩] 23) (keepcell hb (newcell (w := w2) (cs := #[.int .i64 0, .int .i64 0, .string ⟨#[]⟩]) (T := 23) (g := w2.heap.size) 1 (.int .i64 0) rfl rfl))
    have a2 := pastcell (x := .cells #[.int .i64 0, .int .i64 0, .string ⟨#[]⟩] 23) (keepcell hb (newcell (w := w2) (cs := #[.int .i64 0, .int .i64 0, .string ⟨#[]⟩]) (T := 23) (g := w2.heap.size) 2 (.string ⟨#[]⟩) rfl rfl))
    have B1 := more_below B1 hb
    have B1 := B1.alloc B1.size (.cells #[.int .i64 0, .int .i64 0, .string ⟨#[]⟩] 23)
    clear hb
    go_wp2
    go_ret
    exact ⟨rfl, B1⟩
theorem valueParse_walk (s : ByteArray) (w : World) (hs : s.size ≤ 140737488351232) (hP : EnvP w) :
    Calls Tryd.prog 10 #[.string s] w fun e w' => e = .returned (.bool true) ∧ Below w.heap.size w w' := by
  rcases Nat.lt_or_ge 100 s.size with h | h
  · exact valueParse_long s w hP h (by omega)
  · exact valueParse_in s w hP h
end Go.Proofs.YtkigdglipoeaaaaDoor
