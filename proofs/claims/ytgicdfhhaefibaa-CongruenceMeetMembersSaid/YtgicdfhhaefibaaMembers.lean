/- Law CongruenceMeetMembers: for every input the call returns true, and its arguments read afterwards as before. -/
import Derived.Test.YtgicdfhhaefibaaKep
namespace Go.Proofs.Ytgicdfhhaefibaa
open Go.Sort Go.ChangeShapes Go.WideShapes Go.ChangeAt Go.RowKit

set_option maxHeartbeats 4000000 in
theorem members_walk (r1 m1 r2 m2 n x l er : Int) (ok : Bool) (w : World) (hM : MeetC r1 m1 r2 m2 x l ok er) (key : er = 0 → (ok && cont x l n) = (cont r1 m1 n && cont r2 m2 n)) :
    Calls Try.prog 6 #[.agg #[.int .i64 r1, .int .i64 m1], .agg #[.int .i64 r2, .int .i64 m2], .int .i64 n] w fun e w' => e = .returned (.bool true) ∧ Below w.heap.size w w' := by
  have HM := Lib.hid hM
  clear hM
  go_enter Try.func6, Try.ntmps6
  go_wp2_with fail
  refine (awake_any _).mono ?_
  rintro e wa ⟨rfl, h1⟩
  have s0 : wa.cell? ⟨w.heap.size, 0, none⟩ = some (.int .i64 r1) ∧ wa.cell? ⟨w.heap.size, 1, none⟩ = some (.int .i64 m1) ∧ wa.cell? ⟨w.heap.size + 1, 0, none⟩ = some (.int .i64 r2) ∧ wa.cell? ⟨w.heap.size + 1, 1, none⟩ = some (.int .i64 m2) ∧ Below w.heap.size w wa := by
    refine ⟨keepcell h1 (pastcell newcell0), keepcell h1 (pastcell newcell1), keepcell h1 (by rw [World.cell?_alloc_at _ _ _ _ (by simp)]; rfl), keepcell h1 (by rw [World.cell?_alloc_at _ _ _ _ (by simp)]; rfl), ?_⟩
    exact (((Below.refl _ _).alloc (Nat.le_refl _) _).alloc (by simp) _).trans (h1.mono (by simp; omega))
  have z0 := h1.size
  simp at z0
  clear h1
  go_upto_region 3 with fail
  go_cut [7, 8, 9] (fun s7 s8 s9 wx => ∃ g : Nat, s7 = .pointer (some ⟨g, 0, none⟩) ∧ s8 = .bool ok ∧ s9 = .int .i64 er ∧ wx.cell? ⟨g, 0, none⟩ = some (.int .i64 x) ∧ wx.cell? ⟨g, 1, none⟩ = some (.int .i64 l) ∧ wx.cell? ⟨w.heap.size, 0, none⟩ = some (.int .i64 r1) ∧ wx.cell? ⟨w.heap.size, 1, none⟩ = some (.int .i64 m1) ∧ wx.cell? ⟨w.heap.size + 1, 0, none⟩ = some (.int .i64 r2) ∧ wx.cell? ⟨w.heap.size + 1, 1, none⟩ = some (.int .i64 m2) ∧ Below w.heap.size w wx)
  case first =>
    go_region_held3 (fun w' => w'.cell? ⟨w.heap.size, 0, none⟩ = some (.int .i64 r1) ∧ w'.cell? ⟨w.heap.size, 1, none⟩ = some (.int .i64 m1) ∧ w'.cell? ⟨w.heap.size + 1, 0, none⟩ = some (.int .i64 r2) ∧ w'.cell? ⟨w.heap.size + 1, 1, none⟩ = some (.int .i64 m2) ∧ Below w.heap.size w w') (first | exact s0 | exact keep4d s0 | exact keep4 ‹_› hb | exact keep4a ‹_› | exact keep4n ‹_› (by omega) (by omega) (by omega) | exact keep4s (keep4s ‹_› (by omega) (by omega) (by omega)) (by omega) (by omega) (by omega) | exact keep4d ‹_› | go_keep)
      (first | (go_at_call 17; refine (to_any _ _ _).mono ?_; rintro e w2 ⟨rfl, hb⟩; have zz := hb.size; (try simp at zz); (first | (have n2 := keepfroz hb n0 n2; have n3 := keepfroz hb n0 n3; have n0 := keepcell hb n0; have n1 := keepcell hb n1) | (have n0 := keepcell hb newcell0; have n1 := keepcell hb newcell1; have n2 := keepfroz hb newcell0 (newfroz (o := 0)); have n3 := keepfroz hb newcell0 (newfroz (o := 1))) | skip)) | (go_at_call 19; refine (HM.out _).mono ?_; rintro e w2 ⟨rfl, hb⟩; have zz := hb.size; (try simp at zz); (first | (have n2 := keepfroz hb n0 n2; have n3 := keepfroz hb n0 n3; have n0 := keepcell hb n0; have n1 := keepcell hb n1) | (have n0 := keepcell hb newcell0; have n1 := keepcell hb newcell1; have n2 := keepfroz hb newcell0 (newfroz (o := 0)); have n3 := keepfroz hb newcell0 (newfroz (o := 1))) | skip)))
    all_goals (go_wp2_with fail; go_meet)
    all_goals first | exact ⟨_, rfl, rfl, rfl, newcell0, newcell1, ‹_›⟩ | exact ⟨_, rfl, rfl, rfl, setA n0, setB n1, ‹_›⟩
  case rest =>
    obtain ⟨g, rfl, rfl, rfl, c0, c1, k1, k2, k3, k4, hB⟩ := hcut
    clear z0 s0
    by_cases he : er = 0
    · subst he
      have key := key rfl
      obtain ⟨cx, hcx⟩ : ∃ z, cont x l n = z := ⟨_, rfl⟩
      obtain ⟨ca, hca⟩ : ∃ z, cont r1 m1 n = z := ⟨_, rfl⟩
      obtain ⟨cb, hcb⟩ : ∃ z, cont r2 m2 n = z := ⟨_, rfl⟩
      rw [hcx, hca, hcb] at key
      have N1 := Lib.hid (fun w => hcx ▸ Contains_any x l n w)
      have N2 := Lib.hid (fun w => hca ▸ refContains_any r1 m1 n w)
      have N3 := Lib.hid (fun w => hcb ▸ refContains_any r2 m2 n w)
      clear hcx hca hcb
      have c0' := fun d os => cell_regrown c0 d os
      have c1' := fun d os => cell_regrown c1 d os
      have k1' := fun d os => cell_regrown k1 d os
      have k2' := fun d os => cell_regrown k2 d os
      have k3' := fun d os => cell_regrown k3 d os
      have k4' := fun d os => cell_regrown k4 d os
      clear c0 c1 k1 k2 k3 k4
      cases ok <;> cases cx <;> cases ca <;> cases cb <;> first | (exact absurd key (by decide)) | skip
      all_goals
        clear key
        go_wp2_with fail
        refine wp_region_quiet_below (by kernel_rfl) (by kernel_rfl) ?_
        repeat (go_big_quiet_step ((first | (go_at_call 16; exact Calls.regrown_of (N1.out _)) | (go_at_call 18; first | (with_reducible exact Calls.regrown_of (N2.out _)) | (with_reducible exact Calls.regrown_of (N3.out _))))))
        refine wpQuiet_nil ?_
        intro _ hw'
        obtain ⟨⟨dq, osq⟩, hw''⟩ := hw'
        subst hw''
        go_wp2
        go_ret
        exact ⟨rfl, end_below' hB _ _⟩
    · have heb : (er != 0) = true := by simpa using he
      go_wp2
      go_ret
      exact ⟨rfl, hB⟩

theorem congruenceMeetMembers_walk (r1 m1 r2 m2 n : Int) (w : World) (_ : -9223372036854775808 ≤ r1) (_ : r1 ≤ 9223372036854775807) (_ : -9223372036854775808 ≤ m1) (_ : m1 ≤ 9223372036854775807) (_ : -9223372036854775808 ≤ r2) (_ : r2 ≤ 9223372036854775807) (_ : -9223372036854775808 ≤ m2) (_ : m2 ≤ 9223372036854775807) (_ : -9223372036854775808 ≤ n) (_ : n ≤ 9223372036854775807) :
    Calls Try.prog 6 #[.agg #[.int .i64 r1, .int .i64 m1], .agg #[.int .i64 r2, .int .i64 m2], .int .i64 n] w fun e w' => e = .returned (.bool true) ∧ Below w.heap.size w w' := by
  obtain ⟨x, l, ok, er, hM, hF⟩ := meet_any r1 m1 r2 m2
  exact members_walk r1 m1 r2 m2 n x l er ok w hM (fun he => meet_members r1 m1 r2 m2 x l ok er n hF he)

set_option maxRecDepth 100000 in
theorem congruenceMeetMembers_lifted (os : Os) (started : os.Started) (H : Type) (enc : TypeId × Value → H) :
    ReturnsInHanded {} Try.checked os 6 .any (Rows.congruenceMeetMembersSpec.pre6 enc Try.prog Try.f6 Rows.congruenceMeetMembersRow.domain false) (Rows.congruenceMeetMembersSpec.post enc Try.prog Try.f6 false true false false) := by
  refine law_lifted (C := Try.checked) (B := 4) Try.own started (by kernel_rfl) Try.func6
    (ChangeSpec.witness6 (enc := enc) (C := Try.checked) false ⟨#[], #[.agg #[.int .i64 0, .int .i64 0], .agg #[.int .i64 0, .int .i64 0], .int .i64 0], []⟩ 8 (by kernel_rfl) (by kernel_rfl) (by kernel_rfl) (by kernel_rfl))
    Try.laidOut (by kernel_rfl) rfl rfl rfl Try.underlying4 (fun ds h => match ds, h with | [_, _, _], _ => rfl) ?_
  intro W base args ds ps hval hA hlt hsz
  rw [Try.params6] at hA hval
  clear hlt hsz
  obtain ⟨v0, vs0, d0, ds0, p0, q0, hargs, rfl, rfl, h0, r0⟩ := trodAll_cons hA
  obtain ⟨v1, vs1, d1, ds1, p1, q1, rfl, rfl, rfl, h1, r1⟩ := trodAll_cons r0
  obtain ⟨v2, vs2, d2, ds2, p2, q2, rfl, rfl, rfl, h2, r2⟩ := trodAll_cons r1
  obtain ⟨rfl, rfl, rfl⟩ := trodAll_nil r2
  obtain rfl : args = #[v0, v1, v2] := by cases args; simp_all
  obtain ⟨e0, f0, y0, z0, m0, rfl, rfl, rfl, hy0, hz0⟩ := Joins.open_agg2 Try.underlying28 (by kernel_rfl) Try.cells28 (hval 0 28 v0 rfl rfl) h0
  obtain ⟨r0x, er0, rfl, wr0⟩ := DataW.trod_int Try.underlying2 hy0
  obtain ⟨m0x, em0, rfl, wm0⟩ := DataW.trod_int Try.underlying2 hz0
  obtain rfl : e0 = .int .i64 r0x := by simpa using er0
  obtain rfl : f0 = .int .i64 m0x := by simpa using em0
  obtain ⟨lr0, gr0⟩ := i64_bd wr0
  obtain ⟨lm0, gm0⟩ := i64_bd wm0
  obtain ⟨e1, f1, y1, z1, m1, rfl, rfl, rfl, hy1, hz1⟩ := Joins.open_agg2 Try.underlying28 (by kernel_rfl) Try.cells28 (hval 1 28 v1 rfl rfl) h1
  obtain ⟨r1x, er1, rfl, wr1⟩ := DataW.trod_int Try.underlying2 hy1
  obtain ⟨m1x, em1, rfl, wm1⟩ := DataW.trod_int Try.underlying2 hz1
  obtain rfl : e1 = .int .i64 r1x := by simpa using er1
  obtain rfl : f1 = .int .i64 m1x := by simpa using em1
  obtain ⟨lr1, gr1⟩ := i64_bd wr1
  obtain ⟨lm1, gm1⟩ := i64_bd wm1
  obtain ⟨a2, rfl, rfl, rfl, w2⟩ := open_int Try.underlying2 (hval 2 2 v2 rfl rfl) h2
  obtain ⟨l2, g2⟩ := i64_bd w2
  exact congruenceMeetMembers_walk r0x m0x r1x m1x a2 W lr0 gr0 lm0 gm0 lr1 gr1 lm1 gm1 l2 g2

theorem congruenceMeetMembers_over : Rows.congruenceMeetMembersRow.holds Try.pinned (OpenSpec.ofChange Rows.congruenceMeetMembersSpec) :=
  OpenClaim.holds_of_wide 6 Try.f6 rfl rfl rfl rfl rfl rfl rfl ⟨rfl, rfl, rfl, rfl, rfl⟩ rfl rfl rfl rfl rfl (by kernel_rfl) Try.func6 (by kernel_rfl)
    (of_decide_eq_true (by kernel_rfl)) (by unfold Func.isWrapper; first | (rw [if_pos (by decide +kernel)]; kernel_rfl) | (rw [if_neg (by decide +kernel)]; exact ⟨rfl, rfl⟩))
    (fun os started H enc _ => congruenceMeetMembers_lifted os started H enc)

theorem congruenceMeetMembers_proved : Rows.CongruenceMeetMembersSaid := congruenceMeetMembers_over
end Go.Proofs.Ytgicdfhhaefibaa
