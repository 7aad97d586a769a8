/- Meet of two valid classes: no common element, a modulus that is too large, or the class of the common elements. -/
import Derived.Test.YtgicdfhhaefibaaMee
namespace Go.Proofs.Ytgicdfhhaefibaa
open Go.Sort Go.ChangeShapes Go.WideShapes Go.ChangeAt Go.RowKit

set_option maxHeartbeats 2000000 in
theorem Meet_none (r1 m1 r2 m2 g D : Int) (v1 : vld r1 m1 = true) (v2 : vld r2 m2 = true) (hg : ((Int.gcd m1 m2 : Nat) : Int) = g) (g1 : 1 ≤ g) (hD : r2 - r1 = D) (hd : (D.tmod g != 0) = true) : MeetC r1 m1 r2 m2 0 0 false 0 := by
  intro w
  have V := Lib.hid (fun w => valid_is r1 m1 true w v1)
  have V2 := Lib.hid (fun w => valid_is r2 m2 true w v2)
  obtain ⟨p1, p2, p3, p4⟩ := vld_yes v1
  obtain ⟨q1, q2, q3, q4⟩ := vld_yes v2
  have G := Lib.hid (fun w => hg ▸ drawn_below (gcd_any m1 m2 w (by omega) (by omega) (by omega) (by omega)))
  clear v1 v2 hg
  go_enter Try.func19, Try.ntmps19
  go_wp2_with fail
  refine (V.out _).mono ?_
  rintro e wa ⟨rfl, hb⟩
  obtain ⟨hc, hf⟩ := bcell hb
  go_wp2_with fail
  refine (V2.out _).mono ?_
  rintro e wb ⟨rfl, hb3⟩
  have hb4 := below3 hb hb3
  clear hc hf hb hb3
  obtain ⟨hc, hf⟩ := bcell hb4
  go_wp2_with (go_at_call 38; refine (G.out _).mono ?_; rintro e wc ⟨rfl, hbc⟩; have hb5 := below3 hb4 hbc; clear hc hf hb4 hbc; obtain ⟨hc, hf⟩ := bcell hb5)
  have c0 : wc.cell? ⟨w.heap.size + 1 + 1, 0, none⟩ = some (.int .i64 0) := (hc _ _ (by simp)).trans third0
  have c1 : wc.cell? ⟨w.heap.size + 1 + 1, 1, none⟩ = some (.int .i64 0) := (hc _ _ (by simp)).trans third1
  refine bodyPost_ret (v := .tuple #[.agg #[.int .i64 0, .int .i64 0], .bool false, .int .i64 0]) (by simp [results, Try.results19, go_sem, c0, c1]) rfl ⟨rfl, ?_⟩
  refine (Below.setCell ?_ (by simp; omega) _).setCell (by simp; omega) _
  exact ((((Below.refl _ _).alloc (Nat.le_refl _) _).alloc (by simp) _).alloc (by simp; omega) _).trans (hb5.mono (by simp; omega))

set_option maxHeartbeats 4000000 in
theorem Meet_large (r1 m1 r2 m2 g D m h l : Int) (v1 : vld r1 m1 = true) (v2 : vld r2 m2 = true) (hg : ((Int.gcd m1 m2 : Nat) : Int) = g) (g1 : 1 ≤ g) (hD : r2 - r1 = D) (hd : (D.tmod g != 0) = false) (hm : m2 / g = m) (n1 : 1 ≤ m) (n2 : m ≤ m2) (hh : m1 * m / 18446744073709551616 = h) (hl : m1 * m % 18446744073709551616 = l) (big : 4611686018427387904 < m1 * m) : MeetC r1 m1 r2 m2 0 0 false 3 := by
  intro w
  have V := Lib.hid (fun w => valid_is r1 m1 true w v1)
  have V2 := Lib.hid (fun w => valid_is r2 m2 true w v2)
  obtain ⟨p1, p2, p3, p4⟩ := vld_yes v1
  obtain ⟨q1, q2, q3, q4⟩ := vld_yes v2
  have G := Lib.hid (fun w => hg ▸ drawn_below (gcd_any m1 m2 w (by omega) (by omega) (by omega) (by omega)))
  have M64 := Lib.hid (fun w => Mul64_int m1 m h l w (by omega) (by omega) (by omega) (by omega) hh hl)
  have x1 : IntKind.i64.wrap (m2.tdiv g) = m := (IntWalk.i64_quo _ _ ⟨by omega, by omega, g1⟩).trans hm
  have y1 : IntKind.u64.wrap m1 = m1 := IntWalk.u64_in _ (by omega)
  have y2 : IntKind.u64.wrap m = m := IntWalk.u64_in _ (by omega)
  have hbl : (h != 0) = true ∨ ((h != 0) = false ∧ 4611686018427387904 < l) := by
    by_cases hz : h = 0
    · right; refine ⟨by simp [hz], ?_⟩; omega
    · left; simpa using hz
  clear v1 v2 hg hm hh hl big
  rcases hbl with s1 | ⟨s1, s2⟩
  all_goals
    go_enter Try.func19, Try.ntmps19
    go_wp2_with fail
    refine (V.out _).mono ?_
    rintro e wa ⟨rfl, hb⟩
    obtain ⟨hc, hf⟩ := bcell hb
    go_wp2_with fail
    refine (V2.out _).mono ?_
    rintro e wb ⟨rfl, hb3⟩
    have hb4 := below3 hb hb3
    clear hc hf hb hb3
    obtain ⟨hc, hf⟩ := bcell hb4
    go_wp2_with (go_at_call 38; refine (G.out _).mono ?_; rintro e wc ⟨rfl, hbc⟩; have hb5 := below3 hb4 hbc; clear hc hf hb4 hbc; obtain ⟨hc, hf⟩ := bcell hb5)
    go_quiet ((go_at_call 39; exact Calls.quiet_of_same (M64.out _)))
    have hb6 := below_drewN hb5 nq
    clear hc hf hb5
    generalize World.drewN _ nq = wd at *
    obtain ⟨hc, hf⟩ := bcell hb6
    go_wp2
    have c0 : wd.cell? ⟨w.heap.size + 1 + 1, 0, none⟩ = some (.int .i64 0) := (hc _ _ (by simp)).trans third0
    have c1 : wd.cell? ⟨w.heap.size + 1 + 1, 1, none⟩ = some (.int .i64 0) := (hc _ _ (by simp)).trans third1
    refine bodyPost_ret (v := .tuple #[.agg #[.int .i64 0, .int .i64 0], .bool false, .int .i64 3]) (by simp [results, Try.results19, go_sem, c0, c1]) rfl ⟨rfl, ?_⟩
    refine (Below.setCell ?_ (by simp; omega) _).setCell (by simp; omega) _
    exact ((((Below.refl _ _).alloc (Nat.le_refl _) _).alloc (by simp) _).alloc (by simp; omega) _).trans (hb6.mono (by simp; omega))

set_option maxHeartbeats 8000000 in
theorem Meet_ok (r1 m1 r2 m2 g D m μ δ δ2 i k z L : Int) (v1 : vld r1 m1 = true) (v2 : vld r2 m2 = true) (hg : ((Int.gcd m1 m2 : Nat) : Int) = g) (g1 : 1 ≤ g) (hD : r2 - r1 = D) (hd : (D.tmod g != 0) = false) (hm : m2 / g = m) (n1 : 1 ≤ m) (n2 : m ≤ m2) (hμ : m1 / g = μ) (hδ : D.tdiv g = δ) (d1 : -9223372036854775808 ≤ δ) (d2 : δ ≤ 9223372036854775807) (hδ2 : δ % m = δ2) (hco : Int.gcd μ m = 1) (i0 : 0 ≤ i) (i1 : i < m) (hi : μ * i % m = 1 % m) (hk : δ2 * i % m = k)
    (hz : m1 * k = z) (z0 : 0 ≤ z) (hL : m1 * m = L) (zL : r1 + z < L) (big : L ≤ 4611686018427387904) : MeetC r1 m1 r2 m2 (r1 + z) L true 0 := by
  intro w
  have V := Lib.hid (fun w => valid_is r1 m1 true w v1)
  have V2 := Lib.hid (fun w => valid_is r2 m2 true w v2)
  obtain ⟨p1, p2, p3, p4⟩ := vld_yes v1
  obtain ⟨q1, q2, q3, q4⟩ := vld_yes v2
  have G := Lib.hid (fun w => hg ▸ drawn_below (gcd_any m1 m2 w (by omega) (by omega) (by omega) (by omega)))
  have L0 : 0 ≤ L := by omega
  have c0' : 0 ≤ δ2 := by rw [← hδ2]; exact Int.emod_nonneg _ (by omega)
  have c1' : δ2 < m := by rw [← hδ2]; exact Int.emod_lt_of_pos _ (by omega)
  have M64 := Lib.hid (fun w => Mul64_int m1 m 0 L w (by omega) (by omega) (by omega) (by omega) (by omega) (by omega))
  have MD := Lib.hid (fun w => mod_is δ m δ2 w n1 (by omega) hδ2)
  have IV := Lib.hid (fun w => inverse_is μ m i w n1 (by omega) hco i0 i1 hi)
  have MM := Lib.hid (fun w => hk ▸ mulMod_int δ2 i m w c0' (by omega) i0 (by omega) n1 (by omega))
  have x1 : IntKind.i64.wrap (m2.tdiv g) = m := (IntWalk.i64_quo _ _ ⟨by omega, by omega, g1⟩).trans hm
  have x2 : IntKind.i64.wrap (m1.tdiv g) = μ := (IntWalk.i64_quo _ _ ⟨by omega, by omega, g1⟩).trans hμ
  have x3 : IntKind.i64.wrap (D.tdiv g) = δ := by rw [hδ]; exact IntWalk.i64_in _ ⟨d1, d2⟩
  have x4 : wrap64 (m1 * k) = z := by rw [hz]; exact IntWalk.wrap64_in _ (by omega)
  have y1 : IntKind.u64.wrap m1 = m1 := IntWalk.u64_in _ (by omega)
  have y2 : IntKind.u64.wrap m = m := IntWalk.u64_in _ (by omega)
  clear v1 v2 hg hμ hδ hδ2 hco hi hk hz hL
  go_enter Try.func19, Try.ntmps19
  go_wp2_with fail
  refine (V.out _).mono ?_
  rintro e wa ⟨rfl, hb⟩
  obtain ⟨hc, hf⟩ := bcell hb
  go_wp2_with fail
  refine (V2.out _).mono ?_
  rintro e wb ⟨rfl, hb3⟩
  have hb4 := below3 hb hb3
  clear hc hf hb hb3
  obtain ⟨hc, hf⟩ := bcell hb4
  go_wp2_with (go_at_call 38; refine (G.out _).mono ?_; rintro e wc ⟨rfl, hbc⟩; have hb5 := below3 hb4 hbc; clear hc hf hb4 hbc; obtain ⟨hc, hf⟩ := bcell hb5)
  go_quiet ((go_at_call 39; exact Calls.quiet_of_same (M64.out _)))
  have hb6 := below_drewN hb5 nq
  clear hc hf hb5
  generalize World.drewN _ nq = wd at *
  obtain ⟨hc, hf⟩ := bcell hb6
  go_wp2
  go_quiet ((first | (go_at_call 35; exact Calls.quiet_of_same (flip (MD.out _))) | (go_at_call 41; exact Calls.quiet_of_same (flip (IV.out _))) | (go_at_call 40; exact Calls.quiet_of (MM.out _))))
  go_wp2
  have c0 : wd.cell? ⟨w.heap.size + 1 + 1, 0, none⟩ = some (.int .i64 0) := (hc _ _ (by simp)).trans third0
  have c1 : wd.cell? ⟨w.heap.size + 1 + 1, 1, none⟩ = some (.int .i64 0) := (hc _ _ (by simp)).trans third1
  refine bodyPost_ret (v := .tuple #[.agg #[.int .i64 (r1 + z), .int .i64 L], .bool true, .int .i64 0]) (by simp [results, Try.results19, go_sem, c0, c1]) rfl ⟨rfl, ?_⟩
  refine (Below.setCell (below_drewN ?_ nq) (by simp; omega) _).setCell (by simp; omega) _
  exact ((((Below.refl _ _).alloc (Nat.le_refl _) _).alloc (by simp) _).alloc (by simp; omega) _).trans (hb6.mono (by simp; omega))

end Go.Proofs.Ytgicdfhhaefibaa
