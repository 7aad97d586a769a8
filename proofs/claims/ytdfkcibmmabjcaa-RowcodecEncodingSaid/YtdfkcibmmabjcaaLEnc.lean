/- Law RowcodecEncoding: for every input the call returns true, and its arguments read afterwards as before. -/
import Derived.Test.YtdfkcibmmabjcaaOpr
import Derived.Test.YtdfkcibmmabjcaaPfx
import Derived.Deep.RegionLaw
namespace Go.Proofs.Ytdfkcibmmabjcaa
open Go.ChangeShapes Go.WideShapes Go.ChangeAt Go.RowKit Go.ChangeMaps

theorem more_below {w W W' : World} (h : Below w.heap.size w W) (hb : Below W.heap.size W W') : Below w.heap.size w W' := h.trans (hb.mono h.size)

set_option maxRecDepth 100000 in
set_option maxHeartbeats 4000000 in
theorem rowcodecEncoding_in (k n : Int) (s : ByteArray) (A : Option Addr) (m c : Nat) (R : List V3) (w : World) (ln : -9223372036854775808 ≤ n) (gn : n ≤ 9223372036854775807) (hs : s.size ≤ 300) (hr : RowAt w A m R) (hm : m ≤ 9223372036854775807) (hR : ∀ x ∈ R, x.ok) (hS : (R.map fun x => x.s.size + 1).sum ≤ 600) (hsm : sm 0 R = true) :
    Calls Try.prog 3 #[.agg #[.int .i64 k, .int .i64 n, .string s], .slice A m c] w fun e w' => e = .returned (.bool true) ∧ Below w.heap.size w w' := by
  obtain ⟨X, hX⟩ : ∃ X : ByteArray, ⟨(encV k n s.data.toList).toArray⟩ = X := ⟨_, rfl⟩
  obtain ⟨Y, hY⟩ : ∃ Y : ByteArray, ⟨(encR R).toArray⟩ = Y := ⟨_, rfl⟩
  have C := fun w hr => small_any A m c R w hr hm hR
  rw [hsm] at C
  have HC := Lib.hid C
  clear C hsm
  go_enter Try.func3, Try.ntmps3
  go_wp2_with fail
  refine (awake_any _).mono ?_
  rintro e w1 ⟨rfl, b1⟩
  have c0 := keepcell b1 (newcell (g := w.heap.size) 0 _ rfl rfl)
  have c1 := keepcell b1 (newcell (g := w.heap.size) 1 _ rfl rfl)
  have c2 := keepcell b1 (newcell (g := w.heap.size) 2 _ rfl rfl)
  have B1 : Below w.heap.size w w1 := ((Below.refl _ w).alloc (Nat.le_refl _) _).trans (b1.mono (by simp))
  clear b1
  go_wp2_with fail
  refine (HC.out _ (hr.below B1)).mono ?_
  rintro e w2 ⟨rfl, hb⟩
  have c0 := keepcell hb c0
  have c1 := keepcell hb c1
  have c2 := keepcell hb c2
  have B1 := more_below B1 hb
  clear hb
  go_wp2_with fail
  have B1 := B1.drew
  go_region_law (first | (go_simp; go_at_call 13; refine (Encode_made k n s _ ln gn (by omega)).mono ?_; rintro e w2 ⟨v2, rfl, o2, hb⟩; have c0 := keepcell hb c0; have c1 := keepcell hb c1; have c2 := keepcell hb c2; have B1 := more_below B1 hb; have q2 := run_string_own w2 28 9 5 _ v2 _ Try.underlying28 Try.underlying5 Try.underlying9 o2; rw [hX] at q2; (try have q3 := run_string_own w2 28 9 5 _ v3 _ Try.underlying28 Try.underlying5 Try.underlying9 (own_below o3 hb)); (try rw [hX] at q3)) | (go_simp; go_at_call 14; refine (Value_any k n s _ ln gn (by omega)).mono ?_; rintro e w3 ⟨v3, rfl, o3, hb⟩; have c0 := keepcell hb c0; have c1 := keepcell hb c1; have c2 := keepcell hb c2; have B1 := more_below B1 hb; have q3 := run_string_own w3 28 9 5 _ v3 _ Try.underlying28 Try.underlying5 Try.underlying9 o3; rw [hX] at q3; (try have q2 := run_string_own w3 28 9 5 _ v2 _ Try.underlying28 Try.underlying5 Try.underlying9 (own_below o2 hb)); (try rw [hX] at q2)) | (go_simp; go_at_call 15; refine (EncodeRow_any A m c R _ (hr.below B1) hm hR hS).mono ?_; rintro e w4 ⟨v4, rfl, o4, hb⟩; have c0 := keepcell hb c0; have c1 := keepcell hb c1; have c2 := keepcell hb c2; have B1 := more_below B1 hb; have q4 := run_string_own w4 28 9 5 _ v4 _ Try.underlying28 Try.underlying5 Try.underlying9 o4; rw [hY] at q4; (try have q5 := run_string_own w4 28 9 5 _ v5 _ Try.underlying28 Try.underlying5 Try.underlying9 (own_below o5 hb)); (try rw [hY] at q5)) | (go_simp; go_at_call 16; refine (Row_any A m c R _ (hr.below B1) hm hR hS).mono ?_; rintro e w5 ⟨v5, rfl, o5, hb⟩; have c0 := keepcell hb c0; have c1 := keepcell hb c1; have c2 := keepcell hb c2; have B1 := more_below B1 hb; have q5 := run_string_own w5 28 9 5 _ v5 _ Try.underlying28 Try.underlying5 Try.underlying9 o5; rw [hY] at q5; (try have q4 := run_string_own w5 28 9 5 _ v4 _ Try.underlying28 Try.underlying5 Try.underlying9 (own_below o4 hb)); (try rw [hY] at q4)))
  all_goals
    go_wp2
    go_ret
    exact ⟨rfl, B1⟩

set_option maxRecDepth 100000 in
theorem rowcodecEncoding_big (k n : Int) (s : ByteArray) (A : Option Addr) (m c : Nat) (R : List V3) (w : World) (hr : RowAt w A m R) (hm : m ≤ 9223372036854775807) (hR : ∀ x ∈ R, x.ok) (hsm : sm 0 R = false) :
    Calls Try.prog 3 #[.agg #[.int .i64 k, .int .i64 n, .string s], .slice A m c] w fun e w' => e = .returned (.bool true) ∧ Below w.heap.size w w' := by
  have C := fun w hr => small_any A m c R w hr hm hR
  rw [hsm] at C
  have HC := Lib.hid C
  clear C hsm
  go_enter Try.func3, Try.ntmps3
  go_wp2_with fail
  refine (awake_any _).mono ?_
  rintro e w1 ⟨rfl, b1⟩
  have B1 : Below w.heap.size w w1 := ((Below.refl _ w).alloc (Nat.le_refl _) _).trans (b1.mono (by simp))
  clear b1
  go_wp2_with fail
  refine (HC.out _ (hr.below B1)).mono ?_
  rintro e w2 ⟨rfl, hb⟩
  have B1 := more_below B1 hb
  clear hb
  go_wp2_with fail
  refine (awake_any _).mono ?_
  rintro e w3 ⟨rfl, hb⟩
  have B1 := more_below B1 hb
  clear hb
  go_wp2
  go_ret
  exact ⟨rfl, B1⟩

set_option maxRecDepth 100000 in
theorem rowcodecEncoding_long (k n : Int) (s : ByteArray) (A : Option Addr) (m c : Nat) (R : List V3) (w : World) (hr : RowAt w A m R) (hm : m ≤ 9223372036854775807) (hR : ∀ x ∈ R, x.ok) (hsm : sm 0 R = true) (hs : 300 < s.size) (hs2 : s.size ≤ 9223372036854775807) :
    Calls Try.prog 3 #[.agg #[.int .i64 k, .int .i64 n, .string s], .slice A m c] w fun e w' => e = .returned (.bool true) ∧ Below w.heap.size w w' := by
  have C := fun w hr => small_any A m c R w hr hm hR
  rw [hsm] at C
  have HC := Lib.hid C
  clear C hsm
  go_enter Try.func3, Try.ntmps3
  go_wp2_with fail
  refine (awake_any _).mono ?_
  rintro e w1 ⟨rfl, b1⟩
  have c2 := keepcell b1 (newcell (g := w.heap.size) 2 _ rfl rfl)
  have B1 : Below w.heap.size w w1 := ((Below.refl _ w).alloc (Nat.le_refl _) _).trans (b1.mono (by simp))
  clear b1
  go_wp2_with fail
  refine (HC.out _ (hr.below B1)).mono ?_
  rintro e w2 ⟨rfl, hb⟩
  have c2 := keepcell hb c2
  have B1 := more_below B1 hb
  clear hb
  go_wp2_with fail
  refine (awake_any _).mono ?_
  rintro e w3 ⟨rfl, hb⟩
  have B1 := more_below B1 hb
  clear hb
  go_wp2
  go_ret
  exact ⟨rfl, B1⟩

theorem rowcodecEncoding_walk (k n : Int) (s : ByteArray) (A : Option Addr) (m c : Nat) (R : List V3) (w : World) (_ : -9223372036854775808 ≤ k) (_ : k ≤ 9223372036854775807) (ln : -9223372036854775808 ≤ n) (gn : n ≤ 9223372036854775807) (ls : s.size ≤ 9223372036854775807) (hr : RowAt w A m R) (hm : m ≤ 9223372036854775807) (hR : ∀ x ∈ R, x.ok) :
    Calls Try.prog 3 #[.agg #[.int .i64 k, .int .i64 n, .string s], .slice A m c] w fun e w' => e = .returned (.bool true) ∧ Below w.heap.size w w' := by
  rcases hsm : sm 0 R with _ | _
  · exact rowcodecEncoding_big k n s A m c R w hr hm hR hsm
  · by_cases hs : s.size ≤ 300
    · exact rowcodecEncoding_in k n s A m c R w ln gn hs hr hm hR (by have := sm_yes 0 R hsm (by omega); omega) hsm
    · exact rowcodecEncoding_long k n s A m c R w hr hm hR hsm (by omega) ls

set_option maxRecDepth 100000 in
theorem rowcodecEncoding_lifted (os : Os) (started : os.Started) (H : Type) (enc : TypeId × Value → H) :
    ReturnsInHanded {} Try.checked os 3 .any (Rows.rowcodecEncodingSpec.pre6 enc Try.prog Try.f3 Rows.rowcodecEncodingRow.domain false) (Rows.rowcodecEncodingSpec.post enc Try.prog Try.f3 false true false false) := by
  refine law_lifted (C := Try.checked) (B := 4) Try.own started (by kernel_rfl) Try.func3
    (ChangeSpec.witness6 (enc := enc) (C := Try.checked) false ⟨#[], #[.agg #[.int .i64 0, .int .i64 0, .string ⟨#[]⟩], .slice none 0 0], []⟩ 8 (by kernel_rfl) (by kernel_rfl) (by kernel_rfl) (by kernel_rfl))
    Try.laidOut (by kernel_rfl) rfl rfl rfl Try.underlying4 (fun ds h => match ds, h with | [_, _], _ => rfl) ?_
  intro W base args ds ps hval hA hlt hsz
  rw [Try.params3] at hA hval hsz
  obtain ⟨v0, vs0, d0, ds0, p0, q0, hargs, rfl, rfl, h0, r0⟩ := trodAll_cons hA
  obtain ⟨v1, vs1, d1, ds1, p1, q1, rfl, rfl, rfl, h1, r1⟩ := trodAll_cons r0
  obtain ⟨rfl, rfl, rfl⟩ := trodAll_nil r1
  obtain rfl : args = #[v0, v1] := by cases args; simp_all
  obtain ⟨x0, y0, z0, rfl, rfl, rfl, lx0, gx0, ly0, gy0, lz0⟩ := open_val (hval 0 23 v0 rfl rfl) h0
  obtain ⟨A1, n1, c1, R1, rfl, k1, l1, g1⟩ := open_row (hval 1 25 v1 rfl rfl) h1 (fun x hx => hlt x (by simp [hx])) hsz (j := 1) rfl rfl
  exact rowcodecEncoding_walk x0 y0 z0 A1 n1 c1 R1 W lx0 gx0 ly0 gy0 lz0 k1 l1 g1

theorem rowcodecEncoding_over : Rows.rowcodecEncodingRow.holds Try.pinned (OpenSpec.ofChange Rows.rowcodecEncodingSpec) :=
  OpenClaim.holds_of_wide 3 Try.f3 rfl rfl rfl rfl rfl rfl rfl ⟨rfl, rfl, rfl, rfl, rfl⟩ rfl rfl rfl rfl rfl (by kernel_rfl) Try.func3 (by kernel_rfl)
    (of_decide_eq_true (by kernel_rfl)) (by unfold Func.isWrapper; first | (rw [if_pos (by decide +kernel)]; kernel_rfl) | (rw [if_neg (by decide +kernel)]; exact ⟨rfl, rfl⟩))
    (fun os started H enc _ => rowcodecEncoding_lifted os started H enc)

theorem rowcodecEncoding_proved : Rows.RowcodecEncodingSaid := rowcodecEncoding_over
end Go.Proofs.Ytdfkcibmmabjcaa
