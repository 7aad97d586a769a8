/- Law RowcodecPrefixFree: for every input the call returns true, and its arguments read afterwards as before. -/
import Derived.Test.YtdfkcibmmabjcaaOpn
import Derived.Test.YtdfkcibmmabjcaaPfx
import Derived.Test.YtdfkcibmmabjcaaRef
import Derived.Deep.RegionLaw
namespace Go.Proofs.Ytdfkcibmmabjcaa
open Go.ChangeShapes Go.WideShapes Go.ChangeAt Go.RowKit Go.ChangeMaps

theorem keepS {w W W' : World} {b c : Nat} {x0 x1 x2 y0 y1 y2 : Value} (hb : Below W.heap.size W W') (h : W.cell? ⟨b, 0, none⟩ = some x0 ∧ W.cell? ⟨b, 1, none⟩ = some x1 ∧ W.cell? ⟨b, 2, none⟩ = some x2 ∧ W.cell? ⟨c, 0, none⟩ = some y0 ∧ W.cell? ⟨c, 1, none⟩ = some y1 ∧ W.cell? ⟨c, 2, none⟩ = some y2 ∧ Below w.heap.size w W) :
    W'.cell? ⟨b, 0, none⟩ = some x0 ∧ W'.cell? ⟨b, 1, none⟩ = some x1 ∧ W'.cell? ⟨b, 2, none⟩ = some x2 ∧ W'.cell? ⟨c, 0, none⟩ = some y0 ∧ W'.cell? ⟨c, 1, none⟩ = some y1 ∧ W'.cell? ⟨c, 2, none⟩ = some y2 ∧ Below w.heap.size w W' :=
  ⟨keepcell hb h.1, keepcell hb h.2.1, keepcell hb h.2.2.1, keepcell hb h.2.2.2.1, keepcell hb h.2.2.2.2.1, keepcell hb h.2.2.2.2.2.1, h.2.2.2.2.2.2.trans (hb.mono h.2.2.2.2.2.2.size)⟩
theorem drewS {w W : World} {b c : Nat} {x0 x1 x2 y0 y1 y2 : Value} (h : W.cell? ⟨b, 0, none⟩ = some x0 ∧ W.cell? ⟨b, 1, none⟩ = some x1 ∧ W.cell? ⟨b, 2, none⟩ = some x2 ∧ W.cell? ⟨c, 0, none⟩ = some y0 ∧ W.cell? ⟨c, 1, none⟩ = some y1 ∧ W.cell? ⟨c, 2, none⟩ = some y2 ∧ Below w.heap.size w W) :
    W.drew.cell? ⟨b, 0, none⟩ = some x0 ∧ W.drew.cell? ⟨b, 1, none⟩ = some x1 ∧ W.drew.cell? ⟨b, 2, none⟩ = some x2 ∧ W.drew.cell? ⟨c, 0, none⟩ = some y0 ∧ W.drew.cell? ⟨c, 1, none⟩ = some y1 ∧ W.drew.cell? ⟨c, 2, none⟩ = some y2 ∧ Below w.heap.size w W.drew :=
  ⟨h.1, h.2.1, h.2.2.1, h.2.2.2.1, h.2.2.2.2.1, h.2.2.2.2.2.1, h.2.2.2.2.2.2.drew⟩

theorem more_below {w W W' : World} (h : Below w.heap.size w W) (hb : Below W.heap.size W W') : Below w.heap.size w W' := h.trans (hb.mono h.size)

set_option maxHeartbeats 4000000 in
theorem rowcodecPrefixFree_short (k n : Int) (s : ByteArray) (k' n' : Int) (s' : ByteArray) (w : World) (ln : -9223372036854775808 ≤ n) (gn : n ≤ 9223372036854775807) (ln' : -9223372036854775808 ≤ n') (gn' : n' ≤ 9223372036854775807) (h1 : s.size ≤ 300) (h2 : s'.size ≤ 300) :
    Calls Try.prog 7 #[.agg #[.int .i64 k, .int .i64 n, .string s], .agg #[.int .i64 k', .int .i64 n', .string s']] w fun e w' => e = .returned (.bool true) ∧ Below w.heap.size w w' := by
  obtain ⟨X, hX⟩ : ∃ X : ByteArray, ⟨(encV k n s.data.toList).toArray⟩ = X := ⟨_, rfl⟩
  obtain ⟨Y, hY⟩ : ∃ Y : ByteArray, ⟨(encV k' n' s'.data.toList).toArray⟩ = Y := ⟨_, rfl⟩
  have sX : X.size ≤ 1000 := by
    have := encV_len k n s.data.toList
    have e : s.data.toList.length = s.size := by simp
    rw [← hX, size_of_list]; omega
  have sY : Y.size ≤ 1000 := by
    have := encV_len k' n' s'.data.toList
    have e : s'.data.toList.length = s'.size := by simp
    rw [← hY, size_of_list]; omega
  have M : (X.toList == Y.toList) = true ∨ ((X.toList == Y.toList) = false ∧ preB X Y = false ∧ preB Y X = false) := by
    have eX : X.data.toList = encV k n s.data.toList := by rw [← hX]
    have eY : Y.data.toList = encV k' n' s'.data.toList := by rw [← hY]
    rw [ByteArray.toList_eq, ByteArray.toList_eq]
    unfold preB
    rw [eX, eY]
    by_cases h : encV k n s.data.toList = encV k' n' s'.data.toList
    · exact .inl (by rw [h]; simp)
    · exact .inr ⟨by simpa using h, enc_free _ _ _ _ _ _ h, enc_free _ _ _ _ _ _ (fun e => h e.symm)⟩
  have N1 := Lib.hid (fun w => has_any X Y w (by omega) (by omega))
  have N2 := Lib.hid (fun w => has_any Y X w (by omega) (by omega))
  have HM := Lib.hid M
  clear M
  go_enter Try.func7, Try.ntmps7
  go_wp2_with fail
  refine (awake_any _).mono ?_
  rintro e w1 ⟨rfl, b1⟩
  have c0 := keepcell b1 (pastcell (newcell (g := w.heap.size) 0 _ rfl rfl))
  have c1 := keepcell b1 (pastcell (newcell (g := w.heap.size) 1 _ rfl rfl))
  have c2 := keepcell b1 (pastcell (newcell (g := w.heap.size) 2 _ rfl rfl))
  have d0 := keepcell b1 (newcell (g := w.heap.size + 1) 0 _ (by simp) rfl)
  have d1 := keepcell b1 (newcell (g := w.heap.size + 1) 1 _ (by simp) rfl)
  have d2 := keepcell b1 (newcell (g := w.heap.size + 1) 2 _ (by simp) rfl)
  have B1 : Below w.heap.size w w1 := (((Below.refl _ w).alloc (Nat.le_refl _) _).alloc (by simp) _).trans (b1.mono (by simp; omega))
  clear b1
  go_wp2_with fail
  have B1 := B1.drew
  go_region_law (first | (go_simp; go_at_call 13; first | ((with_reducible refine (Encode_made k n s _ ln gn (by omega)).mono ?_); rintro e w2 ⟨v2, rfl, o2, hb⟩; have c0 := keepcell hb c0; have c1 := keepcell hb c1; have c2 := keepcell hb c2; have d0 := keepcell hb d0; have d1 := keepcell hb d1; have d2 := keepcell hb d2; have B1 := more_below B1 hb; have q2 := run_string_own w2 28 9 5 _ v2 _ Try.underlying28 Try.underlying5 Try.underlying9 o2; rw [hX] at q2; (try have q3 := run_string_own w2 28 9 5 _ v3 _ Try.underlying28 Try.underlying5 Try.underlying9 (own_below o3 hb)); (try rw [hY] at q3)) | ((with_reducible refine (Encode_made k' n' s' _ ln' gn' (by omega)).mono ?_); rintro e w3 ⟨v3, rfl, o3, hb⟩; have c0 := keepcell hb c0; have c1 := keepcell hb c1; have c2 := keepcell hb c2; have d0 := keepcell hb d0; have d1 := keepcell hb d1; have d2 := keepcell hb d2; have B1 := more_below B1 hb; have q3 := run_string_own w3 28 9 5 _ v3 _ Try.underlying28 Try.underlying5 Try.underlying9 o3; rw [hY] at q3; (try have q2 := run_string_own w3 28 9 5 _ v2 _ Try.underlying28 Try.underlying5 Try.underlying9 (own_below o2 hb)); (try rw [hX] at q2))))
  all_goals
    clear c0 c1 c2 d0 d1 d2
    rcases HM.out with m | ⟨m, p1, p2⟩
    · go_wp2
      go_ret
      exact ⟨rfl, B1⟩
    · rw [p2] at N1
      rw [p1] at N2
      go_wp2_with (go_at_call 22; first | ((with_reducible refine (N1.out _).mono ?_); rintro e w9 ⟨rfl, rfl⟩) | ((with_reducible refine (N2.out _).mono ?_); rintro e w9 ⟨rfl, rfl⟩))
      go_ret
      exact ⟨rfl, B1⟩

theorem rowcodecPrefixFree_walk (k n : Int) (s : ByteArray) (k' n' : Int) (s' : ByteArray) (w : World) (_ : -9223372036854775808 ≤ k) (_ : k ≤ 9223372036854775807) (ln : -9223372036854775808 ≤ n) (gn : n ≤ 9223372036854775807) (ls : s.size ≤ 9223372036854775807) (_ : -9223372036854775808 ≤ k') (_ : k' ≤ 9223372036854775807) (ln' : -9223372036854775808 ≤ n') (gn' : n' ≤ 9223372036854775807) (ls' : s'.size ≤ 9223372036854775807) :
    Calls Try.prog 7 #[.agg #[.int .i64 k, .int .i64 n, .string s], .agg #[.int .i64 k', .int .i64 n', .string s']] w fun e w' => e = .returned (.bool true) ∧ Below w.heap.size w w' := by
  by_cases h : s.size ≤ 300 ∧ s'.size ≤ 300
  · exact rowcodecPrefixFree_short k n s k' n' s' w ln gn ln' gn' h.1 h.2
  · rcases (show 300 < s.size ∨ (s.size ≤ 300 ∧ 300 < s'.size) by omega) with h1 | ⟨h1, h2⟩
    all_goals
      clear h
      go_enter Try.func7, Try.ntmps7
      go_wp2_with fail
      refine (awake_any _).mono ?_
      rintro e w1 ⟨rfl, b1⟩
      have c2 := keepcell b1 (pastcell (newcell (g := w.heap.size) 2 _ rfl rfl))
      have d2 := keepcell b1 (newcell (g := w.heap.size + 1) 2 _ (by simp) rfl)
      have B1 : Below w.heap.size w w1 := (((Below.refl _ w).alloc (Nat.le_refl _) _).alloc (by simp) _).trans (b1.mono (by simp; omega))
      clear b1
      go_wp2_with fail
      refine (awake_any _).mono ?_
      rintro e w2 ⟨rfl, b2⟩
      go_wp2
      go_ret
      exact ⟨rfl, more_below B1 b2⟩

set_option maxRecDepth 100000 in
theorem rowcodecPrefixFree_lifted (os : Os) (started : os.Started) (H : Type) (enc : TypeId × Value → H) :
    ReturnsInHanded {} Try.checked os 7 .any (Rows.rowcodecPrefixFreeSpec.pre6 enc Try.prog Try.f7 Rows.rowcodecPrefixFreeRow.domain false) (Rows.rowcodecPrefixFreeSpec.post enc Try.prog Try.f7 false true false false) := by
  refine law_lifted (C := Try.checked) (B := 4) Try.own started (by kernel_rfl) Try.func7
    (ChangeSpec.witness6 (enc := enc) (C := Try.checked) false ⟨#[], #[.agg #[.int .i64 0, .int .i64 0, .string ⟨#[]⟩], .agg #[.int .i64 0, .int .i64 0, .string ⟨#[]⟩]], []⟩ 8 (by kernel_rfl) (by kernel_rfl) (by kernel_rfl) (by kernel_rfl))
    Try.laidOut (by kernel_rfl) rfl rfl rfl Try.underlying4 (fun ds h => match ds, h with | [_, _], _ => rfl) ?_
  intro W base args ds ps hval hA hlt hsz
  rw [Try.params7] at hA hval hsz
  obtain ⟨v0, vs0, d0, ds0, p0, q0, hargs, rfl, rfl, h0, r0⟩ := trodAll_cons hA
  obtain ⟨v1, vs1, d1, ds1, p1, q1, rfl, rfl, rfl, h1, r1⟩ := trodAll_cons r0
  obtain ⟨rfl, rfl, rfl⟩ := trodAll_nil r1
  obtain rfl : args = #[v0, v1] := by cases args; simp_all
  obtain ⟨x0, y0, z0, rfl, rfl, rfl, lx0, gx0, ly0, gy0, lz0⟩ := open_val (hval 0 23 v0 rfl rfl) h0
  obtain ⟨x1, y1, z1, rfl, rfl, rfl, lx1, gx1, ly1, gy1, lz1⟩ := open_val (hval 1 23 v1 rfl rfl) h1
  clear hlt hsz
  exact rowcodecPrefixFree_walk x0 y0 z0 x1 y1 z1 W lx0 gx0 ly0 gy0 lz0 lx1 gx1 ly1 gy1 lz1

theorem rowcodecPrefixFree_over : Rows.rowcodecPrefixFreeRow.holds Try.pinned (OpenSpec.ofChange Rows.rowcodecPrefixFreeSpec) :=
  OpenClaim.holds_of_wide 7 Try.f7 rfl rfl rfl rfl rfl rfl rfl ⟨rfl, rfl, rfl, rfl, rfl⟩ rfl rfl rfl rfl rfl (by kernel_rfl) Try.func7 (by kernel_rfl)
    (of_decide_eq_true (by kernel_rfl)) (by unfold Func.isWrapper; first | (rw [if_pos (by decide +kernel)]; kernel_rfl) | (rw [if_neg (by decide +kernel)]; exact ⟨rfl, rfl⟩))
    (fun os started H enc _ => rowcodecPrefixFree_lifted os started H enc)

theorem rowcodecPrefixFree_proved : Rows.RowcodecPrefixFreeSaid := rowcodecPrefixFree_over
end Go.Proofs.Ytdfkcibmmabjcaa
