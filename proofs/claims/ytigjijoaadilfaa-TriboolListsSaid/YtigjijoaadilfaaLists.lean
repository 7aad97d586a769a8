/- Law TriboolLists: for every list the call returns true, and the list reads afterwards as before. -/
import Derived.Test.YtigjijoaadilfaaTri
import Derived.Test.YtigjijoaadilfaaLaw
namespace Go.Proofs.Ytigjijoaadilfaa
open Go.ChangeShapes Go.WideShapes Go.ChangeAt Go.RowKit

def foldAnd (zs : List Int) (k : Nat) : Int := (zs.take k).foldl tand 1
def foldOr (zs : List Int) (k : Nat) : Int := (zs.take k).foldl tor 0
theorem fold_step (f : Int → Int → Int) (a : Int) (zs : List Int) (k : Nat) (hk : k < zs.length) : (zs.take (k + 1)).foldl f a = f ((zs.take k).foldl f a) (zs[k]?.getD 0) := by
  rw [List.take_add_one, List.foldl_append, List.getElem?_eq_getElem hk]; rfl
theorem foldAnd_step (zs : List Int) (k : Nat) (hk : k < zs.length) : foldAnd zs (k + 1) = tand (foldAnd zs k) (zs[k]?.getD 0) := fold_step _ _ _ _ hk
theorem foldOr_step (zs : List Int) (k : Nat) (hk : k < zs.length) : foldOr zs (k + 1) = tor (foldOr zs k) (zs[k]?.getD 0) := fold_step _ _ _ _ hk

theorem all_cells (g off n cap : Nat) (zs : List Int) (w : World) (hn : n ≤ zs.length) (hn2 : n ≤ 200)
    (hc : ∀ j, j < n → w.cell? ⟨g, off + j, none⟩ = some (.int .i64 (zs.getD j 0))) :
    Calls Try.prog 16 #[.slice (some ⟨g, off, none⟩) n cap] w fun e w' => e = .returned (.int .i64 (foldAnd zs n)) ∧ w = w' := by
  go_enter Try.func16, Try.ntmps16
  go_wp2
  go_loop [3, 8] (fun r i => ∃ k : Nat, k ≤ n ∧ i = .int .i64 k ∧ r = .int .i64 (foldAnd zs k)) (fun _ i => n - (intOf i).toNat)
  case atStart => exact ⟨0, Nat.zero_le _, rfl, rfl⟩
  case round =>
    obtain ⟨k, hk, rfl, rfl⟩ := hrel
    have hcell : k < n → w.cell? ⟨g, off + k, none⟩ = some (.int .i64 (zs.getD k 0)) := fun h => hc k h
    by_cases hlt : k < n
    · have H := Lib.hid (foldAnd_step zs k (by omega))
      go_wp2_with (go_at_call 10; refine (and_any _ _ _).mono ?_; rintro e w' ⟨rfl, rfl⟩)
      go_round
      case rel => exact ⟨k + 1, by omega, by go_num, by rw [H.out]⟩
      case measure => simp [intOf]; omega
    · go_wp2
      go_ret
      obtain rfl : k = n := by omega
      exact ⟨rfl, rfl⟩

theorem any_cells (g off n cap : Nat) (zs : List Int) (w : World) (hn : n ≤ zs.length) (hn2 : n ≤ 200)
    (hc : ∀ j, j < n → w.cell? ⟨g, off + j, none⟩ = some (.int .i64 (zs.getD j 0))) :
    Calls Try.prog 17 #[.slice (some ⟨g, off, none⟩) n cap] w fun e w' => e = .returned (.int .i64 (foldOr zs n)) ∧ w = w' := by
  go_enter Try.func17, Try.ntmps17
  go_wp2
  go_loop [3, 8] (fun r i => ∃ k : Nat, k ≤ n ∧ i = .int .i64 k ∧ r = .int .i64 (foldOr zs k)) (fun _ i => n - (intOf i).toNat)
  case atStart => exact ⟨0, Nat.zero_le _, rfl, rfl⟩
  case round =>
    obtain ⟨k, hk, rfl, rfl⟩ := hrel
    have hcell : k < n → w.cell? ⟨g, off + k, none⟩ = some (.int .i64 (zs.getD k 0)) := fun h => hc k h
    by_cases hlt : k < n
    · have H := Lib.hid (foldOr_step zs k (by omega))
      go_wp2_with (go_at_call 12; refine (or_any _ _ _).mono ?_; rintro e w' ⟨rfl, rfl⟩)
      go_round
      case rel => exact ⟨k + 1, by omega, by go_num, by rw [H.out]⟩
      case measure => simp [intOf]; omega
    · go_wp2
      go_ret
      obtain rfl : k = n := by omega
      exact ⟨rfl, rfl⟩

theorem any_none (w : World) : Calls Try.prog 17 #[.slice none 0 0] w fun e w' => e = .returned (.int .i64 0) ∧ w = w' := by
  go_enter Try.func17, Try.ntmps17
  go_wp2
  go_loop [3, 8] (fun r i => r = .int .i64 0 ∧ i = .int .i64 0) (fun _ _ => 0)
  case atStart => exact ⟨rfl, rfl⟩
  case round =>
    obtain ⟨rfl, rfl⟩ := hrel
    go_wp2
    go_ret
    exact ⟨rfl, rfl⟩

theorem all_own (B n : Nat) (v : Value) (zs : List Int) (w : World) (hn : n ≤ zs.length) (hn2 : n ≤ 200) (hown : w.ownsRow B 22 1 v n ((zs.take n).map (Value.int .i64))) :
    Calls Try.prog 16 #[v] w fun e w' => e = .returned (.int .i64 (foldAnd zs n)) ∧ w = w' := by
  have hown0 := hown
  obtain ⟨_, hcase⟩ := hown
  rcases hcase with ⟨rfl, rfl⟩ | ⟨g, cap', cur, rfl, hg, hh, hnc, hcap, hsz, htake⟩
  · exact all_none w
  · refine all_cells g 0 n cap' zs w hn hn2 fun j hj => ?_
    rw [Nat.zero_add, hown0.cellAt j (by simp; omega)]
    simp [List.getD, List.getElem?_map, hj, List.getElem?_eq_getElem (show j < zs.length by omega)]

theorem any_own (B n : Nat) (v : Value) (zs : List Int) (w : World) (hn : n ≤ zs.length) (hn2 : n ≤ 200) (hown : w.ownsRow B 22 1 v n ((zs.take n).map (Value.int .i64))) :
    Calls Try.prog 17 #[v] w fun e w' => e = .returned (.int .i64 (foldOr zs n)) ∧ w = w' := by
  have hown0 := hown
  obtain ⟨_, hcase⟩ := hown
  rcases hcase with ⟨rfl, rfl⟩ | ⟨g, cap', cur, rfl, hg, hh, hnc, hcap, hsz, htake⟩
  · exact any_none w
  · refine any_cells g 0 n cap' zs w hn hn2 fun j hj => ?_
    rw [Nat.zero_add, hown0.cellAt j (by simp; omega)]
    simp [List.getD, List.getElem?_map, hj, List.getElem?_eq_getElem (show j < zs.length by omega)]

theorem Try.info22 : (Try.prog.info? 22).map (fun i => (i.zero, i.size, i.bytes)) = some (some (.int .i64 0), 1, 8) := by kernel_rfl

theorem lists_long (a : Option Addr) (len cap : Nat) (w : World) (hl : 200 < len) (hm : len ≤ 140737488351232) :
    Calls Try.prog 4 #[.slice a len cap] w fun e w' => e = .returned (.bool true) ∧ Below w.heap.size w w' := by
  go_enter Try.func4, Try.ntmps4
  go_wp2_with (go_at_call 9; refine (awake_any _).mono ?_; rintro e w' ⟨rfl, rfl⟩)
  go_ret
  exact ⟨rfl, Below.refl _ _⟩

set_option maxHeartbeats 1600000 in
theorem lists_any (b off len cap : Nat) (zs : List Int) (w : World) (hl : len ≤ 200) (hz : len ≤ zs.length) (hb : b < w.heap.size)
    (hc : ∀ j, j < len → w.cell? ⟨b, off + j, none⟩ = some (.int .i64 (zs.getD j 0))) :
    Calls Try.prog 4 #[.slice (some ⟨b, off, none⟩) len cap] w fun e w' => e = .returned (.bool true) ∧ Below w.heap.size w w' := by
  obtain ⟨i0, hi, hz0, hz1, hz2⟩ := info_parts Try.info22
  obtain ⟨B, hB⟩ : ∃ B, B = w.heap.size := ⟨_, rfl⟩
  rw [← hB]
  have hb' : b < B := by omega
  have hB' : B ≤ w.heap.size := by omega
  clear hB hb
  go_enter Try.func4, Try.ntmps4
  go_wp2_with (go_at_call 9; refine (awake_any _).mono ?_; rintro e w' ⟨rfl, rfl⟩)
  go_loopw [3, 4, 5, 18] (fun v x y i wr => ∃ k : Nat, k ≤ len ∧ i = .int .i64 k ∧ wr.ownsRow B 22 1 v k ((zs.take k).map (Value.int .i64)) ∧ x = .int .i64 (foldAnd zs k) ∧ y = .int .i64 (foldOr zs k) ∧ Below B w wr)
    (fun _ _ _ i _ => len - (intOf i).toNat)
  case atStart => exact ⟨0, Nat.zero_le _, rfl, World.ownsRow_nil _ _ _ _, rfl, rfl, Below.refl _ _⟩
  case round =>
    obtain ⟨k, hk, rfl, hown, rfl, rfl, hnx⟩ := hrel
    have hcx : k < len → wr.cell? ⟨b, off + k, none⟩ = some (.int .i64 (zs.getD k 0)) := fun _ => (hnx.cell (by exact hb')).trans (hc k (by omega))
    by_cases hlt : k < len
    · have H1 := Lib.hid (foldAnd_step zs k (by omega))
      have H2 := Lib.hid (foldOr_step zs k (by omega))
      have H3 := Lib.hid hown
      clear hown
      go_wp2_with (first
        | (at_builtin; refine wpList_append_own _ rfl _ _ 28 rfl B 22 i0 (.int .i64 0) 1 8 Try.underlying28 hi hz0 hz1 hz2 rfl (by decide) _ _ _ rfl (H3.out.alloc _) ⟨wr.heap.size, 0, none⟩ 1 1 [.int .i64 (zs.getD k 0)] rfl rfl ?c1 ?c2 ?c3 ?c4 ?c5 ?_))
      case c1 =>
        intro j u hj
        match j, hj with
        | 0, hj => simp at hj; subst hj; simp [Addr.add]
      case c2 => intro u hu; simp at hu; subst hu; rfl
      case c3 => unfold maxLen; omega
      case c4 => omega
      case c5 => have := hnx.size; simp; omega
      intro v' w1 hown' hgrow _
      have hown := H3.out
      have hnx1 : Below B w w1 := (hnx.alloc (by have := hnx.size; omega) _).grown hgrow (by have := hnx.size; simp; omega) (fun j hj => (hown.lt j hj).1)
      have hrow : w1.ownsRow B 22 1 v' (k + 1) ((zs.take (k + 1)).map (Value.int .i64)) := by
        have e : (zs.take (k + 1)).map (Value.int .i64) = (zs.take k).map (Value.int .i64) ++ [.int .i64 (zs.getD k 0)] := by
          rw [List.take_add_one, List.map_append, List.getElem?_eq_getElem (show k < zs.length by omega)]; simp [List.getD, List.getElem?_eq_getElem (show k < zs.length by omega)]
        rw [e, List.map_take]; simpa [List.getD] using hown'
      have H4 := Lib.hid hrow
      have H5 := Lib.hid hnx1
      clear hown' hgrow hown H3 hcx hrow hnx1 hnx
      go_wp2_with (first | (go_at_call 11; refine (refand_any _ _ _).mono ?_; rintro e w' ⟨rfl, rfl⟩) | (go_at_call 13; refine (refor_any _ _ _).mono ?_; rintro e w' ⟨rfl, rfl⟩))
      go_roundw
      case rel => exact ⟨k + 1, by omega, by go_num, H4.out, by rw [H1.out], by rw [H2.out], H5.out⟩
      case measure => simp [intOf]; omega
    · obtain rfl : k = len := by omega
      have H3 := Lib.hid hown
      clear hown
      go_wp2_with (first | (go_at_call 16; refine (all_own B k _ zs _ hz hl H3.out).mono ?_; rintro e w' ⟨rfl, rfl⟩) | (go_at_call 17; refine (any_own B k _ zs _ hz hl H3.out).mono ?_; rintro e w' ⟨rfl, rfl⟩))
      go_ret
      exact ⟨rfl, hnx⟩

theorem lists_none (a : Option Addr) (cap : Nat) (w : World) : Calls Try.prog 4 #[.slice a 0 cap] w fun e w' => e = .returned (.bool true) ∧ Below w.heap.size w w' := by
  go_enter Try.func4, Try.ntmps4
  go_wp2_with (go_at_call 9; refine (awake_any _).mono ?_; rintro e w' ⟨rfl, rfl⟩)
  go_loop [3, 4, 5, 18] (fun v x y i => v = .slice none 0 0 ∧ i = .int .i64 0 ∧ x = .int .i64 1 ∧ y = .int .i64 0) (fun _ _ _ _ => 0)
  case atStart => exact ⟨rfl, rfl, rfl, rfl⟩
  case round =>
    obtain ⟨rfl, rfl, rfl, rfl⟩ := hrel
    go_wp2_with (first | (go_at_call 16; refine (all_none _).mono ?_; rintro e w' ⟨rfl, rfl⟩) | (go_at_call 17; refine (any_none _).mono ?_; rintro e w' ⟨rfl, rfl⟩))
    go_ret
    exact ⟨rfl, Below.refl _ _⟩

theorem Try.cells3 : Try.prog.cellsOf 3 = 1 := by kernel_rfl
theorem Try.bytes3 : Try.prog.bytesOf 3 = 8 := by kernel_rfl

set_option maxRecDepth 100000 in
theorem lists_lifted (os : Os) (started : os.Started) (H : Type) (enc : TypeId × Value → H) :
    ReturnsInHanded {} Try.checked os 4 .any (Rows.triboolListsSpec.pre6 enc Try.prog Try.f4 Rows.triboolListsRow.domain false) (Rows.triboolListsSpec.post enc Try.prog Try.f4 false true false false) := by
  refine law_lifted (C := Try.checked) (B := 4) Try.own started (by kernel_rfl) Try.func4
    (ChangeSpec.witness6 (enc := enc) (C := Try.checked) false ⟨#[], #[.slice none 0 0], []⟩ 8 (by kernel_rfl) (by kernel_rfl) (by kernel_rfl) (by kernel_rfl))
    Try.laidOut (by kernel_rfl) rfl rfl rfl Try.underlying4 (fun ds h => match ds, h with | [_], _ => rfl) ?_
  intro W base args ds ps hval hA hlt hsz
  rw [Try.params4] at hA hval hsz
  obtain ⟨v0, d0, e1, rfl, h0⟩ := trodAll_one hA
  obtain rfl : args = #[v0] := by cases args; simp_all
  obtain ⟨a0, len, cap, rfl⟩ := okWide_slice Try.underlying27 (hval 0 27 v0 rfl rfl)
  obtain ⟨fuel, hf⟩ := h0
  rcases open_ints Try.underlying27 Try.underlying3 Try.cells3 hf with ⟨hcs, hx⟩ | ⟨a, len', cap', zs, hcs, _, hl, hm, hz, hx, hcell, hwz⟩
  · simp [Value.cells] at hcs
    obtain ⟨rfl, rfl, rfl⟩ := hcs
    exact lists_none _ _ W
  · simp [Value.cells] at hcs
    obtain ⟨rfl, rfl, rfl⟩ := hcs
    simp only [Prod.mk.injEq] at hx
    obtain ⟨rfl, rfl⟩ := hx
    simp only [if_true] at hz
    have hreach : len * 8 ≤ 140737488351232 := by
      have := sized_slice hsz (j := 0) (t := 27) (e := 3) rfl rfl Try.underlying27
      rw [show Try.checked.prog.bytesOf 3 = 8 from Try.bytes3] at this
      simp only [lits, List.length_map, List.length_take, List.length_drop, reachBytes] at this
      omega
    by_cases h200 : 200 < len
    · exact lists_long _ _ _ _ h200 (by omega)
    · by_cases hl0 : len = 0
      · subst hl0
        exact lists_none a cap W
      · obtain ⟨b, off, spot⟩ := a
        have hspot : spot = none := by simpa [Addr.add] using World.cell?_spot (hcell 0 (by omega))
        subst hspot
        have hbW : b < W.heap.size := hlt (.cell b off) (MemPlace.mem_row.2 ⟨0, by omega, by simp⟩)
        exact lists_any b off len cap zs W (by omega) (by omega) hbW (fun j hj => by rw [← add_plain]; exact hcell j (by omega))

theorem lists_over : Rows.triboolListsRow.holds Try.pinned (OpenSpec.ofChange Rows.triboolListsSpec) :=
  OpenClaim.holds_of_wide 4 Try.f4 rfl rfl rfl rfl rfl rfl rfl ⟨rfl, rfl, rfl, rfl, rfl⟩ rfl rfl rfl rfl rfl (by kernel_rfl) Try.func4 (by kernel_rfl)
    (of_decide_eq_true (by kernel_rfl)) (by unfold Func.isWrapper; first | (rw [if_pos (by decide +kernel)]; kernel_rfl) | (rw [if_neg (by decide +kernel)]; exact ⟨rfl, rfl⟩))
    (fun os started H enc _ => lists_lifted os started H enc)

theorem lists_proved : Rows.TriboolListsSaid := lists_over
end Go.Proofs.Ytigjijoaadilfaa
