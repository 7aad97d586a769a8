/- Hexadecimal digits by the library. -/
import Derived.Test.YtpnemkphdminnaaDoorTxt
namespace Go.Proofs.YtpnemkphdminnaaDoor
open Go.ChangeShapes Go.WideShapes Go.ChangeAt Go.RowKit Go.ChangeMaps

set_option maxRecDepth 100000 in
theorem pow2_any (w : World) : Calls Tryd.prog 45 #[.int .i64 16] w fun e w' => e = .returned (.bool true) ∧ w = w' := by
  go_enter Tryd.func45, Tryd.ntmps45
  go_wp2
  go_ret
  exact ⟨ret_bool (by decide), rfl⟩
set_option maxRecDepth 100000 in
theorem tz64_any (w : World) (h : w.cell? ⟨4, 15, none⟩ = some (.int .u8 4)) : Calls Tryd.prog 50 #[.int .u64 16] w fun e w' => e = .returned (.int .i64 4) ∧ w = w' := by
  have e1 : bits BinOp.and IntKind.u64 16 (IntKind.u64.wrap (-16)) = 16 := by decide
  have e2 : IntKind.u64.wrap (16 * 285870213051353865) / 288230376151711744 = 15 := by decide
  have e3 : IntKind.u64.wrap 4573923408821661840 / 288230376151711744 = 15 := by decide
  go_enter Tryd.func50, Tryd.ntmps50
  go_wp2
  go_ret
  exact ⟨rfl, rfl⟩
theorem tz_any (w : World) (h : w.cell? ⟨4, 15, none⟩ = some (.int .u8 4)) : Calls Tryd.prog 46 #[.int .u64 16] w fun e w' => e = .returned (.int .i64 4) ∧ w = w' := by
  go_enter Tryd.func46, Tryd.ntmps46
  go_wp2_with (go_at_call 50; refine (tz64_any _ h).mono ?_; rintro e w' ⟨rfl, rfl⟩)
  go_ret
  exact ⟨rfl, rfl⟩
theorem zero74 (w : World) : (zeroValue 74).run Tryd.prog w = .ok (.agg (bc (List.replicate 65 0)).toArray) w := by
  obtain ⟨i, hi, hz⟩ := Option.map_eq_some_iff.1 (show (Tryd.prog.info? 74).map (·.zero) = some (some (.agg (bc (List.replicate 65 0)).toArray)) by kernel_rfl)
  simp [zeroValue, typeInfo, hi, hz]
def HexG (s : Nat) (w : World) (e : Ending) (w' : World) : Prop := ∃ m, 1 ≤ m ∧ m ≤ 16 ∧ s / 16 ^ m = 0 ∧ e = .returned (.tuple #[.slice none 0 0, .string ⟨(hexs m s).toArray⟩]) ∧ Below w.heap.size w w'
theorem bc_set (j : Nat) (h : List UInt8) (d : UInt8) (v : Value) (hv : v = .int .u8 (d.toNat : Int)) : (bc (List.replicate (j + 1) 0 ++ h)).toArray.setIfInBounds j v = (bc (List.replicate j 0 ++ d :: h)).toArray := by
  subst hv
  rw [List.replicate_succ', List.append_assoc, bc_app, bc_app]
  have hl : (bc (List.replicate j 0)).length = j := by rw [bc_len, List.length_replicate]
  simp only [List.setIfInBounds_toArray]
  congr 1
  rw [List.set_append_right _ _ (by omega), hl, Nat.sub_self, bc_app]
  rfl
theorem hex_at (x : Nat) (hx : x < 16) (h : x < (⟨#[48, 49, 50, 51, 52, 53, 54, 55, 56, 57, 97, 98, 99, 100, 101, 102, 103, 104, 105, 106, 107, 108, 109, 110, 111, 112, 113, 114, 115, 116, 117, 118, 119, 120, 121, 122]⟩ : ByteArray).size) : ((⟨#[48, 49, 50, 51, 52, 53, 54, 55, 56, 57, 97, 98, 99, 100, 101, 102, 103, 104, 105, 106, 107, 108, 109, 110, 111, 112, 113, 114, 115, 116, 117, 118, 119, 120, 121, 122]⟩ : ByteArray)[x]'h) = hexd x := by
  have := (show ∀ i : Fin 16, ((⟨#[48, 49, 50, 51, 52, 53, 54, 55, 56, 57, 97, 98, 99, 100, 101, 102, 103, 104, 105, 106, 107, 108, 109, 110, 111, 112, 113, 114, 115, 116, 117, 118, 119, 120, 121, 122]⟩ : ByteArray)[i.val]'(Nat.lt_of_lt_of_le i.isLt (by decide))) = hexd i by decide) ⟨x, hx⟩
  exact this
theorem str_blk {w : World} {g j n : Nat} {l : List UInt8} (hl : l.length = n) (h : w.heap[g]? = some (.cells (bc (List.replicate j 0 ++ l)).toArray 74 (0, 0))) :
    (convert 22 9 (.slice (some ⟨g, j, none⟩) n n)).run Tryd.prog w = .ok (.string ⟨l.toArray⟩) w := by
  refine string_at ⟨hl, fun _ => ⟨g, j, rfl, (Array.getElem?_eq_some_iff.1 h).1, fun i hi => ?_⟩⟩
  rw [Joins.cell_of_block h (j + i), bc_app]
  have hl2 : (bc (List.replicate j 0)).length = j := by rw [bc_len, List.length_replicate]
  simp only [List.getElem?_toArray]
  rw [List.getElem?_append_right (by omega), hl2, Nat.add_sub_cancel_left, bc_at l i hi]
theorem bc_zero (j : Nat) (h : List UInt8) : (bc (List.replicate (j + 1) 0 ++ h)).toArray[j]? = some (.int .u8 0) := by
  rw [List.replicate_succ', List.append_assoc, bc_app]
  have hl : (bc (List.replicate j 0)).length = j := by rw [bc_len, List.length_replicate]
  simp only [List.getElem?_toArray]
  rw [List.getElem?_append_right (by omega), hl, Nat.sub_self]
  rfl
set_option maxRecDepth 100000 in
set_option maxHeartbeats 1000000 in
theorem fmtBits_any (s : Nat) (w : World) (hs : s < 18446744073709551616) (h4 : w.cell? ⟨4, 15, none⟩ = some (.int .u8 4)) :
    Calls Tryd.prog 36 #[.slice none 0 0, .int .u64 (s : Int), .int .i64 16, .bool false, .bool false] w (HexG s w) := by
  have hz := zero74
  obtain ⟨Z, hZ⟩ : ∃ Z, bc (List.replicate 65 0) = Z := ⟨_, rfl⟩
  rw [hZ] at hz
  have HZ := Lib.hid hZ
  clear hZ
  have h5 := pastcell (x := .cells Z.toArray 74) h4
  go_enter Tryd.func36, Tryd.ntmps36
  go_wp2_with (first | (go_at_call 45; refine (pow2_any _).mono ?_; rintro e w' ⟨rfl, rfl⟩) | (go_at_call 46; refine (tz_any _ h5).mono ?_; rintro e w' ⟨rfl, rfl⟩))
  go_loopw [1, 13] (fun u i wr => ∃ j k : Nat, j + k = 65 ∧ k ≤ 15 ∧ i = .int .i64 j ∧ u = .int .u64 ((s / 16 ^ k : Nat) : Int) ∧ wr.heap[w.heap.size]? = some (.cells (bc (List.replicate j 0 ++ hexs k s)).toArray 74 (0, 0)) ∧ Below w.heap.size w wr) (fun _ i _ => (intOf i).toNat)
  case atStart => exact ⟨65, 0, rfl, by omega, rfl, int_eq (by rw [Nat.pow_zero, Nat.div_one]), by rw [← HZ.out]; simpa [hexs] using heap_alloc_new w _, (Below.refl _ _).alloc (Nat.le_refl _) _⟩
  case round =>
    obtain ⟨j, k, hjk, hk, rfl, rfl, hblk, hB⟩ := hrel
    have hx : s / 16 ^ k < 18446744073709551616 := Nat.lt_of_le_of_lt (Nat.div_le_self _ _) hs
    by_cases hlt : 16 ≤ s / 16 ^ k
    · have hk2 : k < 15 := by
        rcases Nat.lt_or_ge k 15 with h | h
        · exact h
        · obtain rfl : k = 15 := by omega
          have : (16 : Nat) ^ 15 = 1152921504606846976 := by decide
          omega
      obtain ⟨j, rfl⟩ : ∃ j', j = j' + 1 := ⟨j - 1, by omega⟩
      have H1 := Lib.hid (hexs_succ k s)
      have H2 := Lib.hid (show s / 16 ^ (k + 1) = s / 16 ^ k / 16 by rw [Nat.pow_succ, Nat.div_div_eq_div_mul])
      have c0 := (Joins.cell_of_block hblk j).trans (bc_zero j _)
      have f0 := Joins.unfrozen_of_block hblk j
      have HBk := Lib.hid hblk
      have HB := Lib.hid hB
      clear hblk hB
      generalize hexs k s = q at *
      generalize s / 16 ^ k = x at *
      have e1 := iand15 hx
      go_wp2
      go_roundw
      case rel =>
        refine ⟨j, k + 1, by omega, by omega, rfl, by rw [H2.out]; exact int_eq (Int.natCast_ediv x 16).symm, ?_, HB.out.setCell (Nat.le_refl _) _⟩
        rw [Joins.block_setCell HBk.out, H1.out, bc_set j q (hexd (x % 16)) _ (by rw [hex_at _ (Nat.mod_lt _ (by omega))])]
      case measure => simp [intOf]
    · obtain ⟨j, rfl⟩ : ∃ j', j = j' + 1 := ⟨j - 1, by omega⟩
      have H1 := Lib.hid (hexs_succ k s)
      have H2 := Lib.hid (show s / 16 ^ (k + 1) = s / 16 ^ k / 16 by rw [Nat.pow_succ, Nat.div_div_eq_div_mul])
      have hq := hexs_len k s
      have c0 := (Joins.cell_of_block hblk j).trans (bc_zero j _)
      have f0 := Joins.unfrozen_of_block hblk j
      generalize hexs k s = q at *
      generalize s / 16 ^ k = x at *
      have hblk2 := Joins.block_setCell (i := j) hblk (Value.int .u8 ((((⟨#[48, 49, 50, 51, 52, 53, 54, 55, 56, 57, 97, 98, 99, 100, 101, 102, 103, 104, 105, 106, 107, 108, 109, 110, 111, 112, 113, 114, 115, 116, 117, 118, 119, 120, 121, 122]⟩ : ByteArray)[x]'(Nat.lt_of_lt_of_le (by omega) (show 16 ≤ _ by decide))).toNat : Nat) : Int))
      rw [bc_set j q (hexd x) _ (by rw [hex_at _ (by omega)])] at hblk2
      have qs := str_blk (n := k + 1) (by simp [hq]) hblk2
      have HB := Lib.hid (hB.setCell (Nat.le_refl _) _ : Below w.heap.size w (wr.setCell ⟨w.heap.size, j, none⟩ (Value.int .u8 ((((⟨#[48, 49, 50, 51, 52, 53, 54, 55, 56, 57, 97, 98, 99, 100, 101, 102, 103, 104, 105, 106, 107, 108, 109, 110, 111, 112, 113, 114, 115, 116, 117, 118, 119, 120, 121, 122]⟩ : ByteArray)[x]'(Nat.lt_of_lt_of_le (by omega) (show 16 ≤ _ by decide))).toNat : Nat) : Int))))
      have e65 : 65 - j = k + 1 := by omega
      have hj : (j : Int) ≤ 65 := by omega
      have hj0 : (0 : Int) ≤ (j : Int) := by omega
      have hj2 : ¬ 65 = j := by omega
      have hAL : Tryd.prog.arrayLen 74 = 65 := by kernel_rfl
      have HQ := Lib.hid hq
      have HJ := Lib.hid hjk
      clear hblk hblk2 hB hq hjk
      go_wp2
      go_ret2
      exact ⟨k + 1, by omega, by omega, by rw [H2.out]; omega, by rw [H1.out, show x % 16 = x by omega]; rfl, HB.out⟩
theorem FormatU_in (s : Nat) (w : World) (hs : s < 18446744073709551616) (h4 : w.cell? ⟨4, 15, none⟩ = some (.int .u8 4)) :
    Calls Tryd.prog 26 #[.int .u64 (s : Int), .int .i64 16] w (fun e w' => ∃ m, 1 ≤ m ∧ m ≤ 16 ∧ s / 16 ^ m = 0 ∧ e = .returned (.string ⟨(hexs m s).toArray⟩) ∧ Below w.heap.size w w') := by
  go_enter Tryd.func26, Tryd.ntmps26
  go_wp2_with (go_at_call 36; refine (fmtBits_any s _ hs h4).mono ?_; rintro e w' ⟨m, m1, m2, m3, rfl, hb⟩)
  go_ret
  exact ⟨m, m1, m2, m3, rfl, hb⟩
theorem FormatU_any (s : Nat) (w : World) (hs : s < 18446744073709551616) (h4 : w.cell? ⟨4, 15, none⟩ = some (.int .u8 4)) :
    Calls Tryd.prog 24 #[.int .u64 (s : Int), .int .i64 16] w (fun e w' => ∃ m, 1 ≤ m ∧ m ≤ 16 ∧ s / 16 ^ m = 0 ∧ e = .returned (.string ⟨(hexs m s).toArray⟩) ∧ Below w.heap.size w w') := by
  go_enter Tryd.func24, Tryd.ntmps24
  go_wp2_with (go_at_call 26; refine (FormatU_in s _ hs h4).mono ?_; rintro e w' ⟨m, m1, m2, m3, rfl, hb⟩)
  go_ret
  exact ⟨m, m1, m2, m3, rfl, hb⟩
end Go.Proofs.YtpnemkphdminnaaDoor
