/- The function awake of the laws of this layer returns true. -/
import Derived.Test.YtpnemkphdminnaaDoorFma
import Derived.Test.YtpnemkphdminnaaDoorCkr
import Derived.Lib.SlBytesConst
namespace Go.Proofs.YtpnemkphdminnaaDoor
open Go.ChangeShapes Go.WideShapes Go.ChangeAt Go.RowKit Go.ChangeMaps

theorem own_bytes2 {w : World} {B n : Nat} {v : Value} {l : List UInt8} (hn : l.length = n) (h : w.ownsRow B 5 1 v l.length (bc l)) : ∃ A c, v = .slice A n c ∧ BytesAt w A n l ∧ n ≤ c ∧ c ≤ 9223372036854775807 := by
  subst hn
  obtain ⟨A, c, e, hb⟩ := own_bytes h
  rcases h.2 with ⟨rfl, hl⟩ | ⟨g, cap, cur, rfl, _, _, hnc, hcap, _, _⟩
  · injection e with e1 e2 e3
    subst e1
    exact ⟨none, 0, by rw [← e2], hb, by omega, by omega⟩
  · injection e with e1 e2 e3
    subst e1; subst e3
    unfold maxLen at hcap
    exact ⟨_, _, rfl, hb, hnc, by omega⟩
def ckR (l : List UInt8) : List UInt8 × Int := if l.length < 8 then ([], 2) else if ckOk l = true then (l.take (l.length - 8), 0) else ([], 17)
theorem ck_append (l : List UInt8) : ckR (l ++ le8 8 (crc 0 l)) = (l, 0) := by
  have hl : (l ++ le8 8 (crc 0 l)).length = l.length + 8 := by rw [List.length_append, le8_len]
  have h8 : (256 : Nat) ^ 8 = 18446744073709551616 := by decide
  have hk : ckOk (l ++ le8 8 (crc 0 l)) = true := by
    unfold ckOk
    rw [hl, Nat.add_sub_cancel, List.drop_left, List.take_left, leN_le8, h8, Nat.mod_eq_of_lt (crc_lt 0 l)]
    simp
  unfold ckR
  rw [if_neg (by omega), if_pos hk, hl, Nat.add_sub_cancel, List.take_left]
theorem Check_all (A : Option Addr) (n c : Nat) (l : List UInt8) (w : World) (hb : BytesAt w A n l) (hn : n ≤ 308) (hc : n ≤ c) (hc2 : c ≤ 9223372036854775807) (he : Env w) :
    Calls Tryd.prog 18 #[.slice A n c] w (GivesC w (ckR l).1 (ckR l).2) := by
  have hl := hb.1
  unfold ckR
  rw [hl]
  by_cases h : n < 8
  · rw [if_pos h]; exact Check_short A n c w h
  · rw [if_neg h]
    obtain ⟨m, rfl⟩ : ∃ m, n = m + 8 := ⟨n - 8, by omega⟩
    have := Check_long A m c l w hb (by omega) hc hc2 he
    rw [Nat.add_sub_cancel]
    split
    · rename_i hk; rw [if_pos hk] at this; exact this
    · rename_i hk; rw [if_neg hk] at this; exact this
theorem CheckRef_all (A : Option Addr) (n c : Nat) (l : List UInt8) (w : World) (hb : BytesAt w A n l) (hn : n ≤ 308) (hc : n ≤ c) (hc2 : c ≤ 9223372036854775807) :
    Calls Tryd.prog 20 #[.slice A n c] w (GivesC w (ckR l).1 (ckR l).2) := by
  have hl := hb.1
  unfold ckR
  rw [hl]
  by_cases h : n < 8
  · rw [if_pos h]; exact CheckRef_short A n c w h
  · rw [if_neg h]
    obtain ⟨m, rfl⟩ : ∃ m, n = m + 8 := ⟨n - 8, by omega⟩
    have := CheckRef_long A m c l w hb (by omega) hc hc2
    rw [Nat.add_sub_cancel]
    split
    · rename_i hk; rw [if_pos hk] at this; exact this
    · rename_i hk; rw [if_neg hk] at this; exact this
theorem bytes_new (w : World) (l : List UInt8) (cs : Array Value) (hcs : cs = (bc l).toArray) {n g : Nat} (z : Nat × Nat) (hn : l.length = n) (hg : g = w.heap.size := by first | rfl | simp [Go.Deep.nblk_alloc]) : BytesAt (w.alloc (.cells cs 5 z)) (some ⟨g, 0, none⟩) n l := by
  subst hcs
  subst hg
  exact ⟨hn, fun _ => ⟨_, _, rfl, by simp, fun i hi => by rw [Nat.zero_add, cell_of_row _ _ i _ 5 z (heap_alloc_new w _)]; simpa using bc_at l i hi⟩⟩
theorem Sum_ex (l : List UInt8) {z : Int} {A : Option Addr} {n c : Nat} (w : World) (hz : ((crc 0 l : Nat) : Int) = z) (hb : BytesAt w A n l) (hn : n ≤ 300) (he : Env w) :
    Calls Tryd.prog 12 #[.slice A n c] w fun e w' => e = .returned (.int .u64 z) ∧ w = w' := by
  rw [← hz]; exact Sum_any A n c l w hb (by omega) he
theorem Format_ex (w : World) (h4 : w.cell? ⟨4, 15, none⟩ = some (.int .u8 4)) :
    Calls Tryd.prog 21 #[.int .u64 18374686479671623680] w fun e w' => e = .returned (.string ⟨#[102, 102, 48, 48, 48, 48, 48, 48, 48, 48, 48, 48, 48, 48, 48, 48]⟩) ∧ Below w.heap.size w w' := by
  have := Format_any 18374686479671623680 w (by decide) h4
  rw [show hexs 16 18374686479671623680 = [102, 102, 48, 48, 48, 48, 48, 48, 48, 48, 48, 48, 48, 48, 48, 48] by decide +kernel] at this
  exact this
/-- What the laws read of the package's tables. -/
structure Env2 (w : World) : Prop where
  e : Env w
  z : w.cell? ⟨4, 15, none⟩ = some (.int .u8 4)
theorem Env2.below {w w' : World} (h : Env2 w) (hb : Below w.heap.size w w') : Env2 w' := ⟨h.e.below hb, keepcell hb h.z⟩
set_option maxRecDepth 100000 in
set_option maxHeartbeats 1000000 in
theorem awake_any (w : World) (he : Env2 w) : Calls Tryd.prog 11 #[] w fun e w' => e = .returned (.bool true) ∧ Below w.heap.size w w' := by
  have B0 := (Below.refl w.heap.size w).alloc (Nat.le_refl _) (.cells #[.int .u8 97, .int .u8 98] 5 (2, 3))
  have y0 := bytes_new w [97, 98] #[.int .u8 97, .int .u8 98] rfl (n := 2) (2, 3) rfl
  have k2 := fun w => Lib.run_convert_bytes_const (P := Tryd.prog) w 22 5 #[.int .u8 97, .int .u8 98] 2 2 Tryd.underlying22 Tryd.underlying5
  have k8 := fun w => Lib.run_convert_bytes_const (P := Tryd.prog) w 22 5 #[.int .u8 97, .int .u8 98, .int .u8 99, .int .u8 100, .int .u8 101, .int .u8 102, .int .u8 103, .int .u8 104] 8 8 Tryd.underlying22 Tryd.underlying5
  have k3 := fun w => Lib.run_convert_bytes_const (P := Tryd.prog) w 22 5 #[.int .u8 97, .int .u8 98, .int .u8 99] 3 3 Tryd.underlying22 Tryd.underlying5
  have k9 := fun w => Lib.run_convert_bytes_const (P := Tryd.prog) w 22 5 #[.int .u8 49, .int .u8 50, .int .u8 51, .int .u8 52, .int .u8 53, .int .u8 54, .int .u8 55, .int .u8 56, .int .u8 57] 9 9 Tryd.underlying22 Tryd.underlying5
  simp only [List.size_toArray, List.length_cons, List.length_nil, Nat.zero_add, Nat.reduceAdd] at k2 k8 k3 k9
  have HE := Lib.hid he
  clear he
  go_enter Tryd.func11, Tryd.ntmps11
  go_wp2_with fail
  refine (Append_any _ 2 2 [97, 98] _ y0 (by omega) (HE.out.below B0).e).mono ?_
  rintro e w1 ⟨v1, rfl, o1, b1⟩
  obtain ⟨A1, c1, rfl, y1, hc1, hc1'⟩ := own_bytes2 (n := 10) rfl o1
  have B1 := more_below B0 b1
  clear b1 B0 y0 o1
  go_wp2_with fail
  have C1 := Check_all A1 10 c1 _ w1 y1 (by omega) hc1 hc1' (HE.out.below B1).e
  rw [ck_append] at C1
  refine C1.mono ?_
  rintro e w2 ⟨v2, rfl, o2, b2⟩
  have B2 := more_below B1 b2
  clear C1 B1 b2 y1
  have B3 := B2.alloc B2.size (.cells #[.int .u8 97, .int .u8 98, .int .u8 99, .int .u8 100, .int .u8 101, .int .u8 102, .int .u8 103, .int .u8 104] 5 (8, 9))
  have y3 := bytes_new w2 [97, 98, 99, 100, 101, 102, 103, 104] #[.int .u8 97, .int .u8 98, .int .u8 99, .int .u8 100, .int .u8 101, .int .u8 102, .int .u8 103, .int .u8 104] rfl (n := 8) (8, 9) rfl
  have o3 := own_below o2 ((Below.refl _ w2).alloc (Nat.le_refl _) (.cells #[.int .u8 97, .int .u8 98, .int .u8 99, .int .u8 100, .int .u8 101, .int .u8 102, .int .u8 103, .int .u8 104] 5 (8, 9)))
  clear o2
  go_wp2_with fail
  have C3 := Check_all _ 8 8 _ _ y3 (by omega) (by omega) (by omega) (HE.out.below B3).e
  rw [show ckR [97, 98, 99, 100, 101, 102, 103, 104] = ([], 17) by decide +kernel] at C3
  refine C3.mono ?_
  rintro e w3 ⟨v3, rfl, _, b3⟩
  have B4 := more_below B3 b3
  have o4 := own_below o3 b3
  clear C3 B3 b3 o3 y3
  have B5 := B4.alloc B4.size (.cells #[.int .u8 97, .int .u8 98, .int .u8 99] 5 (3, 4))
  have y5 := bytes_new w3 [97, 98, 99] #[.int .u8 97, .int .u8 98, .int .u8 99] rfl (n := 3) (3, 4) rfl
  have o5 := own_below o4 ((Below.refl _ w3).alloc (Nat.le_refl _) (.cells #[.int .u8 97, .int .u8 98, .int .u8 99] 5 (3, 4)))
  clear o4
  go_wp2_with fail
  have C5 := Check_all _ 3 3 _ _ y5 (by omega) (by omega) (by omega) (HE.out.below B5).e
  rw [show ckR [97, 98, 99] = ([], 2) by decide +kernel] at C5
  refine C5.mono ?_
  rintro e w4 ⟨v4, rfl, _, b5⟩
  have B6 := more_below B5 b5
  have o6 := own_below o5 b5
  clear C5 B5 b5 o5 y5
  go_wp2_with fail
  refine (Sum_ex [] (z := 0) (n := 0) w4 (by decide +kernel) ⟨rfl, fun h => absurd h (Nat.lt_irrefl 0)⟩ (by omega) (HE.out.below B6).e).mono ?_
  rintro e w' ⟨rfl, rfl⟩
  have B7 := B6.alloc B6.size (.cells #[.int .u8 255] 5)
  have y7 := bytes_new w4 [255] #[.int .u8 255] rfl (n := 1) (g := w4.heap.size) (0, 0) rfl
  go_wp2_with fail
  refine (Sum_ex [255] (z := 18374686479671623680) _ (by decide +kernel) y7 (by omega) (HE.out.below B7).e).mono ?_
  rintro e w' ⟨rfl, rfl⟩
  have B8 := B7.alloc B7.size (.cells #[.int .u8 127] 5)
  have y8 := bytes_new (w4.alloc (.cells #[.int .u8 255] 5)) [127] #[.int .u8 127] rfl (n := 1) (g := w4.heap.size + 1) (0, 0) rfl
  go_wp2_with fail
  refine (Sum_ex [127] (z := 3921605676610555714) _ (by decide +kernel) y8 (by omega) (HE.out.below B8).e).mono ?_
  rintro e w' ⟨rfl, rfl⟩
  have k9' := k9 ((w4.alloc (.cells #[.int .u8 255] 5)).alloc (.cells #[.int .u8 127] 5))
  simp only [Go.Deep.nblk_alloc] at k9'
  have B9 := B8.alloc B8.size (.cells #[.int .u8 49, .int .u8 50, .int .u8 51, .int .u8 52, .int .u8 53, .int .u8 54, .int .u8 55, .int .u8 56, .int .u8 57] 5 (9, 10))
  have y9 := bytes_new ((w4.alloc (.cells #[.int .u8 255] 5)).alloc (.cells #[.int .u8 127] 5)) [49, 50, 51, 52, 53, 54, 55, 56, 57] #[.int .u8 49, .int .u8 50, .int .u8 51, .int .u8 52, .int .u8 53, .int .u8 54, .int .u8 55, .int .u8 56, .int .u8 57] rfl (n := 9) (g := w4.heap.size + 1 + 1) (9, 10) rfl
  go_wp2_with fail
  refine (Sum_ex [49, 50, 51, 52, 53, 54, 55, 56, 57] (z := 11051210869376104954) _ (by decide +kernel) y9 (by omega) (HE.out.below B9).e).mono ?_
  rintro e w' ⟨rfl, rfl⟩
  have w9 : ∃ W, ((w4.alloc (.cells #[.int .u8 255] 5)).alloc (.cells #[.int .u8 127] 5)).alloc (.cells #[.int .u8 49, .int .u8 50, .int .u8 51, .int .u8 52, .int .u8 53, .int .u8 54, .int .u8 55, .int .u8 56, .int .u8 57] 5 (9, 10)) = W := ⟨_, rfl⟩
  have h9 := Go.Deep.nblk_alloc ((w4.alloc (.cells #[.int .u8 255] 5)).alloc (.cells #[.int .u8 127] 5)) (.cells #[.int .u8 49, .int .u8 50, .int .u8 51, .int .u8 52, .int .u8 53, .int .u8 54, .int .u8 55, .int .u8 56, .int .u8 57] 5 (9, 10))
  simp only [Go.Deep.nblk_alloc] at h9
  have o9 := own_below o6 (((((Below.refl w4.heap.size w4).alloc (Nat.le_refl _) (.cells #[.int .u8 255] 5)).alloc (by simp [Go.Deep.nblk_alloc]) (.cells #[.int .u8 127] 5))).alloc (by simp [Go.Deep.nblk_alloc]; omega) (.cells #[.int .u8 49, .int .u8 50, .int .u8 51, .int .u8 52, .int .u8 53, .int .u8 54, .int .u8 55, .int .u8 56, .int .u8 57] 5 (9, 10)))
  obtain ⟨W, hW⟩ := w9
  rw [hW] at B9 o9
  have y10 := bytes_new W [255] #[.int .u8 255] rfl (n := 1) (g := W.heap.size) (0, 0) rfl
  have B10 := B9.alloc B9.size (.cells #[.int .u8 255] 5)
  have o10 := own_below o9 ((Below.refl _ W).alloc (Nat.le_refl _) (.cells #[.int .u8 255] 5))
  rw [hW]
  clear hW h9 k9' o9 o6 y9 y8 y7 B6 B7 B8 B9
  go_wp2_with fail
  refine (Sum_ex [255] (z := 18374686479671623680) _ (by decide +kernel) y10 (by omega) (HE.out.below B10).e).mono ?_
  rintro e w' ⟨rfl, rfl⟩
  go_wp2_with fail
  refine (Format_ex _ (HE.out.below B10).z).mono ?_
  rintro e w12 ⟨rfl, b12⟩
  have B12 := more_below B10 b12
  have o12 := own_below o10 b12
  have q := run_string_own w12 22 9 5 _ v2 [97, 98] Tryd.underlying22 Tryd.underlying5 Tryd.underlying9 o12
  clear o12 o10 b12 B10 y10
  go_wp2
  go_ret
  exact ⟨rfl, B12⟩
end Go.Proofs.YtpnemkphdminnaaDoor
