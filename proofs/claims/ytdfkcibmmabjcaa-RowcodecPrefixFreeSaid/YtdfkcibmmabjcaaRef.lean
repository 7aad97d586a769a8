/- The reference's encoding of a value. -/
import Derived.Test.YtdfkcibmmabjcaaVal
namespace Go.Proofs.Ytdfkcibmmabjcaa
open Go.ChangeShapes Go.WideShapes Go.ChangeAt Go.RowKit

/-- A new row of bytes is handed back. -/
def Made (E : TypeId) (w : World) (l : List UInt8) (e : Ending) (w' : World) : Prop := ∃ v', e = .returned v' ∧ w'.ownsRow w.heap.size E 1 v' l.length (bc l) ∧ Below w.heap.size w w'
theorem Encode_made (k n : Int) (s : ByteArray) (w : World) (n1 : -9223372036854775808 ≤ n) (n2 : n ≤ 9223372036854775807) (hs : s.size ≤ 1099511627776) :
    Calls Try.prog 13 #[.agg #[.int .i64 k, .int .i64 n, .string s]] w (Made 5 w (encV k n s.data.toList)) :=
  (Encode_any k n s w n1 n2 hs).mono fun _ _ ⟨v', he, G⟩ => ⟨v', he, G.1, G.is_below rfl⟩
theorem own_lit {E : TypeId} (w : World) (B g n : Nat) (cs : Array Value) (l : List UInt8) (hg : g = w.heap.size) (hn : n = l.length) (hc : cs = (bc l).toArray) (hB : B ≤ w.heap.size) (hl : n ≤ maxLen) :
    Grows E B (w.alloc (.cells cs E)) (.slice (some ⟨g, 0, none⟩) n n) l (.slice (some ⟨g, 0, none⟩) n n) (w.alloc (.cells cs E)) := by
  subst hg; subst hn; subst hc
  exact .refl (World.ownsRow_lit (base := B) (size := 1) w (bc l).toArray l.length hB hl (by simp [bc])) (by simp; omega)

theorem Value_int (n : Int) (s : ByteArray) (w : World) (n1 : -9223372036854775808 ≤ n) (n2 : n ≤ 9223372036854775807) :
    Calls Try.prog 14 #[.agg #[.int .i64 1, .int .i64 n, .string s]] w (Made 5 w ([2] ++ num8 (n + 9223372036854775808))) := by
  obtain ⟨i0, hi, hz0, hz1, hz2⟩ := info_parts Try.info5
  have HO := Lib.hid (own_lit (E := 5) (w.alloc (.cells #[.int .i64 1, .int .i64 n, .string s] 23)) w.heap.size (w.heap.size + 1) 1 #[.int .u8 2] [2] (by simp) rfl rfl (by simp) (by decide))
  go_enter Try.func14, Try.ntmps14
  go_wp2_with (first
    | (go_at_call 31; refine (refnumber_any n _ n1 n2).mono ?_; rintro e w' ⟨rfl, rfl⟩)
    | (at_builtin; refine wpList_app rfl (.tmp 8) (.tmp 11) 28 28 rfl w.heap.size ((w.alloc (.cells #[.int .i64 1, .int .i64 n, .string s] 23)).alloc (.cells #[.int .u8 2] 5)) (.slice (some ⟨w.heap.size + 1, 0, none⟩) 1 1) 5 i0 Try.underlying28 hi hz0 hz1 hz2 (.slice (some ⟨w.heap.size + 1, 0, none⟩) 1 1) [2] rfl (HO.out.alloc _) _ 8 (num8 (n + 9223372036854775808)) rfl (src_blk Try.underlying28 rfl (bc_one _) (Blk.new_ (by simp) rfl)) (by decide) ?_; intro v1 w1 G1 z1 k1))
  go_ret
  exact ⟨_, rfl, G1.1, (((Below.refl _ w).alloc (Nat.le_refl _) _).alloc (by simp) _).trans (G1.below_of HO.out.1 (by simp; omega))⟩

set_option maxHeartbeats 1000000 in
theorem Value_text (n : Int) (s : ByteArray) (w : World) (hs : s.size ≤ 1099511627776) :
    Calls Try.prog 14 #[.agg #[.int .i64 2, .int .i64 n, .string s]] w (Made 5 w ([3] ++ escs s.data.toList ++ [0])) := by
  obtain ⟨i0, hi, hz0, hz1, hz2⟩ := info_parts Try.info5
  have HO := Lib.hid (own_lit (E := 5) (w.alloc (.cells #[.int .i64 2, .int .i64 n, .string s] 23)) w.heap.size (w.heap.size + 1) 1 #[.int .u8 3] [3] (by simp) rfl rfl (by simp) (by decide))
  obtain ⟨W0, hW0⟩ : ∃ W0, W0 = (w.alloc (.cells #[.int .i64 2, .int .i64 n, .string s] 23)).alloc (.cells #[.int .u8 3] 5) := ⟨_, rfl⟩
  obtain ⟨v0, hv0⟩ : ∃ v0 : Value, v0 = .slice (some ⟨w.heap.size + 1, 0, none⟩) 1 1 := ⟨_, rfl⟩
  have HA := Lib.hid (show Below w.heap.size w W0 by rw [hW0]; exact ((Below.refl _ w).alloc (Nat.le_refl _) _).alloc (by simp) _)
  have HB0 := Lib.hid (show Blk W0 w.heap.size 23 #[.int .i64 2, .int .i64 n, .string s] by rw [hW0]; exact (Blk.new _ _ _).alloc _)
  rw [← hW0, ← hv0] at HO
  have HW := Lib.hid hW0
  have HV := Lib.hid hv0
  have hsl : s.data.toList.length = s.size := by simp
  have HS := Lib.hid hsl
  clear hsl hW0 hv0
  go_enter Try.func14, Try.ntmps14
  go_wp2
  go_loopw [3, 4] (fun v' i wr => ∃ k : Nat, k ≤ s.size ∧ i = .int .i64 k ∧ Grows 5 w.heap.size W0 v0 ([3] ++ escs (s.data.toList.take k)) v' wr ∧ Blk wr w.heap.size 23 #[.int .i64 2, .int .i64 n, .string s]) (fun _ i _ => s.size - (intOf i).toNat)
  case atStart => exact ⟨0, Nat.zero_le _, rfl, by rw [← HW.out, ← HV.out]; exact HO.out, by rw [← HW.out]; exact HB0.out⟩
  case round =>
    obtain ⟨k, hk, rfl, hG, hb⟩ := hrel
    have hcell : wr.cell? ⟨w.heap.size, 2, none⟩ = some (.string s) := hb.cell 2
    obtain ⟨m, hm⟩ : ∃ m, [3] ++ escs (s.data.toList.take k) = m := ⟨_, rfl⟩
    have hml : m.length ≤ 4398046511104 := by
      have h1 := escs_len (s.data.toList.take k)
      have h2 : (s.data.toList.take k).length ≤ k := List.length_take_le _ _
      rw [← hm, List.length_append]; simp only [List.length_cons, List.length_nil]; omega
    rw [hm] at hG
    have HG := Lib.hid hG
    have HB := Lib.hid hb
    have HM := Lib.hid hm
    clear hG hm hb
    by_cases hlt : k < s.size
    · rcases (show s[k] = 0 ∨ s[k] = 1 ∨ (s[k] ≠ 0 ∧ s[k] ≠ 1) by by_cases h : s[k] = 0; exact .inl h; by_cases h' : s[k] = 1; exact .inr (.inl h'); exact .inr (.inr ⟨h, h'⟩)) with h0 | h0 | ⟨h0, h1⟩
      · have hx0 : ((s[k].toNat : Int) == 0) = true := by rw [h0]; rfl
        have HE : Hid ([3] ++ escs (s.data.toList.take (k + 1)) = m ++ [1, 1]) := by
          refine Lib.hid ?_
          rw [escs_snoc _ k (by rw [HS.out]; exact hlt), ← List.append_assoc, HM.out]
          congr 1
          exact (congrArg esc h0).trans rfl
        go_wp2_with (first
          | (at_builtin; refine wpList_app rfl _ _ 28 28 rfl w.heap.size W0 v0 5 i0 Try.underlying28 hi hz0 hz1 hz2 _ m rfl (HG.out.alloc _) _ 2 [1, 1] rfl (src_blk Try.underlying28 rfl (bc_one _) (Blk.new_ rfl rfl)) (by omega) ?_; intro v1 w1 G1 z1 k1))
        have HG1 := Lib.hid G1
        have HB1 := Lib.hid (k1 _ _ _ (by decide) (HB.out.alloc _))
        clear G1 k1 z1
        go_wp2
        go_roundw
        case rel => exact ⟨k + 1, by omega, by go_num, by rw [HE.out]; exact HG1.out, HB1.out⟩
        case measure => simp [intOf]; omega
      · have hx0 : ((s[k].toNat : Int) == 0) = false := by rw [h0]; rfl
        have hx1 : ((s[k].toNat : Int) == 1) = true := by rw [h0]; rfl
        have HE : Hid ([3] ++ escs (s.data.toList.take (k + 1)) = m ++ [1, 2]) := by
          refine Lib.hid ?_
          rw [escs_snoc _ k (by rw [HS.out]; exact hlt), ← List.append_assoc, HM.out]
          congr 1
          exact (congrArg esc h0).trans rfl
        go_wp2_with (first
          | (at_builtin; refine wpList_app rfl _ _ 28 28 rfl w.heap.size W0 v0 5 i0 Try.underlying28 hi hz0 hz1 hz2 _ m rfl (HG.out.alloc _) _ 2 [1, 2] rfl (src_blk Try.underlying28 rfl (bc_one _) (Blk.new_ rfl rfl)) (by omega) ?_; intro v1 w1 G1 z1 k1))
        have HG1 := Lib.hid G1
        have HB1 := Lib.hid (k1 _ _ _ (by decide) (HB.out.alloc _))
        clear G1 k1 z1
        go_wp2
        go_roundw
        case rel => exact ⟨k + 1, by omega, by go_num, by rw [HE.out]; exact HG1.out, HB1.out⟩
        case measure => simp [intOf]; omega
      · have hx0 : ((s[k].toNat : Int) == 0) = false := by
          simp only [beq_eq_false_iff_ne, ne_eq]; intro e; exact h0 (UInt8.toNat.inj (by simpa using e))
        have hx1 : ((s[k].toNat : Int) == 1) = false := by
          simp only [beq_eq_false_iff_ne, ne_eq]; intro e; exact h1 (UInt8.toNat.inj (by show _ = 1; omega))
        have HE : Hid ([3] ++ escs (s.data.toList.take (k + 1)) = m ++ [s[k]]) := by
          refine Lib.hid ?_
          rw [escs_snoc _ k (by rw [HS.out]; exact hlt), ← List.append_assoc, HM.out]
          congr 1
          show esc s[k] = _; unfold esc; rw [if_neg h0, if_neg h1]
        go_wp2_with (first
          | (at_builtin; refine wpList_app rfl _ _ 28 28 rfl w.heap.size W0 v0 5 i0 Try.underlying28 hi hz0 hz1 hz2 _ m rfl (HG.out.alloc _) _ 1 [s[k]] rfl (src_blk Try.underlying28 rfl (bc_one _) (Blk.new_ rfl rfl)) (by omega) ?_; intro v1 w1 G1 z1 k1))
        have HG1 := Lib.hid G1
        have HB1 := Lib.hid (k1 _ _ _ (by decide) (HB.out.alloc _))
        clear G1 k1 z1
        go_wp2
        go_roundw
        case rel => exact ⟨k + 1, by omega, by go_num, by rw [HE.out]; exact HG1.out, HB1.out⟩
        case measure => simp [intOf]; omega
    · obtain rfl : k = s.size := by omega
      have HE : Hid ([3] ++ escs s.data.toList = m) := by
        refine Lib.hid ?_
        have := HM.out
        rwa [List.take_of_length_le (by rw [HS.out]; exact Nat.le_refl _)] at this
      go_wp2_with (first
        | (at_builtin; refine wpList_app rfl _ _ 28 28 rfl w.heap.size W0 v0 5 i0 Try.underlying28 hi hz0 hz1 hz2 _ m rfl (HG.out.alloc _) _ 1 [0] rfl (src_blk Try.underlying28 rfl (bc_one _) (Blk.new_ rfl rfl)) (by omega) ?_; intro v1 w1 G1 z1 k1))
      go_ret
      show Made 5 w ([3] ++ escs s.data.toList ++ [0]) _ _
      rw [HE.out]
      exact ⟨_, rfl, G1.1, HA.out.trans (G1.below_of HO.out.1 HA.out.size)⟩

theorem Value_null (k n : Int) (s : ByteArray) (w : World) (h1 : (k == 1) = false) (h2 : (k == 2) = false) :
    Calls Try.prog 14 #[.agg #[.int .i64 k, .int .i64 n, .string s]] w (Made 5 w [1]) := by
  have HO := Lib.hid (own_lit (E := 5) (w.alloc (.cells #[.int .i64 k, .int .i64 n, .string s] 23)) w.heap.size (w.heap.size + 1) 1 #[.int .u8 1] [1] (by simp) rfl rfl (by simp) (by decide))
  have h3 : decide (k = 2) = false := by simpa using h2
  have h4 : decide (k = 1) = false := by simpa using h1
  go_enter Try.func14, Try.ntmps14
  go_wp2
  go_ret
  exact ⟨_, rfl, HO.out.1, ((Below.refl _ w).alloc (Nat.le_refl _) _).alloc (by simp) _⟩

theorem Value_any (k n : Int) (s : ByteArray) (w : World) (n1 : -9223372036854775808 ≤ n) (n2 : n ≤ 9223372036854775807) (hs : s.size ≤ 1099511627776) :
    Calls Try.prog 14 #[.agg #[.int .i64 k, .int .i64 n, .string s]] w (Made 5 w (encV k n s.data.toList)) := by
  unfold encV
  by_cases h1 : k = 1
  · subst h1
    rw [if_pos rfl]
    exact Value_int n s w n1 n2
  · rw [if_neg h1]
    by_cases h2 : k = 2
    · subst h2
      rw [if_pos rfl, ← List.append_assoc]
      exact Value_text n s w hs
    · rw [if_neg h2]
      exact Value_null k n s w (by simpa using h1) (by simpa using h2)
end Go.Proofs.Ytdfkcibmmabjcaa
