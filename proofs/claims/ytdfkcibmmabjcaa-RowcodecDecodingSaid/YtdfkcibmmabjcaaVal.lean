/- The encoding of a value is appended. -/
import Derived.Test.YtdfkcibmmabjcaaTxt
import Derived.RegionTactic
import Derived.Deep.RegionLaw
namespace Go.Proofs.Ytdfkcibmmabjcaa
open Go.ChangeShapes Go.WideShapes Go.ChangeAt Go.RowKit

def encV (k n : Int) (s : List UInt8) : List UInt8 := if k = 1 then [2] ++ num8 (n + 9223372036854775808) else if k = 2 then [3] ++ (escs s ++ [0]) else [1]
theorem Grows.trans {E : TypeId} {B : Nat} {w W W' : World} {v v' v'' : Value} {l l' : List UInt8} (h : Grows E B w v l v' W) (k : Grows E B W v' l' v'' W') : Grows E B w v l' v'' W' :=
  ⟨k.1, grown_chain h.2.1 h.2.2.1 k.2.1, moved_chain h.2.1.size h.2.2.1 k.2.2.1, k.2.2.2⟩

theorem appendText_grows {B : Nat} {w W : World} {v v1 : Value} {m : List UInt8} (s : ByteArray) (G : Grows 5 B w v m v1 W) (hm : m.length ≤ 1099511627776) (hs : s.size ≤ 1099511627776) :
    Calls Try.prog 38 #[v1, .string s] W (fun e w2 => ∃ v2, e = .returned v2 ∧ Grows 5 B w v (m ++ escs s.data.toList ++ [0]) v2 w2) :=
  (appendText_any B v1 m s W G.1 G.2.2.2 hm hs).mono fun _ _ ⟨v2, he, G2⟩ => ⟨v2, he, G.trans G2⟩

set_option maxHeartbeats 1000000 in
theorem appendValue_int (B : Nat) (v : Value) (l : List UInt8) (n : Int) (s : ByteArray) (w : World) (hown : w.ownsRow B 5 1 v l.length (bc l)) (hB : B ≤ w.heap.size) (hn : l.length ≤ 1099511627776) (n1 : -9223372036854775808 ≤ n) (n2 : n ≤ 9223372036854775807) :
    Calls Try.prog 30 #[v, .agg #[.int .i64 1, .int .i64 n, .string s]] w (Apd 5 B w v (l ++ [2] ++ num8 (n + 9223372036854775808))) := by
  obtain ⟨i0, hi, hz0, hz1, hz2⟩ := info_parts Try.info5
  have HG := Lib.hid (Grows.refl hown hB)
  clear hown
  go_enter Try.func30, Try.ntmps30
  go_wp2
  go_region_law (first
    | (refine step_app rfl (.tmp 9) (.tmp 10) 28 28 rfl B w v 5 i0 Try.underlying28 hi hz0 hz1 hz2 v l rfl ?_ _ 1 [2] rfl (src_blk Try.underlying28 rfl (bc_one _) ?_) (by omega) ?_; (repeat (first | with_reducible exact HG.out | with_reducible assumption | with_reducible apply Grows.drew | with_reducible apply Grows.alloc | with_reducible refine Grows.below (by assumption) ?_)); (repeat (first | with_reducible assumption | ((with_reducible refine Blk.new_ ?_ ?_) <;> (first | rfl | (simp; done))) | with_reducible apply Blk.drew | with_reducible apply Blk.alloc | with_reducible refine Blk.below (by assumption) ?_)); intro v1 w1 G1 z1 k1; have b1 : Blk w1 w.heap.size 23 #[.int .i64 1, .int .i64 n, .string s] := (by refine k1 _ _ _ (by decide) ?_; (repeat (first | with_reducible assumption | ((with_reducible refine Blk.new_ ?_ ?_) <;> (first | rfl | (simp; done))) | with_reducible apply Blk.drew | with_reducible apply Blk.alloc | with_reducible refine Blk.below (by assumption) ?_))); have c1 : w1.cell? ⟨w.heap.size, 1, none⟩ = some (.int .i64 n) := b1.cell 1)
    | (refine step_app rfl (.tmp 11) (.tmp 14) 28 9 rfl B w v 5 i0 Try.underlying28 hi hz0 hz1 hz2 v1 (l ++ [2]) rfl ?_ _ 8 (num8 (n + 9223372036854775808)) rfl (src_str Try.underlying9 _ _ rfl) (by simp; omega) ?_; (repeat (first | with_reducible exact HG.out | with_reducible assumption | with_reducible apply Grows.drew | with_reducible apply Grows.alloc | with_reducible refine Grows.below (by assumption) ?_)); intro v2 w2 G2 z2 k2)
    | (go_simp; go_at_call 27; refine (Number_any _ _ n1 n2).mono ?_; rintro e w' ⟨rfl, hb⟩))
  all_goals
    go_wp2
    go_ret
    exact ⟨_, rfl, G2⟩

set_option maxHeartbeats 1000000 in
theorem appendValue_text (B : Nat) (v : Value) (l : List UInt8) (n : Int) (s : ByteArray) (w : World) (hown : w.ownsRow B 5 1 v l.length (bc l)) (hB : B ≤ w.heap.size) (hn : l.length ≤ 549755813888) (hs : s.size ≤ 1099511627776) :
    Calls Try.prog 30 #[v, .agg #[.int .i64 2, .int .i64 n, .string s]] w (Apd 5 B w v (l ++ [3] ++ escs s.data.toList ++ [0])) := by
  obtain ⟨i0, hi, hz0, hz1, hz2⟩ := info_parts Try.info5
  have HG := Lib.hid (Grows.refl hown hB)
  have hl1 : (l ++ [3]).length ≤ 1099511627776 := by simp; omega
  have HL := Lib.hid hl1
  clear hown hl1
  go_enter Try.func30, Try.ntmps30
  go_wp2
  go_region_law (first
    | (refine step_app rfl (.tmp 18) (.tmp 19) 28 28 rfl B w v 5 i0 Try.underlying28 hi hz0 hz1 hz2 v l rfl ?_ _ 1 [3] rfl (src_blk Try.underlying28 rfl (bc_one _) ?_) (by omega) ?_; (repeat (first | with_reducible exact HG.out | with_reducible assumption | with_reducible apply Grows.drew | with_reducible apply Grows.alloc | with_reducible refine Grows.below (by assumption) ?_)); (repeat (first | with_reducible assumption | ((with_reducible refine Blk.new_ ?_ ?_) <;> (first | rfl | (simp; done))) | with_reducible apply Blk.drew | with_reducible apply Blk.alloc | with_reducible refine Blk.below (by assumption) ?_)); intro v1 w1 G1 z1 k1; have b1 : Blk w1 w.heap.size 23 #[.int .i64 2, .int .i64 n, .string s] := (by refine k1 _ _ _ (by decide) ?_; (repeat (first | with_reducible assumption | ((with_reducible refine Blk.new_ ?_ ?_) <;> (first | rfl | (simp; done))) | with_reducible apply Blk.drew | with_reducible apply Blk.alloc | with_reducible refine Blk.below (by assumption) ?_))); have c1 : w1.cell? ⟨w.heap.size, 2, none⟩ = some (.string s) := b1.cell 2)
    | (go_simp; go_at_call 38; refine (appendText_grows (B := B) (w := w) (v := v) (m := l ++ [3]) s ?_ HL.out hs).mono ?_; (repeat (first | with_reducible exact HG.out | with_reducible assumption | with_reducible apply Grows.drew | with_reducible apply Grows.alloc | with_reducible refine Grows.below (by assumption) ?_)); rintro e w2 ⟨v2, rfl, G4⟩))
  all_goals
    go_wp2
    go_ret
    exact ⟨_, rfl, G4⟩

theorem appendValue_null (B : Nat) (v : Value) (l : List UInt8) (k n : Int) (s : ByteArray) (w : World) (hown : w.ownsRow B 5 1 v l.length (bc l)) (hB : B ≤ w.heap.size) (hn : l.length ≤ 1099511627776) (k1 : (k == 1) = false) (k2 : (k == 2) = false) :
    Calls Try.prog 30 #[v, .agg #[.int .i64 k, .int .i64 n, .string s]] w (Apd 5 B w v (l ++ [1])) := by
  obtain ⟨i0, hi, hz0, hz1, hz2⟩ := info_parts Try.info5
  have HG := Lib.hid (Grows.refl hown hB)
  clear hown
  go_enter Try.func30, Try.ntmps30
  go_wp2_with (at_builtin; refine wpList_app rfl (.tmp 24) (.tmp 25) 28 28 rfl B w v 5 i0 Try.underlying28 hi hz0 hz1 hz2 v l rfl ((HG.out.alloc _).alloc _) _ 1 [1] rfl (src_blk Try.underlying28 rfl (bc_one _) (Blk.new_ (by simp) rfl)) (by omega) ?_; intro v1 w1 G1 z1 k1)
  go_ret
  exact ⟨_, rfl, G1⟩
theorem appendValue_any {B : Nat} {w W : World} {v v1 : Value} {l : List UInt8} (k n : Int) (s : ByteArray) (G : Grows 5 B w v l v1 W) (hn : l.length ≤ 549755813888) (n1 : -9223372036854775808 ≤ n) (n2 : n ≤ 9223372036854775807) (hs : s.size ≤ 1099511627776) :
    Calls Try.prog 30 #[v1, .agg #[.int .i64 k, .int .i64 n, .string s]] W (fun e w2 => ∃ v2, e = .returned v2 ∧ Grows 5 B w v (l ++ encV k n s.data.toList) v2 w2) := by
  unfold encV
  by_cases h1 : k = 1
  · subst h1
    rw [if_pos rfl, ← List.append_assoc]
    exact (appendValue_int B v1 l n s W G.1 G.2.2.2 (by omega) n1 n2).mono fun _ _ ⟨v2, he, G2⟩ => ⟨v2, he, G.trans G2⟩
  · rw [if_neg h1]
    by_cases h2 : k = 2
    · subst h2
      rw [if_pos rfl, ← List.append_assoc, ← List.append_assoc]
      exact (appendValue_text B v1 l n s W G.1 G.2.2.2 hn hs).mono fun _ _ ⟨v2, he, G2⟩ => ⟨v2, he, G.trans G2⟩
    · rw [if_neg h2]
      exact (appendValue_null B v1 l k n s W G.1 G.2.2.2 (by omega) (by simpa using h1) (by simpa using h2)).mono fun _ _ ⟨v2, he, G2⟩ => ⟨v2, he, G.trans G2⟩

theorem Encode_any (k n : Int) (s : ByteArray) (w : World) (n1 : -9223372036854775808 ≤ n) (n2 : n ≤ 9223372036854775807) (hs : s.size ≤ 1099511627776) :
    Calls Try.prog 13 #[.agg #[.int .i64 k, .int .i64 n, .string s]] w (Apd 5 w.heap.size w (.slice none 0 0) (encV k n s.data.toList)) := by
  have HG := Lib.hid (Grows.none_ (E := 5) (Nat.le_refl w.heap.size))
  go_enter Try.func13, Try.ntmps13
  go_wp2_with (go_at_call 30; refine (appendValue_any (B := w.heap.size) (w := w) (v := .slice none 0 0) (l := []) k n s (HG.out.alloc _) (by simp) n1 n2 hs).mono ?_; rintro e w2 ⟨v2, rfl, G2⟩)
  go_ret
  exact ⟨_, rfl, by simpa using G2⟩
end Go.Proofs.Ytdfkcibmmabjcaa
