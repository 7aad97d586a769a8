/- The encoding of a text is appended. -/
import Derived.Test.YtdfkcibmmabjcaaApp
import Derived.Test.YtdfkcibmmabjcaaPar
namespace Go.Proofs.Ytdfkcibmmabjcaa
open Go.ChangeShapes Go.WideShapes Go.ChangeAt Go.RowKit

def esc (x : UInt8) : List UInt8 := if x = 0 then [1, 1] else if x = 1 then [1, 2] else [x]
def escs (l : List UInt8) : List UInt8 := l.flatMap esc
theorem esc_len (x : UInt8) : (esc x).length ≤ 2 := by unfold esc; split; simp; split <;> simp
theorem escs_len (l : List UInt8) : (escs l).length ≤ 2 * l.length := by
  unfold escs
  induction l with
  | nil => simp
  | cons x l ih => rw [List.flatMap_cons, List.length_append, List.length_cons]; have := esc_len x; omega
theorem escs_snoc (l : List UInt8) (k : Nat) (h : k < l.length) : escs (l.take (k + 1)) = escs (l.take k) ++ esc l[k] := by
  rw [take_snoc l k h, escs, List.flatMap_append]; simp [escs]

theorem Try.info5 : (Try.prog.info? 5).map (fun i => (i.zero, i.size, i.bytes)) = some (some (.int .u8 0), 1, 1) := by kernel_rfl
theorem src_new {xs : List Value} {n c : Nat} (wr : World) (hl : xs.length = n) (h1 : ∀ u ∈ xs, u.oneCell' = true) : Src Try.prog 1 28 (.slice (some ⟨wr.heap.size, 0, none⟩) n c) n xs (wr.alloc (.cells xs.toArray 5)) := by
  refine Src.ofSlice _ Try.underlying28 _ _ _ _ (by omega) (fun j u hu => ?_) h1
  rw [add_plain, Nat.zero_add, World.cell?_alloc_at _ _ _ _ rfl]
  simpa using hu

set_option maxHeartbeats 1000000 in
theorem appendText_any (B : Nat) (v : Value) (l : List UInt8) (s : ByteArray) (w : World) (hown : w.ownsRow B 5 1 v l.length (bc l)) (hB : B ≤ w.heap.size) (hn : l.length ≤ 1099511627776) (hs : s.size ≤ 1099511627776) :
    Calls Try.prog 38 #[v, .string s] w (Apd 5 B w v (l ++ escs s.data.toList ++ [0])) := by
  obtain ⟨i0, hi, hz0, hz1, hz2⟩ := info_parts Try.info5
  have hsl : s.data.toList.length = s.size := by simp
  have HS := Lib.hid hsl
  clear hsl
  go_enter Try.func38, Try.ntmps38
  go_wp2
  go_loopw [0, 8] (fun v' i wr => ∃ k : Nat, k ≤ s.size ∧ i = .int .i64 k ∧ Grows 5 B w v (l ++ escs (s.data.toList.take k)) v' wr) (fun _ i _ => s.size - (intOf i).toNat)
  case atStart => exact ⟨0, Nat.zero_le _, rfl, Grows.refl (by simpa [escs] using hown) hB⟩
  case round =>
    obtain ⟨k, hk, rfl, hG⟩ := hrel
    obtain ⟨m, hm⟩ : ∃ m, l ++ escs (s.data.toList.take k) = m := ⟨_, rfl⟩
    have hml : m.length ≤ 4398046511104 := by
      have h1 := escs_len (s.data.toList.take k)
      have h2 : (s.data.toList.take k).length ≤ k := List.length_take_le _ _
      rw [← hm, List.length_append]; omega
    rw [hm] at hG
    have hsz := hG.size
    have H := Lib.hid hG.1
    have HG := Lib.hid hG
    have HM := Lib.hid hm
    clear hG hm hown
    by_cases hlt : k < s.size
    · rcases (show s[k] = 0 ∨ s[k] = 1 ∨ (s[k] ≠ 0 ∧ s[k] ≠ 1) by by_cases h : s[k] = 0; exact .inl h; by_cases h' : s[k] = 1; exact .inr (.inl h'); exact .inr (.inr ⟨h, h'⟩)) with h0 | h0 | ⟨h0, h1⟩
      · have hx0 : ((s[k].toNat : Int) == 0) = true := by rw [h0]; rfl
        have HE : Hid (l ++ escs (s.data.toList.take (k + 1)) = m ++ [1, 1]) := by
          refine Lib.hid ?_
          rw [escs_snoc _ k (by rw [HS.out]; exact hlt), ← List.append_assoc, HM.out]
          congr 1
          exact (congrArg esc h0).trans rfl
        go_wp2_with (first
          | (at_builtin; refine wpList_append_src _ rfl _ _ 28 28 rfl B 5 i0 (.int .u8 0) 1 1 Try.underlying28 hi hz0 hz1 hz2 rfl _ _ _ rfl (H.out.alloc _) _ 2 [.int .u8 1, .int .u8 1] rfl (src_new _ rfl ?c1) ?c2 ?c3 ?c4 ?_))
        case c1 => exact bc_one [1, 1]
        case c2 => unfold maxLen; omega
        case c3 => omega
        case c4 => exact (HG.out.alloc _).2.2.2
        intro v' w1 own' hgr hmv
        have G := Lib.hid ((HG.out.alloc _).step [1, 1] own' rfl rfl hgr hmv)
        clear own' hgr hmv
        go_wp2
        go_roundw
        case rel => exact ⟨k + 1, by omega, by go_num, by rw [HE.out]; exact G.out⟩
        case measure => simp [intOf]; omega
      · have hx0 : ((s[k].toNat : Int) == 0) = false := by rw [h0]; rfl
        have hx1 : ((s[k].toNat : Int) == 1) = true := by rw [h0]; rfl
        have HE : Hid (l ++ escs (s.data.toList.take (k + 1)) = m ++ [1, 2]) := by
          refine Lib.hid ?_
          rw [escs_snoc _ k (by rw [HS.out]; exact hlt), ← List.append_assoc, HM.out]
          congr 1
          exact (congrArg esc h0).trans rfl
        go_wp2_with (first
          | (at_builtin; refine wpList_append_src _ rfl _ _ 28 28 rfl B 5 i0 (.int .u8 0) 1 1 Try.underlying28 hi hz0 hz1 hz2 rfl _ _ _ rfl (H.out.alloc _) _ 2 [.int .u8 1, .int .u8 2] rfl (src_new _ rfl ?c1) ?c2 ?c3 ?c4 ?_))
        case c1 => exact bc_one [1, 2]
        case c2 => unfold maxLen; omega
        case c3 => omega
        case c4 => exact (HG.out.alloc _).2.2.2
        intro v' w1 own' hgr hmv
        have G := Lib.hid ((HG.out.alloc _).step [1, 2] own' rfl rfl hgr hmv)
        clear own' hgr hmv
        go_wp2
        go_roundw
        case rel => exact ⟨k + 1, by omega, by go_num, by rw [HE.out]; exact G.out⟩
        case measure => simp [intOf]; omega
      · have hx0 : ((s[k].toNat : Int) == 0) = false := by
          simp only [beq_eq_false_iff_ne, ne_eq]; intro e; exact h0 (UInt8.toNat.inj (by simpa using e))
        have hx1 : ((s[k].toNat : Int) == 1) = false := by
          simp only [beq_eq_false_iff_ne, ne_eq]; intro e; exact h1 (UInt8.toNat.inj (by show _ = 1; omega))
        have HE : Hid (l ++ escs (s.data.toList.take (k + 1)) = m ++ [s[k]]) := by
          refine Lib.hid ?_
          rw [escs_snoc _ k (by rw [HS.out]; exact hlt), ← List.append_assoc, HM.out]
          congr 1
          show esc s[k] = _; unfold esc; rw [if_neg h0, if_neg h1]
        go_wp2_with (first
          | (at_builtin; refine wpList_append_src _ rfl _ _ 28 28 rfl B 5 i0 (.int .u8 0) 1 1 Try.underlying28 hi hz0 hz1 hz2 rfl _ _ _ rfl (H.out.alloc _) _ 1 [.int .u8 (s[k].toNat : Int)] rfl (src_new _ rfl ?c1) ?c2 ?c3 ?c4 ?_))
        case c1 => exact bc_one [s[k]]
        case c2 => unfold maxLen; omega
        case c3 => omega
        case c4 => exact (HG.out.alloc _).2.2.2
        intro v' w1 own' hgr hmv
        have G := Lib.hid ((HG.out.alloc _).step [s[k]] own' rfl rfl hgr hmv)
        clear own' hgr hmv
        go_wp2
        go_roundw
        case rel => exact ⟨k + 1, by omega, by go_num, by rw [HE.out]; exact G.out⟩
        case measure => simp [intOf]; omega
    · obtain rfl : k = s.size := by omega
      have HE : Hid (l ++ escs s.data.toList = m) := by
        refine Lib.hid ?_
        have := HM.out
        rwa [List.take_of_length_le (by rw [HS.out]; exact Nat.le_refl _)] at this
      go_wp2_with (first
        | (at_builtin; refine wpList_append_src _ rfl _ _ 28 28 rfl B 5 i0 (.int .u8 0) 1 1 Try.underlying28 hi hz0 hz1 hz2 rfl _ _ _ rfl (H.out.alloc _) _ 1 [.int .u8 0] rfl (src_new _ rfl ?c1) ?c2 ?c3 ?c4 ?_))
      case c1 => exact bc_one [0]
      case c2 => unfold maxLen; omega
      case c3 => omega
      case c4 => exact (HG.out.alloc _).2.2.2
      intro v' w1 own' hgr hmv
      have G := Lib.hid ((HG.out.alloc _).step [0] own' rfl rfl hgr hmv)
      clear own' hgr hmv
      go_wp2
      go_ret
      rw [HE.out]
      exact ⟨_, rfl, G.out⟩
end Go.Proofs.Ytdfkcibmmabjcaa
