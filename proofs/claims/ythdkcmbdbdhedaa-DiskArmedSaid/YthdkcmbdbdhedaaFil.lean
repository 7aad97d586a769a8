/- Sectors that are filled, and compared. -/
import Derived.Test.YthdkcmbdbdhedaaDwr
namespace Go.Proofs.Ythdkcmbdbdhedaa
open Go.ChangeShapes Go.WideShapes Go.ChangeAt Go.RowKit Go.ChangeMaps

theorem bc_set (L : List UInt8) (k : Nat) (b : UInt8) : (bc L).toArray.setIfInBounds k (.int .u8 (b.toNat : Int)) = (bc (L.set k b)).toArray := by
  simp [bc, List.map_set]
theorem rep_set (b z : UInt8) (k m : Nat) : (List.replicate k b ++ List.replicate (m + 1) z).set k b = List.replicate (k + 1) b ++ List.replicate m z := by
  rw [List.set_append, if_neg (by simp)]
  simp only [List.length_replicate, Nat.sub_self, List.replicate_succ (n := m), List.set_cons_zero]
  rw [List.replicate_succ' (n := k)]
  simp
def zeros : List UInt8 := List.replicate 64 0
theorem make64 : ∃ cs : Array Value, Hid (cs = (bc zeros).toArray) ∧ ∀ w : World, (Instr.makeSlice 34 (.int .i64 64) (.int .i64 64)).run Try.prog w = .ok (.slice (some ⟨w.heap.size, 0, none⟩) 64 64) (w.alloc (.cells cs 5)) :=
  ⟨Array.replicate 64 (.int .u8 0), Lib.hid (by unfold zeros bc; simp; rfl), fun w => by kernel_rfl⟩
theorem run_copy_spl {P : Program} (w : World) (dT sT ty elem : TypeId) (g off dLen dCap : Nat) (ad : Addr) (sLen sCap : Nat) (cur : List Value) (t : TypeId) (cs : List Value)
    (hu : P.underlying dT = some (.slice elem)) (hs : (P.info? elem).map (·.size) = some 1) (hg : w.heap[g]? = some (.cells cur.toArray t (0, 0))) (hn : cs.length = Nat.min sLen dLen)
    (hsrc : ∀ j v, cs[j]? = some v → w.cell? (ad.add j) = some v) (hfit : off + cs.length ≤ cur.length) (h1 : ∀ v ∈ cs, v.oneCell' = true) :
    (Builtin.copy_ #[dT, sT] ty #[.slice (some ⟨g, off, none⟩) dLen dCap, .slice (some ad) sLen sCap]).run P w = .ok (goInt cs.length) (w.setRow g (splice cur off cs).toArray) := by
  have := run_copy_row (P := P) w dT sT ty elem g off dLen dCap ad sLen sCap cur.toArray t cs hu hs hg hn hsrc (by simpa using hfit) h1
  simpa [splice] using this
set_option maxRecDepth 100000 in
theorem fill_any (w : World) (b : UInt8) : Calls Try.prog 27 #[.int .u8 (b.toNat : Int)] w fun e w' => e = .returned (.slice (some ⟨w.heap.size, 0, none⟩) 64 64) ∧ Blk w' w.heap.size 5 (bc (List.replicate 64 b)).toArray ∧ Below w.heap.size w w' := by
  obtain ⟨cs, hcs, hmk⟩ := make64
  go_enter Try.func27, Try.ntmps27
  go_wp2
  have HB0 := Lib.hid (show Blk (w.alloc (.cells cs 5)) w.heap.size 5 (bc (List.replicate 0 b ++ List.replicate 64 0)).toArray by rw [hcs.out]; exact Blk.new _ _ _)
  clear hmk hcs
  go_loopw [8] (fun i wr => ∃ k : Nat, k ≤ 64 ∧ i = .int .i64 (k : Int) ∧ Blk wr w.heap.size 5 (bc (List.replicate k b ++ List.replicate (64 - k) 0)).toArray ∧ Below w.heap.size w wr) (fun i _ => 64 - (intOf i).toNat)
  case atStart => exact ⟨0, by omega, rfl, HB0.out, (Below.refl _ w).alloc (Nat.le_refl _) _⟩
  case round =>
    obtain ⟨k, hk, rfl, hK, hB⟩ := hrel
    have HB := Lib.hid hB
    have HK := Lib.hid hK
    clear hB HB0
    by_cases hlt : k < 64
    · obtain ⟨x, hx⟩ : ∃ x, (bc (List.replicate k b ++ List.replicate (64 - k) 0))[k]? = some x := ⟨_, List.getElem?_eq_getElem (by simp [bc_len]; omega)⟩
      have ck : wr.cell? ⟨w.heap.size, k, none⟩ = some x := by rw [HK.out.cell]; rw [← hx]; simp
      have fk : wr.frozen? ⟨w.heap.size, k, none⟩ = false := Joins.unfrozen_of_block HK.out k
      have HN : Hid (Blk (wr.setCell ⟨w.heap.size, k, none⟩ (.int .u8 (b.toNat : Int))) w.heap.size 5 (bc (List.replicate (k + 1) b ++ List.replicate (64 - (k + 1)) 0)).toArray) := by
        refine Lib.hid ?_
        have h1 : Blk (wr.setCell ⟨w.heap.size, k, none⟩ (.int .u8 (b.toNat : Int))) w.heap.size 5 ((bc (List.replicate k b ++ List.replicate (64 - k) 0)).toArray.setIfInBounds k (.int .u8 (b.toNat : Int))) := Joins.block_setCell HK.out _
        rw [bc_set, show 64 - k = (64 - (k + 1)) + 1 by omega, rep_set] at h1
        exact h1
      have HB2 := Lib.hid (HB.out.trans (show Below w.heap.size wr (wr.setCell ⟨w.heap.size, k, none⟩ (.int .u8 (b.toNat : Int))) from ⟨rfl, rfl, rfl, by simp [World.setCell], fun j hj => Below.heap_setCell wr _ _ j (fun e => by rw [show j = w.heap.size from e] at hj; omega)⟩))
      clear hx hK
      have hki : (k : Int) < 64 := by omega
      go_wp2
      go_roundw
      case rel => exact ⟨k + 1, by omega, by go_num, HN.out, HB2.out⟩
      case measure => simp [intOf]; omega
    · obtain rfl : k = 64 := by omega
      go_wp2
      go_ret
      exact ⟨rfl, by simpa using HK.out, HB.out⟩
/-- A sector that begins with some bytes. -/
def sec64 (d : List UInt8) : List UInt8 := d.take 64 ++ List.replicate (64 - d.length) 1
theorem sec64_len (d : List UInt8) : (sec64 d).length = 64 := by unfold sec64; simp; omega
theorem sec64_splice (d : List UInt8) : splice (List.replicate 64 (1 : UInt8)) 0 (d.take 64) = sec64 d := by
  unfold splice sec64
  rw [List.take_zero, List.nil_append, List.drop_replicate, List.length_take]
  congr 2
  omega
set_option maxRecDepth 100000 in
theorem sector_any (w : World) (A : Option Addr) (n c : Nat) (d : List UInt8) (h : BytesAt w A n d) (hn : n ≤ 9223372036854775807) : Calls Try.prog 23 #[.slice A n c] w fun e w' => e = .returned (.slice (some ⟨w.heap.size, 0, none⟩) 64 64) ∧ Blk w' w.heap.size 5 (bc (sec64 d)).toArray ∧ Below w.heap.size w w' := by
  have HF := Lib.hid (fill_any w 1)
  have HH := Lib.hid h
  clear h
  go_enter Try.func23, Try.ntmps23
  go_wp2_with fail
  refine HF.out.mono ?_
  rintro e w2 ⟨rfl, hk, hb⟩
  have HK := Lib.hid hk
  have HB := Lib.hid hb
  have H2 := Lib.hid (HH.out.below hb)
  clear hk hb HF
  have hq : ∃ (m : Value) (W : World), (Builtin.copy_ #[34, 34] 3 #[.slice (some ⟨w.heap.size, 0, none⟩) 64 64, .slice A n c]).run Try.prog w2 = .ok m W ∧ Blk W w.heap.size 5 (bc (sec64 d)).toArray ∧ Below w.heap.size w W := by
    have hl := H2.out.1
    rcases Nat.eq_zero_or_pos n with h0 | h0
    · subst h0
      obtain rfl : d = [] := List.eq_nil_of_length_eq_zero hl
      exact ⟨_, _, run_copy_none (P := Try.prog) w2 34 34 3 5 _ _ 64 64 0 c Try.underlying34 size5 rfl, HK.out, HB.out⟩
    · obtain ⟨b, off, rfl, hbl, hcc⟩ := H2.out.2 h0
      have hcl : (bc (d.take 64)).length = Nat.min n 64 := by rw [bc_len, List.length_take, hl]; exact Nat.min_comm _ _
      refine ⟨_, _, run_copy_spl (P := Try.prog) w2 34 34 3 5 w.heap.size 0 64 64 ⟨b, off, none⟩ n c _ 5 (bc (d.take 64)) Try.underlying34 size5 HK.out hcl (fun j v => src_take hcc j v) ?_ (bc_one _), ?_, ?_⟩
      · have : Nat.min n 64 ≤ 64 := Nat.min_le_right _ _
        simp only [hcl, bc_len, List.length_replicate]
        omega
      · rw [bc_splice, sec64_splice]
        exact setRow_heap w2 w.heap.size (bc (List.replicate 64 (1 : UInt8))).toArray _ 5 _ HK.out
      · exact below_setRow HB.out (Nat.le_refl _) _
  obtain ⟨m, W, qc, hk, hb⟩ := hq
  have HK := Lib.hid hk
  have HB := Lib.hid hb
  clear hk hb H2
  go_wp2
  go_ret
  exact ⟨rfl, HK.out, HB.out⟩
theorem bytes_of_blk {w : World} {g t : Nat} {l : List UInt8} {n : Nat} (h : Blk w g t (bc l).toArray) (hl : l.length = n) : BytesAt w (some ⟨g, 0, none⟩) n l :=
  ⟨hl, fun _ => ⟨g, 0, rfl, h.lt, fun i hi => by rw [Nat.zero_add, h.cell, ← bc_at l i hi]; simp⟩⟩
theorem ba_of_blk {F : Nat → Prop} {w : World} {g t : Nat} {l : List UInt8} {n : Nat} (h : Blk w g t (bc l).toArray) (hl : l.length = n) (hg : ¬ F g) : BA F w (some ⟨g, 0, none⟩) n l :=
  ⟨hl, fun _ => ⟨g, 0, rfl, h.lt, hg, fun i hi => by rw [Nat.zero_add, h.cell, ← bc_at l i hi]; simp⟩⟩
theorem Same_any (w : World) (A B : Option Addr) (n c m e : Nat) (l r : List UInt8) (h1 : BytesAt w A n l) (h2 : BytesAt w B m r) (b : Bool) (hb : decide (l = r) = b) : Calls Try.prog 18 #[.slice A n c, .slice B m e] w fun e w' => e = .returned (.bool b) ∧ w = w' := by
  have q1 := string_at (c := c) h1
  have q2 := string_at (c := e) h2
  clear h1 h2
  go_enter Try.func18, Try.ntmps18
  go_wp2
  go_ret
  refine ⟨ret_bool ?_, rfl⟩
  rw [← hb, Bool.eq_iff_iff]
  simp
end Go.Proofs.Ythdkcmbdbdhedaa
