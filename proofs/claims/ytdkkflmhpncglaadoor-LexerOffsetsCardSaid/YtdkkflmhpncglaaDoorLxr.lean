/- Upper and lower case of the reference. -/
import Derived.Test.YtdkkflmhpncglaaDoorLxu
import Derived.Lib.ConvBytes
import Derived.Laws.IdiomStrings
namespace Go.Proofs.YtdkkflmhpncglaaDoor
open Go.ChangeShapes Go.WideShapes Go.ChangeAt Go.RowKit Go.ChangeMaps

/-- A block that begins with the bytes l; the mark of a string's bytes lies behind them. -/
def BK (w : World) (g : Nat) (l : List UInt8) : Prop := ∃ (cs : Array Value) (m : Nat), w.heap[g]? = some (.cells cs 5 (m, m + 1)) ∧ l.length ≤ m ∧ m ≤ cs.size ∧ ∀ j (hj : j < l.length), cs[j]? = some (.int .u8 (l[j].toNat : Int))
theorem BK.cell {w : World} {g : Nat} {l : List UInt8} (h : BK w g l) (j : Nat) (hj : j < l.length) : w.cell? ⟨g, j, none⟩ = some (.int .u8 (l[j].toNat : Int)) := by
  obtain ⟨cs, m, h1, h2, h3, h4⟩ := h
  rw [Joins.cell_of_block h1]
  exact h4 j hj
theorem BK.cellq {w : World} {g : Nat} {l : List UInt8} {j : Nat} {c : UInt8} (h : BK w g l) (hc : l[j]? = some c) : w.cell? ⟨g, j, none⟩ = some (.int .u8 (c.toNat : Int)) := by
  obtain ⟨hj, e⟩ := List.getElem?_eq_some_iff.1 hc
  rw [← e]
  exact h.cell j hj
theorem half_get (f : UInt8 → UInt8) (l : List UInt8) (k : Nat) (hk : k < l.length) : ((l.take k).map f ++ l.drop k)[k]? = some l[k] := by
  have hm : ((l.take k).map f).length = k := by rw [List.length_map, List.length_take]; omega
  rw [List.getElem?_append_right (by omega), hm, Nat.sub_self, List.drop_eq_getElem_cons hk]
  rfl
theorem half_set (f : UInt8 → UInt8) (l : List UInt8) (k : Nat) (hk : k < l.length) (c : UInt8) : ((l.take k).map f ++ l.drop k).set k c = (l.take k).map f ++ c :: l.drop (k + 1) := by
  have hm : ((l.take k).map f).length = k := by rw [List.length_map, List.length_take]; omega
  rw [List.set_append_right _ _ (by omega), hm, Nat.sub_self, List.drop_eq_getElem_cons hk]
  rfl
theorem half_next (f : UInt8 → UInt8) (l : List UInt8) (k : Nat) (hk : k < l.length) : (l.take k).map f ++ f l[k] :: l.drop (k + 1) = (l.take (k + 1)).map f ++ l.drop (k + 1) := by
  rw [List.take_succ_eq_append_getElem hk, List.map_append, List.append_assoc]
  rfl
theorem BK.free {w : World} {g : Nat} {l : List UInt8} (h : BK w g l) (j : Nat) (hj : j < l.length) : w.frozen? ⟨g, j, none⟩ = false := by
  obtain ⟨cs, m, h1, h2, h3, h4⟩ := h
  unfold World.frozen?
  rw [h1]
  simp only [Bool.and_eq_false_iff, decide_eq_false_iff_not]
  omega
theorem BK.set {w : World} {g : Nat} {l : List UInt8} (h : BK w g l) (j : Nat) (c : UInt8) : BK (w.setCell ⟨g, j, none⟩ (.int .u8 (c.toNat : Int))) g (l.set j c) := by
  obtain ⟨cs, m, h1, h2, h3, h4⟩ := h
  refine ⟨_, m, Joins.block_setCell h1 _, by rw [List.length_set]; exact h2, by simpa using h3, fun i hi => ?_⟩
  rw [List.length_set] at hi
  rw [Array.getElem?_setIfInBounds, List.getElem_set]
  by_cases e : j = i
  · subst e
    have hc : j < cs.size := by omega
    simp [hc]
  · rw [if_neg e, if_neg e]
    exact h4 i hi
theorem BK.new (w : World) (s : ByteArray) : BK (Lib.bytesWorld w 5 s) w.heap.size (lst s) := by
  refine ⟨_, _, Lib.bytesWorld_at_new w 5 s, ?_, Nat.le_refl _, fun j hj => ?_⟩
  · rw [lst_len]
    simp [Lib.bytesCells]
  · have h1 := Lib.bytesWorld_cell w 5 s j (by rw [← lst_len]; exact hj)
    rw [Joins.cell_of_block (Lib.bytesWorld_at_new w 5 s)] at h1
    rw [h1]
    have e : s.data.toList.getD j 0 = (lst s)[j] := by simp [List.getD, List.getElem?_eq_getElem hj]
    rw [e]
theorem bytesWorld_below (w : World) (s : ByteArray) : Below w.heap.size w (Lib.bytesWorld w 5 s) := by
  refine ⟨?_, ?_, ?_, by rw [Lib.bytesWorld_size]; omega, fun k hk => Lib.bytesWorld_at_old w 5 s k hk⟩ <;>
  · unfold Lib.bytesWorld World.freeze
    split <;> rfl
theorem BK.back {w : World} {g n cap : Nat} {l : List UInt8} (h : BK w g l) (hn : l.length = n) : (convert 34 9 (.slice (some ⟨g, 0, none⟩) n cap)).run Tryd.prog w = .ok (.string ⟨l.toArray⟩) w := by
  subst hn
  exact run_convert_bytes_back w 34 9 5 ⟨g, 0, none⟩ cap l Tryd.underlying34 Tryd.underlying5 Tryd.underlying9 (fun j hj => by rw [add_plain, Nat.zero_add]; exact h.cell j hj)
set_option maxRecDepth 100000 in
set_option maxHeartbeats 1000000 in
theorem rupper_any (s : ByteArray) (w : World) (hs : s.size ≤ 100000) : Calls Tryd.prog 32 #[.string s] w fun e w' => e = .returned (.string ⟨((lst s).map upB).toArray⟩) ∧ Below w.heap.size w w' := by
  have HL := Lib.hid (lst_len s)
  have hr := Lib.run_convert_string_bytes (P := Tryd.prog) w 9 34 5 s Tryd.underlying9 Tryd.underlying34 Tryd.underlying5
  have HK0 := Lib.hid (BK.new w s)
  have HB0 := Lib.hid (bytesWorld_below w s)
  generalize Lib.bytesWorld w 5 s = W1 at *
  generalize grownCap w s.size 0 5 = cap at *
  go_enter Tryd.func32, Tryd.ntmps32
  go_wp2
  clear hr
  go_loopw [4] (fun s4 wr => ∃ k : Nat, s4 = .int .i64 (k : Int) ∧ k ≤ s.size ∧ BK wr w.heap.size (((lst s).take k).map upB ++ (lst s).drop k) ∧ Below w.heap.size w wr) (fun s4 _ => s.size - (intOf s4).toNat)
  case atStart => exact ⟨0, rfl, Nat.zero_le _, by simpa using HK0.out, HB0.out⟩
  case round =>
    clear HK0 HB0
    obtain ⟨k, rfl, hkn, hK, hB⟩ := hrel
    have HK := Lib.hid hK
    have HB := Lib.hid hB
    clear hK hB
    have HLK := Lib.hid (show (((lst s).take k).map upB ++ (lst s).drop k).length = s.size by
      rw [List.length_append, List.length_map, List.length_take, List.length_drop, HL.out]; omega)
    by_cases hlt : k < s.size
    · have hki : (k : Int) < s.size := by omega
      have hk0 : (0 : Int) ≤ (k : Int) := by omega
      have hkl : k < (lst s).length := by rw [HL.out]; exact hlt
      have cc := HK.out.cellq (half_get upB (lst s) k hkl)
      have HSET := Lib.hid (show (((lst s).take k).map upB ++ (lst s).drop k).set k (upB (lst s)[k]) = ((lst s).take (k + 1)).map upB ++ (lst s).drop (k + 1) by
        rw [half_set upB (lst s) k hkl, half_next upB (lst s) k hkl])
      have HSAME := Lib.hid (show (((lst s).take k).map upB ++ (lst s).drop k).set k (lst s)[k] = ((lst s).take k).map upB ++ (lst s).drop k by
        rw [half_set upB (lst s) k hkl, ← List.drop_eq_getElem_cons hkl])
      generalize (lst s)[k] = c at *
      have hcb := c.toNat_lt
      by_cases h1 : 97 ≤ c.toNat
      · by_cases h2 : c.toNat ≤ 122
        · have d1 : decide ((97 : Int) ≤ (c.toNat : Int)) = true := decide_eq_true (by omega)
          have d2 : decide ((c.toNat : Int) ≤ 122) = true := decide_eq_true (by omega)
          have HQ : Hid ((upB c) = c - 32) := Lib.hid (by unfold upB; rw [if_pos (by omega)])
          have HV : Hid (((upB c).toNat : Int) = (c.toNat : Int) - 32) := Lib.hid (by
            rw [HQ.out, UInt8.toNat_sub_of_le _ _ (by rw [UInt8.le_iff_toNat_le]; show 32 ≤ c.toNat; omega)]
            show (((c.toNat - 32 : Nat)) : Int) = _
            omega)
          have hw : IntKind.u8.wrap ((c.toNat : Int) - 32) = (c.toNat : Int) - 32 := by simp [IntKind.wrap, IntKind.bits, IntKind.signed]; omega
          have fz := HK.out.free k (by rw [HLK.out]; exact hlt)
          have HS := Lib.hid (HK.out.set k (upB c))
          rw [HSET.out, HV.out] at HS
          have HBS := Lib.hid (HB.out.setCell (p := ⟨w.heap.size, k, none⟩) (Nat.le_refl _) (.int .u8 ((c.toNat : Int) - 32)))
          go_wp2
          go_roundw
          case rel => exact ⟨k + 1, by go_num, hlt, HS.out, HBS.out⟩
          case measure => simp only [intOf]; omega
        · have d1 : decide ((97 : Int) ≤ (c.toNat : Int)) = true := decide_eq_true (by omega)
          have d2 : decide ((c.toNat : Int) ≤ 122) = false := decide_eq_false (by omega)
          have HQ : Hid ((upB c) = c) := Lib.hid (by unfold upB; rw [if_neg (by omega)])
          have HS := Lib.hid (show BK wr w.heap.size (((lst s).take (k + 1)).map upB ++ (lst s).drop (k + 1)) by
            rw [← HSET.out, HQ.out, HSAME.out]
            exact HK.out)
          go_wp2
          go_roundw
          case rel => exact ⟨k + 1, by go_num, hlt, HS.out, HB.out⟩
          case measure => simp only [intOf]; omega
      · have d1 : decide ((97 : Int) ≤ (c.toNat : Int)) = false := decide_eq_false (by omega)
        have HQ : Hid ((upB c) = c) := Lib.hid (by unfold upB; rw [if_neg (by omega)])
        have HS := Lib.hid (show BK wr w.heap.size (((lst s).take (k + 1)).map upB ++ (lst s).drop (k + 1)) by
          rw [← HSET.out, HQ.out, HSAME.out]
          exact HK.out)
        go_wp2
        go_roundw
        case rel => exact ⟨k + 1, by go_num, hlt, HS.out, HB.out⟩
        case measure => simp only [intOf]; omega
    · obtain rfl : k = s.size := by omega
      have hlt2 : ¬ ((s.size : Int) < (s.size : Int)) := by omega
      rw [List.take_of_length_le (by rw [HL.out]; exact Nat.le_refl _), List.drop_eq_nil_of_le (by rw [HL.out]; exact Nat.le_refl _), List.append_nil] at HK
      have hb := HK.out.back (cap := cap) (show ((lst s).map upB).length = s.size by rw [List.length_map, HL.out])
      go_wp2
      go_ret
      exact ⟨rfl, HB.out⟩
set_option maxRecDepth 100000 in
set_option maxHeartbeats 1000000 in
theorem rlower_any (s : ByteArray) (w : World) (hs : s.size ≤ 100000) : Calls Tryd.prog 46 #[.string s] w fun e w' => e = .returned (.string ⟨((lst s).map loB).toArray⟩) ∧ Below w.heap.size w w' := by
  have HL := Lib.hid (lst_len s)
  have hr := Lib.run_convert_string_bytes (P := Tryd.prog) w 9 34 5 s Tryd.underlying9 Tryd.underlying34 Tryd.underlying5
  have HK0 := Lib.hid (BK.new w s)
  have HB0 := Lib.hid (bytesWorld_below w s)
  generalize Lib.bytesWorld w 5 s = W1 at *
  generalize grownCap w s.size 0 5 = cap at *
  go_enter Tryd.func46, Tryd.ntmps46
  go_wp2
  clear hr
  go_loopw [4] (fun s4 wr => ∃ k : Nat, s4 = .int .i64 (k : Int) ∧ k ≤ s.size ∧ BK wr w.heap.size (((lst s).take k).map loB ++ (lst s).drop k) ∧ Below w.heap.size w wr) (fun s4 _ => s.size - (intOf s4).toNat)
  case atStart => exact ⟨0, rfl, Nat.zero_le _, by simpa using HK0.out, HB0.out⟩
  case round =>
    clear HK0 HB0
    obtain ⟨k, rfl, hkn, hK, hB⟩ := hrel
    have HK := Lib.hid hK
    have HB := Lib.hid hB
    clear hK hB
    have HLK := Lib.hid (show (((lst s).take k).map loB ++ (lst s).drop k).length = s.size by
      rw [List.length_append, List.length_map, List.length_take, List.length_drop, HL.out]; omega)
    by_cases hlt : k < s.size
    · have hki : (k : Int) < s.size := by omega
      have hk0 : (0 : Int) ≤ (k : Int) := by omega
      have hkl : k < (lst s).length := by rw [HL.out]; exact hlt
      have cc := HK.out.cellq (half_get loB (lst s) k hkl)
      have HSET := Lib.hid (show (((lst s).take k).map loB ++ (lst s).drop k).set k (loB (lst s)[k]) = ((lst s).take (k + 1)).map loB ++ (lst s).drop (k + 1) by
        rw [half_set loB (lst s) k hkl, half_next loB (lst s) k hkl])
      have HSAME := Lib.hid (show (((lst s).take k).map loB ++ (lst s).drop k).set k (lst s)[k] = ((lst s).take k).map loB ++ (lst s).drop k by
        rw [half_set loB (lst s) k hkl, ← List.drop_eq_getElem_cons hkl])
      generalize (lst s)[k] = c at *
      have hcb := c.toNat_lt
      by_cases h1 : 65 ≤ c.toNat
      · by_cases h2 : c.toNat ≤ 90
        · have d1 : decide ((65 : Int) ≤ (c.toNat : Int)) = true := decide_eq_true (by omega)
          have d2 : decide ((c.toNat : Int) ≤ 90) = true := decide_eq_true (by omega)
          have HQ : Hid ((loB c) = c + 32) := Lib.hid (by unfold loB; rw [if_pos (by omega)])
          have HV : Hid (((loB c).toNat : Int) = (c.toNat : Int) + 32) := Lib.hid (by
            rw [HQ.out, UInt8.toNat_add]
            show ((((c.toNat + 32) % 256 : Nat)) : Int) = _
            omega)
          have hw : IntKind.u8.wrap ((c.toNat : Int) + 32) = (c.toNat : Int) + 32 := by simp [IntKind.wrap, IntKind.bits, IntKind.signed]; omega
          have fz := HK.out.free k (by rw [HLK.out]; exact hlt)
          have HS := Lib.hid (HK.out.set k (loB c))
          rw [HSET.out, HV.out] at HS
          have HBS := Lib.hid (HB.out.setCell (p := ⟨w.heap.size, k, none⟩) (Nat.le_refl _) (.int .u8 ((c.toNat : Int) + 32)))
          go_wp2
          go_roundw
          case rel => exact ⟨k + 1, by go_num, hlt, HS.out, HBS.out⟩
          case measure => simp only [intOf]; omega
        · have d1 : decide ((65 : Int) ≤ (c.toNat : Int)) = true := decide_eq_true (by omega)
          have d2 : decide ((c.toNat : Int) ≤ 90) = false := decide_eq_false (by omega)
          have HQ : Hid ((loB c) = c) := Lib.hid (by unfold loB; rw [if_neg (by omega)])
          have HS := Lib.hid (show BK wr w.heap.size (((lst s).take (k + 1)).map loB ++ (lst s).drop (k + 1)) by
            rw [← HSET.out, HQ.out, HSAME.out]
            exact HK.out)
          go_wp2
          go_roundw
          case rel => exact ⟨k + 1, by go_num, hlt, HS.out, HB.out⟩
          case measure => simp only [intOf]; omega
      · have d1 : decide ((65 : Int) ≤ (c.toNat : Int)) = false := decide_eq_false (by omega)
        have HQ : Hid ((loB c) = c) := Lib.hid (by unfold loB; rw [if_neg (by omega)])
        have HS := Lib.hid (show BK wr w.heap.size (((lst s).take (k + 1)).map loB ++ (lst s).drop (k + 1)) by
          rw [← HSET.out, HQ.out, HSAME.out]
          exact HK.out)
        go_wp2
        go_roundw
        case rel => exact ⟨k + 1, by go_num, hlt, HS.out, HB.out⟩
        case measure => simp only [intOf]; omega
    · obtain rfl : k = s.size := by omega
      have hlt2 : ¬ ((s.size : Int) < (s.size : Int)) := by omega
      rw [List.take_of_length_le (by rw [HL.out]; exact Nat.le_refl _), List.drop_eq_nil_of_le (by rw [HL.out]; exact Nat.le_refl _), List.append_nil] at HK
      have hb := HK.out.back (cap := cap) (show ((lst s).map loB).length = s.size by rw [List.length_map, HL.out])
      go_wp2
      go_ret
      exact ⟨rfl, HB.out⟩
end Go.Proofs.YtdkkflmhpncglaaDoor
