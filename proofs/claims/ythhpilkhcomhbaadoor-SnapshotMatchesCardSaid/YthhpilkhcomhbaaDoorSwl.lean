/- Writing a version: the steps of the model. -/
import Derived.Test.YthhpilkhcomhbaaDoorSmx
namespace Go.Proofs.YthhpilkhcomhbaaDoor
open Go.ChangeShapes Go.WideShapes Go.ChangeAt Go.RowKit Go.ChangeMaps

theorem wall_more : ∀ (n m : Nat) (s : St) (i : Nat) (d : List UInt8), d.length ≤ n → d.length ≤ m → wall n s i d = wall m s i d
  | 0, m, s, i, d, hn, _ => by
    obtain rfl : d = [] := List.eq_nil_of_length_eq_zero (by omega)
    cases m <;> simp [wall]
  | n + 1, 0, s, i, d, _, hm => by
    obtain rfl : d = [] := List.eq_nil_of_length_eq_zero (by omega)
    simp [wall]
  | n + 1, m + 1, s, i, d, hn, hm => by
    unfold wall
    by_cases hd : d = []
    · rw [if_pos hd, if_pos hd]
    · rw [if_neg hd, if_neg hd]
      have hl : 0 < d.length := List.length_pos_iff.2 hd
      rw [wall_more n m _ _ (d.drop 64) (by rw [List.length_drop]; omega) (by rw [List.length_drop]; omega)]
theorem wall_nil (n : Nat) (s : St) (i : Nat) : wall n s i [] = (s, 0) := by cases n <;> simp [wall]
theorem wall_ok {n : Nat} {s : St} {i : Nat} {d : List UInt8} (hn : d.length ≤ n) (hd : d ≠ []) (h : (s.Wr (i : Int) (padS (d.take 64))).2 = 0) : wall n s i d = wall n (s.Wr (i : Int) (padS (d.take 64))).1 (i + 1) (d.drop 64) := by
  have hl : 0 < d.length := List.length_pos_iff.2 hd
  obtain ⟨m, rfl⟩ : ∃ m, n = m + 1 := ⟨n - 1, by omega⟩
  rw [show wall (m + 1) s i d = wall m (s.Wr (i : Int) (padS (d.take 64))).1 (i + 1) (d.drop 64) from by rw [wall, if_neg hd, if_pos h]]
  exact wall_more _ _ _ _ _ (by rw [List.length_drop]; omega) (by rw [List.length_drop]; omega)
theorem wall_bad {n : Nat} {s : St} {i : Nat} {d : List UInt8} (hn : d.length ≤ n) (hd : d ≠ []) (h : (s.Wr (i : Int) (padS (d.take 64))).2 ≠ 0) : wall n s i d = s.Wr (i : Int) (padS (d.take 64)) := by
  have hl : 0 < d.length := List.length_pos_iff.2 hd
  obtain ⟨m, rfl⟩ : ∃ m, n = m + 1 := ⟨n - 1, by omega⟩
  rw [wall, if_neg hd, if_neg h]
theorem St.Wr_x (s : St) (i : Int) (d : List UInt8) : (s.Wr i d).1.x ≤ s.x + 1 := by
  unfold St.Wr
  split
  · simp
  · split
    · unfold St.wr
      split <;> simp
    · simp
/-- The last two writes. -/
def fin2 (s : St) (e n c o : Nat) : St × Int :=
  if (s.Wr ((1 + o : Nat) : Int) (hdr e n c)).2 = 0 then (s.Wr ((1 + o : Nat) : Int) (hdr e n c)).1.Wr 0 (padS [UInt8.ofNat o]) else s.Wr ((1 + o : Nat) : Int) (hdr e n c)
theorem SW_go {s : St} {e o : Nat} {d : List UInt8} (hf : s.f = false) (hn : 7 ≤ s.R.length) (hs : slotOf s ≤ 1) (ho : 1 - slotOf s = o) (he : epochOf s < e) (hd : d.length ≤ 64 * areaOf s.R.length) :
    SW s e d = if (wall d.length s (3 + o * areaOf s.R.length) d).2 = 0 then fin2 (wall d.length s (3 + o * areaOf s.R.length) d).1 e d.length (crc 0 d) o else wall d.length s (3 + o * areaOf s.R.length) d := by
  unfold SW fin2
  rw [if_neg (by rw [hf]; decide), if_neg (by omega), if_neg (by omega), if_neg (by omega), if_neg (by omega), ho]
  rfl
end Go.Proofs.YthhpilkhcomhbaaDoor
