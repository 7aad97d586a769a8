/- The lexer's model: white space, comments, positions. -/
import Derived.Test.YtdkkflmhpncglaaDoorLxc
import Derived.Test.YtdkkflmhpncglaaDoorShelf
namespace Go.Proofs.YtdkkflmhpncglaaDoor
open Go.ChangeShapes Go.WideShapes Go.ChangeAt Go.RowKit Go.ChangeMaps

abbrev lst (s : ByteArray) : List UInt8 := s.data.toList
theorem lst_len (s : ByteArray) : (lst s).length = s.size := by simp [lst]
theorem lst_get (s : ByteArray) (k : Nat) (h : k < s.size) (h2 : k < (lst s).length) : (lst s)[k] = s[k] := by simp [lst]; rfl
theorem ext_list (s : ByteArray) (i j : Nat) : (s.extract i j).data.toList = (s.data.toList.drop i).take (j - i) := by
  rw [ByteArray.data_extract, Array.toList_extract, List.extract_eq_take_drop]
theorem lst_extract (s : ByteArray) (a b : Nat) : lst (s.extract a b) = ((lst s).drop a).take (b - a) := ext_list s a b
theorem lst_from (s : ByteArray) (a : Nat) : lst (s.extract a s.size) = (lst s).drop a := by
  rw [lst_extract, List.take_of_length_le (by rw [List.length_drop, lst_len]; exact Nat.le_refl _)]
def skipL : Bool → List UInt8 → List UInt8
  | _, [] => []
  | true, c :: r => if c = 10 then skipL false r else skipL true r
  | false, c :: r => if spcN c.toNat then skipL false r else if c = 45 ∧ r.head? = some 45 then skipL true r else c :: r
theorem skip_suf : ∀ (l : List UInt8) (b : Bool), ∃ n, n ≤ l.length ∧ skipL b l = l.drop n
  | [], b => ⟨0, Nat.le_refl _, by cases b <;> rfl⟩
  | c :: r, b => by
    cases b
    · unfold skipL
      split
      · obtain ⟨n, h1, h2⟩ := skip_suf r false
        exact ⟨n + 1, by simpa using h1, by rw [h2]; rfl⟩
      · split
        · obtain ⟨n, h1, h2⟩ := skip_suf r true
          exact ⟨n + 1, by simpa using h1, by rw [h2]; rfl⟩
        · exact ⟨0, Nat.zero_le _, rfl⟩
    · unfold skipL
      split
      · obtain ⟨n, h1, h2⟩ := skip_suf r false
        exact ⟨n + 1, by simpa using h1, by rw [h2]; rfl⟩
      · obtain ⟨n, h1, h2⟩ := skip_suf r true
        exact ⟨n + 1, by simpa using h1, by rw [h2]; rfl⟩
/-- The position behind white space and comments. -/
def skQ (b : Bool) (l : List UInt8) (k : Nat) : Nat := l.length - (skipL b (l.drop k)).length
def skP (l : List UInt8) (k : Nat) : Nat := skQ false l k
theorem skQ_spec (b : Bool) (l : List UInt8) (k : Nat) (hk : k ≤ l.length) : k ≤ skQ b l k ∧ skQ b l k ≤ l.length ∧ l.drop (skQ b l k) = skipL b (l.drop k) := by
  obtain ⟨n, h1, h2⟩ := skip_suf (l.drop k) b
  rw [List.length_drop] at h1
  have e : skQ b l k = k + n := by
    unfold skQ
    rw [h2, List.drop_drop, List.length_drop]
    omega
  rw [e]
  exact ⟨by omega, by omega, by rw [h2, List.drop_drop]⟩
theorem skQ_end (b : Bool) (l : List UInt8) (k : Nat) (hk : l.length ≤ k) : skQ b l k = l.length := by
  unfold skQ
  rw [List.drop_eq_nil_of_le hk]
  cases b <;> simp [skipL]
theorem skP_space (l : List UInt8) (k : Nat) (hk : k < l.length) (h : spcN l[k].toNat = true) : skP l k = skP l (k + 1) := by
  unfold skP skQ
  rw [List.drop_eq_getElem_cons hk]
  rw [show skipL false (l[k] :: l.drop (k + 1)) = skipL false (l.drop (k + 1)) by conv => lhs; unfold skipL; rw [if_pos h]]
theorem skP_stop (l : List UInt8) (k : Nat) (hk : k < l.length) (h : spcN l[k].toNat = false) (h2 : ¬ (l[k] = 45 ∧ (l.drop (k + 1)).head? = some 45)) : skP l k = k := by
  unfold skP skQ
  rw [List.drop_eq_getElem_cons hk]
  rw [show skipL false (l[k] :: l.drop (k + 1)) = l[k] :: l.drop (k + 1) by conv => lhs; unfold skipL; rw [if_neg (by rw [h]; decide), if_neg h2]]
  rw [← List.drop_eq_getElem_cons hk, List.length_drop]
  omega
theorem spc45 : spcN (45 : UInt8).toNat = false := by decide
theorem skP_comment (l : List UInt8) (k : Nat) (hk : k < l.length) (h : l[k] = 45) (h2 : (l.drop (k + 1)).head? = some 45) : skP l k = skQ true l k := by
  unfold skP skQ
  rw [List.drop_eq_getElem_cons hk, h]
  rw [show skipL false (45 :: l.drop (k + 1)) = skipL true (l.drop (k + 1)) by conv => lhs; unfold skipL; rw [if_neg (by rw [spc45]; decide), if_pos ⟨rfl, h2⟩]]
  rw [show skipL true (45 :: l.drop (k + 1)) = skipL true (l.drop (k + 1)) by conv => lhs; unfold skipL; rw [if_neg (by decide)]]
theorem skQ_step (l : List UInt8) (k : Nat) (hk : k < l.length) (h : l[k] ≠ 10) : skQ true l k = skQ true l (k + 1) := by
  unfold skQ
  rw [List.drop_eq_getElem_cons hk]
  rw [show skipL true (l[k] :: l.drop (k + 1)) = skipL true (l.drop (k + 1)) by conv => lhs; unfold skipL; rw [if_neg h]]
theorem spc10 : spcN (10 : UInt8).toNat = true := by decide
theorem skQ_line (l : List UInt8) (k : Nat) (hk : k < l.length) (h : l[k] = 10) : skQ true l k = skP l k := by
  rw [skP_space l k hk (by rw [h]; decide)]
  unfold skP skQ
  rw [List.drop_eq_getElem_cons hk, h]
  rw [show skipL true (10 :: l.drop (k + 1)) = skipL false (l.drop (k + 1)) by conv => lhs; unfold skipL; rw [if_pos rfl]]
theorem idx_line (l : List UInt8) : ∀ (k : Nat), k ≤ l.length → (Lib.indexByte (l.drop k) 10 = -1 → skQ true l k = l.length) ∧ (∀ n : Nat, Lib.indexByte (l.drop k) 10 = n → k + n < l.length ∧ skQ true l k = skP l (k + n)) := by
  intro k hk
  induction hd : l.length - k generalizing k with
  | zero =>
    have : l.length ≤ k := by omega
    rw [List.drop_eq_nil_of_le this]
    exact ⟨fun _ => skQ_end _ _ _ this, fun n h => by unfold Lib.indexByte at h; omega⟩
  | succ m ih =>
    have hlt : k < l.length := by omega
    obtain ⟨i1, i2⟩ := ih (k + 1) (by omega) (by omega)
    have hge := Lib.indexByte_ge (l.drop (k + 1)) 10
    rw [List.drop_eq_getElem_cons hlt]
    unfold Lib.indexByte
    by_cases h : l[k] = 10
    · rw [if_pos (by simpa using h)]
      exact ⟨fun h => by omega, fun n hn => by
        obtain rfl : n = 0 := by omega
        exact ⟨by omega, by rw [skQ_line l k hlt h, Nat.add_zero]⟩⟩
    · rw [if_neg (by simpa using h)]
      by_cases h1 : Lib.indexByte (l.drop (k + 1)) 10 = -1
      · rw [if_pos (by simpa using h1)]
        exact ⟨fun _ => by rw [skQ_step l k hlt h]; exact i1 h1, fun n hn => by omega⟩
      · rw [if_neg (by simpa using h1)]
        refine ⟨fun h => by omega, fun n hn => ?_⟩
        obtain ⟨p, rfl⟩ : ∃ p, n = p + 1 := ⟨n - 1, by omega⟩
        obtain ⟨j1, j2⟩ := i2 p (by omega)
        exact ⟨by omega, by rw [skQ_step l k hlt h, j2]; congr 1; omega⟩
theorem pre_two (l : List UInt8) (k : Nat) (hk : k < l.length) : Lib.hasPrefix (l.drop k) [45, 45] = true ↔ (l[k] = 45 ∧ (l.drop (k + 1)).head? = some 45) := by
  unfold Lib.hasPrefix
  rw [List.drop_eq_getElem_cons hk]
  rcases hd : l.drop (k + 1) with _ | ⟨d, r⟩
  · simp
  · simp [List.isPrefixOf]
    exact ⟨fun ⟨a, b⟩ => ⟨a.symm, b.symm⟩, fun ⟨a, b⟩ => ⟨a.symm, b.symm⟩⟩
end Go.Proofs.YtdkkflmhpncglaaDoor
