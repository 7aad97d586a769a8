/- What is decoded is valid, and encodes to the same bytes. -/
import Derived.Test.YtdfkcibmmabjcaaRdc
namespace Go.Proofs.Ytdfkcibmmabjcaa
open Go.ChangeShapes Go.WideShapes Go.ChangeAt Go.RowKit Go.ChangeMaps

theorem decD_sound (l : List UInt8) (h : 0 < (decD l).2) : (decD l).1.valid = true ∧ (decD l).1.ok ∧ (decD l).1.enc = l.take (decD l).2 := by
  rcases l with _ | ⟨c, t⟩
  · simp [decD] at h
  · rw [decD_cons] at h ⊢
    by_cases h1 : c = 1
    · rw [if_pos h1] at h ⊢
      subst h1
      exact ⟨by decide, ⟨by decide, by decide, by decide, by decide, by decide⟩, rfl⟩
    · rw [if_neg h1] at h ⊢
      by_cases h2 : c = 2
      · rw [if_pos h2] at h ⊢
        by_cases h9 : 9 ≤ (c :: t).length
        · rw [if_pos h9] at h ⊢
          subst h2
          have hl : (t.take 8).length = 8 := by rw [List.length_take]; simp at h9; omega
          obtain ⟨v0, v1⟩ := val8_all _ hl
          refine ⟨rfl, ⟨by simp only; omega, by simp only; omega, by simp only; omega, by simp only; omega, Nat.zero_le _⟩, ?_⟩
          show encV 1 (val8 (t.take 8) - 9223372036854775808) [] = _
          unfold encV
          rw [if_pos rfl, show val8 (t.take 8) - 9223372036854775808 + 9223372036854775808 = val8 (t.take 8) by omega, num8_val8 _ hl]
          rfl
        · rw [if_neg h9] at h
          exact absurd h (Nat.lt_irrefl _)
      · rw [if_neg h2] at h ⊢
        by_cases h3 : c = 3
        · rw [if_pos h3] at h ⊢
          subst h3
          by_cases hz : 0 < Lib.indexByte (3 :: t) 0
          · rw [if_pos hz] at h ⊢
            obtain ⟨j, hj⟩ : ∃ j : Nat, Lib.indexByte (3 :: t) 0 = ((j + 1 : Nat) : Int) := ⟨(Lib.indexByte (3 :: t) 0 - 1).toNat, by omega⟩
            obtain ⟨q1, q2⟩ := index_split _ _ hj
            rw [hj] at h ⊢
            simp only [Int.toNat_natCast, Nat.add_sub_cancel] at h ⊢
            by_cases hv : j ≤ 16 ∧ prB (t.take j) = true
            · rw [if_pos hv]
              simp only [List.length_cons] at q1
              rw [List.getElem?_cons_succ] at q2
              have hjt : j < t.length := by omega
              have hj0 : t[j] = 0 := by rw [List.getElem?_eq_getElem hjt] at q2; injection q2
              have hs : (⟨(t.take j).toArray⟩ : ByteArray).size = j := by rw [size_of_list, List.length_take]; omega
              refine ⟨?_, ⟨by simp, by simp, by simp, by simp, by show (⟨(t.take j).toArray⟩ : ByteArray).size ≤ _; omega⟩, ?_⟩
              · unfold V3.valid
                simp [hs, hv.1, hv.2]
              · show encV 2 0 (t.take j) = _
                unfold encV
                rw [if_neg (by decide), if_pos rfl, escs_pr _ hv.2, show j + 1 + 1 = (j + 1) + 1 from rfl, List.take_succ_cons, List.take_succ_eq_append_getElem hjt, hj0]
                rfl
            · rw [if_neg hv] at h
              exact absurd h (Nat.lt_irrefl _)
          · rw [if_neg hz] at h
            exact absurd h (Nat.lt_irrefl _)
        · rw [if_neg h3] at h
          exact absurd h (Nat.lt_irrefl _)
theorem decA_sound : ∀ (n : Nat) (l : List UInt8) (R : List V3), l.length ≤ n → decA l = some R → encR R = l ∧ (∀ x ∈ R, x.ok) ∧ R.all V3.valid = true
  | n, [], R, _, h => by
    rw [decA_nil] at h
    injection h with h
    subst h
    exact ⟨rfl, fun x hx => (by cases hx), rfl⟩
  | 0, x :: l, R, hl, _ => by simp at hl
  | n + 1, x :: l, R, hl, h => by
    rcases Nat.eq_zero_or_pos (decD (x :: l)).2 with h0 | h0
    · rw [decA_bad _ (by simp) h0] at h; cases h
    · obtain ⟨s1, s2, s3⟩ := decD_sound _ h0
      rw [decA_go _ (by simp) (Nat.ne_of_gt h0)] at h
      rcases hd : decA ((x :: l).drop (decD (x :: l)).2) with _ | S
      · rw [hd] at h; cases h
      · rw [hd] at h
        injection h with h
        subst h
        obtain ⟨i1, i2, i3⟩ := decA_sound n _ S (by rw [List.length_drop]; simp only [List.length_cons] at hl ⊢; omega) hd
        refine ⟨?_, fun y hy => ?_, by rw [List.all_cons, s1, i3]; rfl⟩
        · show (decD (x :: l)).1.enc ++ encR S = _
          rw [i1, s3, List.take_append_drop]
        · rcases List.mem_cons.1 hy with rfl | hy
          · exact s2
          · exact i2 y hy
theorem enc_ge (x : V3) (h : x.valid = true) : x.s.size + 1 ≤ x.enc.length := by
  have hl : x.s.data.toList.length = x.s.size := by simp
  rcases valid_cases x h with ⟨_, _, a, e⟩ | ⟨_, a, e⟩ | ⟨_, _, _, _, e⟩ <;> rw [e]
  · rw [a, List.length_nil] at hl
    show _ ≤ 1
    omega
  · rw [a, List.length_nil] at hl
    rw [List.length_append, num8_len, List.length_singleton]
    omega
  · simp
theorem sum_le : ∀ R : List V3, R.all V3.valid = true → (R.map fun x => x.s.size + 1).sum ≤ (encR R).length
  | [], _ => Nat.le_refl _
  | x :: R, h => by
    rw [List.all_cons, Bool.and_eq_true] at h
    have := enc_ge x h.1
    have ih := sum_le R h.2
    rw [encR_cons, List.length_append, List.map_cons, List.sum_cons]
    omega
theorem string_at {W : World} {A : Option Addr} {n c : Nat} {l : List UInt8} (h : BytesAt W A n l) : (convert 28 9 (.slice A n c)).run Try.prog W = .ok (.string ⟨l.toArray⟩) W := by
  rcases Nat.eq_zero_or_pos n with h0 | h0
  · subst h0
    obtain rfl : l = [] := List.eq_nil_of_length_eq_zero h.1
    rcases A with _ | a
    · rw [run_convert_bytes_string W 28 9 5 none 0 c Try.underlying28 Try.underlying5 Try.underlying9]; rfl
    · exact run_convert_bytes_back W 28 9 5 a c [] Try.underlying28 Try.underlying5 Try.underlying9 (fun j hj => absurd hj (by simp))
  · obtain ⟨b, off, rfl, _, hc⟩ := h.2 h0
    have hl := h.1
    subst hl
    exact run_convert_bytes_back W 28 9 5 ⟨b, off, none⟩ c l Try.underlying28 Try.underlying5 Try.underlying9 (fun j hj => by rw [add_plain]; exact hc j hj)
theorem Try.cells5 : Try.prog.cellsOf 5 = 1 := by kernel_rfl
theorem u8_bd {n : Int} (h : (Lit.int .u8 n).wf = true) : 0 ≤ n ∧ n ≤ 255 := by
  have h1 : IntKind.u8.min = 0 := rfl
  have h2 : IntKind.u8.max = 255 := rfl
  simp only [Lit.wf, Bool.and_eq_true, decide_eq_true_eq, h1, h2] at h
  exact h
theorem open_bytesA {H : Type} {enc : TypeId × Value → H} {W : World} {r : Reach} {b0 : Nat} {v : Value} {d : DataW H} {p : List MemPlace}
    (hv : Value.okWide Try.prog W r b0 28 v) (h : DataW.Trod enc Try.prog W 0 (fun _ => true) true 28 v d p) (hlt : ∀ x ∈ p, x.block < W.heap.size) :
    ∃ (A : Option Addr) (n c : Nat) (l : List UInt8), v = .slice A n c ∧ BytesAt W A n l ∧ n ≤ c ∧ c ≤ 9223372036854775807 := by
  obtain ⟨a0, len, cap, rfl⟩ := okWide_slice Try.underlying28 hv
  obtain ⟨fuel, hf⟩ := h
  rcases open_ints Try.underlying28 Try.underlying5 Try.cells5 hf with ⟨hcs, hx⟩ | ⟨a, len', cap', zs, hcs, _, hl, hm, hz, hx, hcell, hwz⟩
  · simp [Value.cells] at hcs
    obtain ⟨rfl, rfl, rfl⟩ := hcs
    exact ⟨_, _, _, [], rfl, ⟨rfl, fun h => absurd h (by omega)⟩, by omega, by omega⟩
  · simp [Value.cells] at hcs
    obtain ⟨rfl, rfl, rfl⟩ := hcs
    simp only [if_true] at hz
    simp only [Prod.mk.injEq] at hx
    obtain ⟨rfl, rfl⟩ := hx
    unfold maxLen at hm
    refine ⟨_, _, _, (zs.take len).map u8, rfl, ⟨by rw [List.length_map, List.length_take]; omega, fun hn => ?_⟩, hl, by omega⟩
    obtain ⟨b, off, spot⟩ := a
    have hspot : spot = none := by simpa [Addr.add] using World.cell?_spot (hcell 0 (by omega))
    subst hspot
    refine ⟨b, off, rfl, hlt (.cell b off) (MemPlace.mem_row.2 ⟨0, by omega, by simp⟩), fun i hi => ?_⟩
    have hi2 : i < zs.length := by rw [List.length_map, List.length_take] at hi; omega
    have := hcell i hi2
    rw [add_plain] at this
    rw [this]
    obtain ⟨g0, g1⟩ := u8_bd (hwz zs[i] (List.getElem_mem _))
    simp only [List.getElem_map, List.getElem_take, u8_toNat _ g0 (by omega)]
    simp [List.getD, List.getElem?_eq_getElem hi2]
end Go.Proofs.Ytdfkcibmmabjcaa
