/- Versions on a fresh disk: the plain mathematics of the laws. -/
import Derived.Test.YthhpilkhcomhbaaDoorVop
namespace Go.Proofs.YthhpilkhcomhbaaDoor
open Go.ChangeShapes Go.WideShapes Go.ChangeAt Go.RowKit Go.ChangeMaps

def okV (S E n : Nat) : Prop := 7 ≤ S ∧ S ≤ 60 ∧ n ≤ 64 * areaOf S ∧ n ≤ 600 ∧ E ≠ 0
theorem new_len (S : Nat) : (St.new S).R.length = S := by simp [St.new]
theorem ver_facts {S E n : Nat} {l : List UInt8} (h : okV S E n) (hl : l.length = n) (he : E < 4294967296) : ∃ r, SW (St.new S) E l = r ∧ r.2 = 0 ∧ r.1.f = false ∧ Has r.1 E l ∧ r.1.x = nch n + 2 ∧ r.1.R.length = S ∧ (∀ x ∈ r.1.R, x.length = 64) ∧ r.1.a = 0 ∧ r.1.b ≤ 64 ∧ slotOf r.1 = 1 := by
  obtain ⟨h1, h2, h3, h4, h5⟩ := h
  have hn := new_len S
  have hh := has_write (s := St.new S) (k := 0) (e := E) (d0 := []) (d := l) (has_new S h1 []) rfl (St.new_ok (by omega)).1 (by simp [St.new]) (by omega) he (by rw [hn]; omega) (by omega)
  obtain ⟨a1, a2, a3, a4, a5 | a5⟩ := hh
  · refine ⟨_, rfl, a5.1, a5.2.1, a5.2.2.1, by rw [a5.2.2.2.1, hl]; simp [St.new], by rw [a1, hn], a2, a5.2.2.2.2.1 rfl, by rw [a3]; simp [St.new], ?_⟩
    rw [a5.2.2.2.2.2]
    have : slotOf (St.new S) = 0 := by
      unfold slotOf
      have h0 : (St.new S).R.getD 0 [] = List.replicate 64 0 := by
        show (List.replicate S zeros).getD 0 [] = _
        rw [List.getD_eq_getElem?_getD, List.getElem?_replicate, if_pos (by omega)]; rfl
      rw [h0]; rfl
    rw [this]
  · exact absurd rfl a5.2.2.1
theorem read_of {s : St} {k : Nat} {d : List UInt8} (h : Has s k d) (hf : s.f = false) (hk : k ≠ 0) : SR s = (d, k, 0) := by
  rw [has_read h hf, if_neg hk]
theorem nch_int (n : Nat) (h : n ≤ 1000000) : ((n : Int) + 63).tdiv 64 = (nch n : Int) := by
  rw [Int.tdiv_eq_ediv_of_nonneg (by omega)]; unfold nch; omega
theorem Writes_any (w : World) (p q : Nat) (s : St) (h : Dk w p q s) : Calls Tryd.prog 28 #[.pointer (some ⟨p, 0, none⟩)] w fun e w' => e = .returned (.int .i64 (s.x : Int)) ∧ w = w' := by
  have c4 : w.cell? ⟨p, 4, none⟩ = some (.int .i64 (s.x : Int)) := h.1.cell 4
  go_enter Tryd.func28, Tryd.ntmps28
  go_wp2
  go_ret
  exact ⟨rfl, rfl⟩
end Go.Proofs.YthhpilkhcomhbaaDoor
