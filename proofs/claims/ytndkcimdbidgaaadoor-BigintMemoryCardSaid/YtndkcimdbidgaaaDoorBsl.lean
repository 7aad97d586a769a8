/- Small integers in a list. -/
import Derived.Test.YtndkcimdbidgaaaDoorBsm
import Derived.Deep.MidRow
namespace Go.Proofs.YtndkcimdbidgaaaDoor
open Go.ChangeShapes Go.WideShapes Go.ChangeAt Go.RowKit Go.ChangeMaps

def bigc (x : Bool × Option Addr × Nat × Nat) : List Value := [.bool x.1, .slice x.2.1 x.2.2.1 x.2.2.2]
def SmP (L : List (Bool × Option Addr × Nat × Nat)) (w : World) (e : Ending) (w' : World) : Prop := ∃ b, e = .returned (.bool b) ∧ (b = true → ∀ x ∈ L, x.2.2.1 ≤ 8) ∧ Below w.heap.size w w'
set_option maxRecDepth 100000 in
set_option maxHeartbeats 4000000 in
theorem small_any (L : List (Bool × Option Addr × Nat × Nat)) (g c : Nat) (w : World) (_hg : g < w.heap.size) (h : ∀ (j : Nat) v, (L.flatMap bigc)[j]? = some v → w.cell? ⟨g, j, none⟩ = some v) (hL : L.length ≤ 10) :
    Calls Tryd.prog 14 #[.slice (some ⟨g, 0, none⟩) L.length c] w fun e w' => SmP L w e w' := by
  obtain ⟨n, hn⟩ : ∃ n, L.length = n := ⟨_, rfl⟩
  rw [hn] at hL ⊢
  have HN := Lib.hid hn
  have HL := Lib.hid (fun (k : Nat) (hk : k < n) W (hW : Below w.heap.size w W) => show ∃ na A m d, L[k]? = some (na, A, m, d) ∧ W.cell? ⟨g, k * 2, none⟩ = some (.bool na) ∧ W.cell? ⟨g, k * 2 + 1, none⟩ = some (.slice A m d) from by
    rw [← hn] at hk
    obtain ⟨⟨na, A, m, d⟩, hx⟩ : ∃ x, L[k] = x := ⟨_, rfl⟩
    have e := fun j hj => (flat_get bigc 2 (fun _ => rfl) L k j hk hj).trans (by rw [hx])
    exact ⟨na, A, m, d, by rw [← hx]; exact List.getElem?_eq_getElem hk, keepcell hW (h _ _ (e 0 (by omega))), keepcell hW (h _ _ (e 1 (by omega)))⟩)
  clear hn h
  go_enter Tryd.func14, Tryd.ntmps14
  go_wp2
  go_loopw [7] (fun s7 wr => ∃ k : Nat, s7 = .int .i64 (k : Int) ∧ k ≤ n ∧ (∀ x ∈ L.take k, x.2.2.1 ≤ 8) ∧ Below w.heap.size w wr) (fun s7 _ => n - (intOf s7).toNat)
  case atStart => exact ⟨0, rfl, Nat.zero_le _, fun x hx => by simp at hx, Below.refl _ _⟩
  case round =>
    obtain ⟨k, rfl, hkn, hS, hb⟩ := hrel
    have HB2 := Lib.hid hb
    have HS := Lib.hid hS
    clear hb hS
    by_cases hk : k = n
    · subst hk
      have hlt : ¬ ((k : Int) < (k : Int)) := by omega
      go_wp2
      go_ret
      exact ⟨true, rfl, fun _ x hx => HS.out x (by rw [← HN.out, List.take_length]; exact hx), HB2.out⟩
    · have hlt : (k : Int) < (n : Int) := by omega
      have hlt0 : (0 : Int) ≤ (k : Int) := by omega
      obtain ⟨na, A, m, d, hx, c0, c1⟩ := HL.out k (by omega) wr HB2.out
      have HX := Lib.hid hx
      clear hx
      have CS := Lib.hid (fun W => Small_any na A m d W)
      go_wp2_with fail
      have HB3 := HB2.out.alloc HB2.out.size (.cells #[.bool na, .slice A m d] 24)
      refine (CS.out _).mono ?_
      rintro e w2 ⟨rfl, hb⟩
      have HB4 := Lib.hid (HB3.trans (hb.mono HB3.size))
      clear hb HB3 c0 c1
      by_cases h8 : (m : Int) ≤ 8
      · rw [decide_eq_true h8]
        have HS2 := Lib.hid (show ∀ x ∈ L.take (k + 1), x.2.2.1 ≤ 8 from by
          intro x hx
          rw [List.take_add_one, HX.out] at hx
          rcases List.mem_append.1 hx with hx | hx
          · exact HS.out x hx
          · simp at hx
            subst hx
            show m ≤ 8
            omega)
        clear h8
        go_wp2
        go_roundw
        case rel => exact ⟨k + 1, by go_num, by omega, HS2.out, HB4.out⟩
        case measure => simp only [intOf]; omega
      · rw [decide_eq_false h8]
        clear h8
        go_wp2
        go_ret
        exact ⟨false, rfl, (fun h => by cases h), HB4.out⟩
end Go.Proofs.YtndkcimdbidgaaaDoor
