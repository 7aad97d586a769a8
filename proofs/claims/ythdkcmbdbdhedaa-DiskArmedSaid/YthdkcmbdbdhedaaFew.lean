/- Few operations. -/
import Derived.Test.YthdkcmbdbdhedaaOpr
namespace Go.Proofs.Ythdkcmbdbdhedaa
open Go.ChangeShapes Go.WideShapes Go.ChangeAt Go.RowKit Go.ChangeMaps

def fewM (L : List OpM) : Bool := decide ((∀ o ∈ L, o.m ≤ 100) ∧ L.length ≤ 60)
set_option maxRecDepth 100000 in
theorem few_any (w : World) (A : Option Addr) (n c : Nat) (L : List OpM) (h : OpsAt w A n L) (hn : n ≤ 9223372036854775807) (b : Bool) (hb : fewM L = b) : Calls Try.prog 10 #[.slice A n c] w fun e w' => e = .returned (.bool b) ∧ Below w.heap.size w w' := by
  have HL := Lib.hid h.1
  have HO := Lib.hid h
  have HB := Lib.hid hb
  clear h hb
  go_enter Try.func10, Try.ntmps10
  go_wp2
  go_loopw [7] (fun i wr => ∃ k : Nat, k ≤ n ∧ i = .int .i64 (k : Int) ∧ (∀ j (h : j < L.length), j < k → L[j].m ≤ 100) ∧ Below w.heap.size w wr) (fun i _ => n - (intOf i).toNat)
  case atStart => exact ⟨0, Nat.zero_le _, rfl, fun j _ hj => absurd hj (by omega), Below.refl _ _⟩
  case round =>
    obtain ⟨k, hk, rfl, hp, hB⟩ := hrel
    have HW := Lib.hid hB
    have HP := Lib.hid hp
    clear hB hp
    by_cases hlt : k < n
    · obtain ⟨bb, off, rfl, hbl, hcc⟩ := HO.out.2 (by omega)
      have hk2 : k < L.length := by rw [HL.out]; exact hlt
      obtain ⟨x, hx⟩ : ∃ x, L[k] = x := ⟨_, rfl⟩
      have hh := hcc k hk2
      rw [hx] at hh
      obtain ⟨q0, q1, q2, q3, q4, q5⟩ := hh
      have q0 : wr.cell? ⟨bb, off + k * 4, none⟩ = _ := keepcell HW.out q0
      have q1 : wr.cell? ⟨bb, off + k * 4 + 1, none⟩ = _ := keepcell HW.out q1
      have q2 : wr.cell? ⟨bb, off + k * 4 + 2, none⟩ = _ := keepcell HW.out q2
      have q3 : wr.cell? ⟨bb, off + k * 4 + 3, none⟩ = _ := keepcell HW.out q3
      have HX := Lib.hid hx
      clear hcc q4 hx
      by_cases hm : x.m ≤ 100
      · have hmi : ((x.m : Nat) : Int) ≤ 100 := by omega
        have HP2 : Hid (∀ j (h : j < L.length), j < k + 1 → L[j].m ≤ 100) := Lib.hid (fun j hj hlt => by
          by_cases hjk : j < k
          · exact HP.out j hj hjk
          · obtain rfl : j = k := by omega
            rw [HX.out]; exact hm)
        go_wp2
        go_roundw
        case rel => exact ⟨k + 1, by omega, by go_num, HP2.out, HW.out.alloc HW.out.size _⟩
        case measure => simp [intOf]; omega
      · have hmi : (100 : Int) < ((x.m : Nat) : Int) := by omega
        have e : Hid (b = false) := Lib.hid (by
          rw [← HB.out]
          unfold fewM
          simp only [decide_eq_false_iff_not]
          intro hh
          have := hh.1 L[k] (List.getElem_mem _)
          rw [HX.out] at this
          omega)
        go_wp2
        go_ret
        exact ⟨by rw [e.out]; rfl, HW.out.alloc HW.out.size _⟩
    · obtain rfl : k = n := by omega
      have HP2 : Hid (∀ o ∈ L, o.m ≤ 100) := Lib.hid (fun o ho => by
        obtain ⟨j, hj, rfl⟩ := List.mem_iff_getElem.1 ho
        exact HP.out j hj (by rw [← HL.out]; exact hj))
      have e : Hid (b = decide ((k : Int) ≤ 60)) := Lib.hid (by
        rw [← HB.out]
        unfold fewM
        rw [HL.out, Bool.eq_iff_iff]
        simp only [decide_eq_true_eq]
        constructor
        · intro hh; omega
        · intro hh; exact ⟨HP2.out, by omega⟩)
      go_wp2
      go_ret
      exact ⟨by rw [e.out]; rfl, HW.out⟩
theorem fewM_of {L : List OpM} (h : fewM L = true) : (∀ o ∈ L, o.m ≤ 100) ∧ L.length ≤ 60 := by unfold fewM at h; simpa using h
end Go.Proofs.Ythdkcmbdbdhedaa
