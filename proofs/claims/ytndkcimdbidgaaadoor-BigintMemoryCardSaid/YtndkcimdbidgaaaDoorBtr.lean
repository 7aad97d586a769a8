/- Digits without the zeros at their end. -/
import Derived.Test.YtndkcimdbidgaaaDoorBlk
namespace Go.Proofs.YtndkcimdbidgaaaDoor
open Go.ChangeShapes Go.WideShapes Go.ChangeAt Go.RowKit Go.ChangeMaps

/-- A slice's length, capacity and address go together. -/
def Sl (A : Option Addr) (n c : Nat) : Prop := n ≤ c ∧ c ≤ 9223372036854775807 ∧ (A = none → c = 0) ∧ (∀ a, A = some a → a.spot = none)
theorem Sl.take {A : Option Addr} {n c k : Nat} (h : Sl A n c) (hk : k ≤ n) : Sl A k c := ⟨Nat.le_trans hk h.1, h.2.1, h.2.2.1, h.2.2.2⟩
theorem Sl.nil : Sl none 0 0 := ⟨Nat.le_refl _, by decide, (fun _ => rfl), (fun _ h => by cases h)⟩
theorem Sl.own {g off n c : Nat} (h : n ≤ c) (h2 : c ≤ 9223372036854775807) : Sl (some ⟨g, off, none⟩) n c := ⟨h, h2, (fun h => by cases h), (fun a h => by cases h; rfl)⟩
/-- k is the length of what remains of a list without the zeros at its end. -/
def TrimTo (D : List Nat) (k : Nat) : Prop := k ≤ D.length ∧ (∀ j d, k ≤ j → D[j]? = some d → d = 0) ∧ (∀ d, 0 < k → D[k - 1]? = some d → d ≠ 0)
theorem TrimTo.dv {D : List Nat} {k : Nat} (h : TrimTo D k) (B : Nat) : dv B (D.take k) = dv B D := trim_dv B D k h.1 h.2.1
theorem TrimTo.nmz {D : List Nat} {k : Nat} (h : TrimTo D k) : nmz (D.take k) := trim_nmz D k h.1 h.2.2
set_option maxRecDepth 100000 in
set_option maxHeartbeats 2000000 in
theorem trim_any (A : Option Addr) (n c : Nat) (D : List Nat) (w : World) (h : DG w A n D) (hs : Sl A n c) : Calls Tryd.prog 45 #[.slice A n c] w fun e w' => ∃ k, e = .returned (.slice A k c) ∧ TrimTo D k ∧ w' = w := by
  have HA := Lib.hid h.at
  have HL := Lib.hid h.1
  have HD := Lib.hid h.2.1
  have HS := Lib.hid hs
  obtain ⟨hnc, hc, _, _⟩ := hs
  go_enter Tryd.func45, Tryd.ntmps45
  go_wp2
  go_loopw [3] (fun s3 wr => ∃ k : Nat, s3 = .int .i64 (k : Int) ∧ k ≤ n ∧ wr = w ∧ (∀ (j d : Nat), k ≤ j → D[j]? = some d → d = 0)) (fun s3 _ => (intOf s3).toNat)
  case atStart => exact ⟨n, rfl, Nat.le_refl _, rfl, fun j d hj hd => by have := (List.getElem?_eq_some_iff.1 hd).1; have := HL.out; omega⟩
  case round =>
    obtain ⟨k, rfl, hkn, rfl, hz⟩ := hrel
    have HZ := Lib.hid hz
    clear hz
    by_cases h0 : k = 0
    · subst h0
      go_wp2
      go_ret
      exact ⟨0, by first | rfl | trivial, ⟨Nat.zero_le _, HZ.out, fun d h => by omega⟩, rfl⟩
    · obtain ⟨j, hj⟩ : ∃ j : Nat, k = j + 1 := ⟨k - 1, by omega⟩
      have hij : (k : Int) - 1 = (j : Int) := by omega
      have hgt : (k : Int) > 0 := by omega
      have hjn : (j : Int) < n := by omega
      obtain ⟨b, off, rfl, hbl, hcell⟩ := HA.out (by omega)
      obtain ⟨d, hd⟩ : ∃ d, D[j]? = some d := ⟨_, List.getElem?_eq_getElem (by have := HL.out; omega)⟩
      have c0 := hcell wr (Below.refl _ _) j d hd
      have HDd := Lib.hid hd
      have HJ := Lib.hid hj
      clear hcell hd hj
      by_cases hd0 : d = 0
      · subst hd0
        go_wp2
        go_roundw
        case rel => exact ⟨j, by go_num, by have := HJ.out; omega, by first | rfl | trivial, fun i d hi hd => by
          by_cases e : i = j
          · subst e; rw [HDd.out] at hd; cases hd; rfl
          · exact HZ.out i d (by have := HJ.out; omega) hd⟩
        case measure => simp only [intOf]; have := HJ.out; omega
      · have e0 : ((d : Int) == 0) = false := by simp; omega
        go_wp2
        go_ret
        exact ⟨k, by first | rfl | trivial, ⟨by have := HL.out; omega, HZ.out, fun x _ hx => by rw [HJ.out] at hx; simp only [Nat.add_sub_cancel] at hx; rw [HDd.out] at hx; cases hx; exact hd0⟩, by first | rfl | trivial⟩
end Go.Proofs.YtndkcimdbidgaaaDoor
