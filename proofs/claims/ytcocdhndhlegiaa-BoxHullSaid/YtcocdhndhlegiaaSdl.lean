/- Lists of sides and of values. -/
import Derived.Test.YtcocdhndhlegiaaVld
import Derived.Handy
namespace Go.Proofs.Ytcocdhndhlegiaa
open Go.ChangeShapes Go.WideShapes Go.ChangeAt Go.RowKit Go.ChangeMaps

def Sds (w : World) (A : Option Addr) (n : Nat) (R : List Sd) : Prop := At w A n 6 (R.flatMap Sd.cells)
def Vls (w : World) (A : Option Addr) (n : Nat) (R : List V3) : Prop := At w A n 3 (R.flatMap V3.cells)
theorem Sds.len {w : World} {A : Option Addr} {n : Nat} {R : List Sd} (h : Sds w A n R) : R.length = n := by
  have h1 := h.1
  rw [flat_len Sd.cells 6 (fun _ => rfl)] at h1
  omega
theorem Vls.len {w : World} {A : Option Addr} {n : Nat} {R : List V3} (h : Vls w A n R) : R.length = n := by
  have h1 := h.1
  rw [flat_len V3.cells 3 (fun _ => rfl)] at h1
  omega
theorem Sds.below {w w' : World} {A : Option Addr} {n : Nat} {R : List Sd} (h : Sds w A n R) (hb : Below w.heap.size w w') : Sds w' A n R := At.below h hb
theorem Vls.below {w w' : World} {A : Option Addr} {n : Nat} {R : List V3} (h : Vls w A n R) (hb : Below w.heap.size w w') : Vls w' A n R := At.below h hb
theorem Sds.at {w : World} {A : Option Addr} {n : Nat} {R : List Sd} (h : Sds w A n R) (hn : 0 < n) : ∃ b off, A = some ⟨b, off, none⟩ ∧ b < w.heap.size ∧ ∀ (W : World), Below w.heap.size w W → ∀ i (hi : i < R.length),
    W.cell? ⟨b, off + i * 6, none⟩ = some (.bool R[i].nu) ∧ W.cell? ⟨b, off + i * 6 + 1, none⟩ = some (.bool R[i].ot) ∧ W.cell? ⟨b, off + i * 6 + 2, none⟩ = some (.int .i64 R[i].lo) ∧ W.cell? ⟨b, off + i * 6 + 3, none⟩ = some (.int .i64 R[i].hi) ∧ W.cell? ⟨b, off + i * 6 + 4, none⟩ = some (.string R[i].fr) ∧ W.cell? ⟨b, off + i * 6 + 5, none⟩ = some (.string R[i].to) := by
  obtain ⟨b, off, e, hb, hc⟩ := h.2 hn
  refine ⟨b, off, e, hb, fun W hW i hi => ?_⟩
  have g : ∀ j u, j < 6 → (R[i].cells)[j]? = some u → W.cell? ⟨b, off + i * 6 + j, none⟩ = some u := fun j u hj hu => by
    rw [Nat.add_assoc]
    exact keepcell hW (hc _ _ ((flat_get Sd.cells 6 (fun _ => rfl) R i j hi hj).trans hu))
  exact ⟨g 0 _ (by decide) rfl, g 1 _ (by decide) rfl, g 2 _ (by decide) rfl, g 3 _ (by decide) rfl, g 4 _ (by decide) rfl, g 5 _ (by decide) rfl⟩
theorem Vls.at {w : World} {A : Option Addr} {n : Nat} {R : List V3} (h : Vls w A n R) (hn : 0 < n) : ∃ b off, A = some ⟨b, off, none⟩ ∧ b < w.heap.size ∧ ∀ (W : World), Below w.heap.size w W → ∀ i (hi : i < R.length),
    W.cell? ⟨b, off + i * 3, none⟩ = some (.int .i64 R[i].k) ∧ W.cell? ⟨b, off + i * 3 + 1, none⟩ = some (.int .i64 R[i].n) ∧ W.cell? ⟨b, off + i * 3 + 2, none⟩ = some (.string R[i].s) := by
  obtain ⟨b, off, e, hb, hc⟩ := h.2 hn
  refine ⟨b, off, e, hb, fun W hW i hi => ?_⟩
  have g : ∀ j u, j < 3 → (R[i].cells)[j]? = some u → W.cell? ⟨b, off + i * 3 + j, none⟩ = some u := fun j u hj hu => by
    rw [Nat.add_assoc]
    exact keepcell hW (hc _ _ ((flat_get V3.cells 3 (fun _ => rfl) R i j hi hj).trans hu))
  exact ⟨g 0 _ (by decide) rfl, g 1 _ (by decide) rfl, g 2 _ (by decide) rfl⟩
def V3.ok (x : V3) : Prop := x.s.size ≤ 9223372036854775807
def rowOk (R : List V3) : Bool := R.all V3.valid && decide (R.length ≤ 12)
theorem drop_all {α : Type} (p : α → Bool) (R : List α) (k : Nat) (h : k < R.length) : (R.drop k).all p = (p R[k] && (R.drop (k + 1)).all p) := by
  rw [List.drop_eq_getElem_cons h]; rfl
set_option maxRecDepth 100000 in
theorem valid_any (A : Option Addr) (n c : Nat) (R : List V3) (w : World) (h : Vls w A n R) (hR : ∀ x ∈ R, x.ok) (hn : n ≤ 9223372036854775807) :
    Calls Try.prog 10 #[.slice A n c] w fun e w' => e = .returned (.bool (rowOk R)) ∧ Below w.heap.size w w' := by
  have hl := h.len
  have HL := Lib.hid hl
  have HA := Lib.hid h.at
  have HR := Lib.hid hR
  obtain ⟨ro, hro⟩ : ∃ r, rowOk R = r := ⟨_, rfl⟩
  rw [hro]
  unfold rowOk at hro
  rw [hl] at hro
  have HRO := Lib.hid hro
  clear h hR hro hl
  go_enter Try.func10, Try.ntmps10
  go_wp2
  go_loopw [7] (fun iv wr => ∃ i : Nat, iv = .int .i64 (i : Int) ∧ i ≤ n ∧ R.all V3.valid = (R.drop i).all V3.valid ∧ Below w.heap.size w wr) (fun iv _ => n - (intOf iv).toNat)
  case atStart => exact ⟨0, rfl, Nat.zero_le _, rfl, Below.refl _ _⟩
  case round =>
    obtain ⟨i, rfl, hin, hall, hb⟩ := hrel
    have HB := Lib.hid hb
    have HALL := Lib.hid hall
    clear hb hall
    by_cases hlt : i < n
    · have hlti : (i : Int) < n := by omega
      obtain ⟨b, off, rfl, hbl, hc⟩ := HA.out (by omega)
      have hi : i < R.length := by rw [HL.out]; exact hlt
      obtain ⟨c0, c1, c2⟩ := hc wr HB.out i hi
      have HD := Lib.hid (HALL.out.trans (drop_all V3.valid R i hi))
      have hs := HR.out _ (List.getElem_mem hi)
      clear hc hbl
      generalize R[i] = x at *
      obtain ⟨k, m, t⟩ := x
      dsimp only at *
      have CV := Lib.hid (fun W => Valid_any k m t W hs)
      generalize V3.valid ⟨k, m, t⟩ = vb at *
      cases vb
      · go_wp2_with fail
        refine (CV.out _).mono ?_
        rintro e w1 ⟨rfl, hb1⟩
        have HB1 := Lib.hid ((HB.out.alloc HB.out.size _).trans (hb1.mono (HB.out.alloc HB.out.size _).size))
        clear hb1
        have HF : Hid (ro = false) := Lib.hid (by rw [← HRO.out, HD.out]; rfl)
        go_wp2
        go_ret
        exact ⟨ret_bool HF.out.symm, HB1.out⟩
      · go_wp2_with fail
        refine (CV.out _).mono ?_
        rintro e w1 ⟨rfl, hb1⟩
        have HB1 := Lib.hid ((HB.out.alloc HB.out.size _).trans (hb1.mono (HB.out.alloc HB.out.size _).size))
        clear hb1
        go_wp2
        go_roundw
        case rel => exact ⟨i + 1, by go_num, hlt, by rw [HD.out]; simp, HB1.out⟩
        case measure => simp [intOf]; omega
    · obtain rfl : i = n := by omega
      have HF : Hid (decide (i ≤ 12) = ro) := Lib.hid (by
        rw [← HRO.out, HALL.out, List.drop_of_length_le (by rw [HL.out]; exact Nat.le_refl _)]; simp)
      go_wp2
      go_ret
      refine ⟨ret_bool ?_, HB.out⟩
      rw [← HF.out]
      simp; omega
end Go.Proofs.Ytcocdhndhlegiaa
