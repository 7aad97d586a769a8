/- Digits, as the reference writes them. -/
import Derived.Test.YthageombfifffaaDoorAcn
import Derived.Lib.ConvBytes
namespace Go.Proofs.YthageombfifffaaDoor
open Go.ChangeShapes Go.WideShapes Go.ChangeAt Go.RowKit Go.ChangeMaps

theorem back1 (x : Int) (h0 : 0 ≤ x) (h1 : x < 256) (w : World) : (convert 56 9 (.slice (some ⟨w.heap.size, 0, none⟩) 1 1)).run Tryd.prog (w.alloc (.cells #[.int .u8 x] 5)) = .ok (.string ⟨#[UInt8.ofNat x.toNat]⟩) (w.alloc (.cells #[.int .u8 x] 5)) := by
  refine run_convert_bytes_back _ 56 9 5 ⟨w.heap.size, 0, none⟩ 1 [UInt8.ofNat x.toNat] Tryd.underlying56 Tryd.underlying5 Tryd.underlying9 ?_
  intro j hj
  match j, hj with
  | 0, _ =>
    have e : ((UInt8.ofNat x.toNat).toNat : Int) = x := by rw [UInt8.toNat_ofNat']; omega
    simp [Addr.add, World.cell?_alloc_at _ _ _ _ rfl]
    omega
theorem dec_len (u : Nat) (h : u ≤ 9223372036854775807) : (Lib.decDigits u).length ≤ 21 := by
  have := Lib.itoa_length_le (u : Int) (by omega) (by omega)
  rw [Lib.itoa_nonneg] at this; exact this
set_option maxRecDepth 100000 in
theorem digits_any (u : Nat) : u ≤ 1000000000 → ∀ w, Calls Tryd.prog 43 #[.int .i64 (u : Int)] w fun e w' => e = .returned (.string ⟨(Lib.decDigits u).toArray⟩) ∧ Below w.heap.size w w' := by
  induction u using Nat.strongRecOn with
  | ind u ih =>
    intro hu w
    obtain ⟨c, hc⟩ : ∃ c : UInt8, UInt8.ofNat (48 + (u : Int) % 10).toNat = c := ⟨_, rfl⟩
    have hb := fun w => back1 (48 + (u : Int) % 10) (by omega) (by omega) w
    simp only [hc] at hb
    have HB1 := Lib.hid ((Below.refl w.heap.size w).alloc (Nat.le_refl _) (.cells #[.int .u8 (48 + (u : Int) % 10)] 5))
    have s1 : (⟨#[c]⟩ : ByteArray).size = 1 := rfl
    by_cases h10 : u < 10
    · have e1 := dec_one u h10
      rw [show (48 + (u : Int) % 10).toNat = 48 + u by omega] at hc
      rw [hc] at e1
      have HS := Lib.hid e1
      clear e1 hc ih
      go_enter Tryd.func43, Tryd.ntmps43
      go_wp2
      go_ret
      exact ⟨by rw [HS.out]; first | done | rfl, HB1.out⟩
    · have e1 := dec_split u h10
      rw [show (48 + (u : Int) % 10).toNat = 48 + u % 10 by omega] at hc
      rw [hc] at e1
      have hl := dec_len (u / 10) (by omega)
      have C := Lib.hid (ih (u / 10) (by omega) (by omega))
      obtain ⟨f, hf⟩ : ∃ f : ByteArray, (⟨(Lib.decDigits (u / 10)).toArray⟩ : ByteArray) = f := ⟨_, rfl⟩
      have hfs : f.size ≤ 21 := by rw [← hf]; show (Lib.decDigits (u / 10)).toArray.size ≤ 21; rw [List.size_toArray]; exact hl
      rw [hf] at C
      have HS : Hid ((⟨(Lib.decDigits u).toArray⟩ : ByteArray) = f ++ ⟨#[c]⟩) := Lib.hid (by rw [← hf, e1]; apply ByteArray.ext; simp)
      have q : (((u / 10 : Nat) : Int)) = (u : Int) / 10 := by omega
      rw [q] at C
      clear e1 hc ih hf hl q
      go_enter Tryd.func43, Tryd.ntmps43
      go_wp2_with (go_at_call 43; refine (C.out _).mono ?_; rintro e w2 ⟨rfl, hb2⟩)
      go_ret
      exact ⟨by rw [HS.out]; first | done | rfl, more_below HB1.out hb2⟩
theorem digB (u : Nat) (h : u ≤ 9223372036854775807) : ∃ f : ByteArray, (⟨(Lib.decDigits u).toArray⟩ : ByteArray) = f ∧ f.data.toList = Lib.decDigits u ∧ f.size ≤ 21 := by
  refine ⟨_, rfl, rfl, ?_⟩
  show (Lib.decDigits u).toArray.size ≤ 21
  rw [List.size_toArray]; exact dec_len u h
end Go.Proofs.YthageombfifffaaDoor
