/- The decimal representation, as the reference writes it. -/
import Derived.Test.YtkigdglipoeaaaaDoorFrw
import Derived.Lib.ConvBytes
namespace Go.Proofs.YtkigdglipoeaaaaDoor
open Go.ChangeShapes Go.WideShapes Go.ChangeAt Go.RowKit Go.ChangeMaps

theorem back1 (x : Int) (h0 : 0 ≤ x) (h1 : x < 256) (w : World) : (convert 68 9 (.slice (some ⟨w.heap.size, 0, none⟩) 1 1)).run Tryd.prog (w.alloc (.cells #[.int .u8 x] 5)) = .ok (.string ⟨#[UInt8.ofNat x.toNat]⟩) (w.alloc (.cells #[.int .u8 x] 5)) := by
  refine run_convert_bytes_back _ 68 9 5 ⟨w.heap.size, 0, none⟩ 1 [UInt8.ofNat x.toNat] Tryd.underlying68 Tryd.underlying5 Tryd.underlying9 ?_
  intro j hj
  match j, hj with
  | 0, _ =>
    have e : ((UInt8.ofNat x.toNat).toNat : Int) = x := by rw [UInt8.toNat_ofNat']; omega
    simp [Addr.add, World.cell?_alloc_at _ _ _ _ rfl]
    omega
theorem dec_split (u : Nat) (h : ¬ u < 10) : Lib.decDigits u = Lib.decDigits (u / 10) ++ [UInt8.ofNat (48 + u % 10)] := by
  conv => lhs; unfold Lib.decDigits
  rw [dif_neg h]
theorem dec_one (u : Nat) (h : u < 10) : Lib.decDigits u = [UInt8.ofNat (48 + u)] := by
  conv => lhs; unfold Lib.decDigits
  rw [dif_pos h]
set_option maxRecDepth 100000 in
theorem Num_any (n : Int) (w : World) (h0 : -9223372036854775808 ≤ n) (h1 : n ≤ 9223372036854775807) :
    Calls Tryd.prog 47 #[.int .i64 n] w fun e w' => e = .returned (.string ⟨(Lib.itoa n).toArray⟩) ∧ Below w.heap.size w w' := by
  by_cases hn : n < 0
  · have d1 : decide (n < 0) = true := decide_eq_true hn
    obtain ⟨U, hU⟩ : ∃ U : Nat, n = -(U : Int) := ⟨n.natAbs, by omega⟩
    have hw : IntKind.u64.wrap (-IntKind.u64.wrap n) = (U : Int) := by rw [hU]; simp [IntKind.wrap, IntKind.bits, IntKind.signed]; omega
    have HI : Hid (Lib.itoa n = 45 :: Lib.decDigits U) := Lib.hid (by unfold Lib.itoa; rw [if_pos hn, show n.natAbs = U by omega])
    have hU2 : U ≤ 9223372036854775808 := by omega
    have h20 : (Lib.decDigits U).length ≤ 21 := by have := Lib.itoa_length_le n h0 h1; rw [HI.out, List.length_cons] at this; omega
    clear hU
    go_enter Tryd.func47, Tryd.ntmps47
    go_wp2
    go_loopw [3, 5] (fun v s wr => ∃ (u : Nat) (acc : ByteArray), v = .int .u64 u ∧ s = .string acc ∧ u ≤ U ∧ Lib.decDigits U = Lib.decDigits u ++ acc.data.toList ∧ Below w.heap.size w wr) (fun v _ _ => (intOf v).toNat)
    case atStart => exact ⟨U, ⟨#[]⟩, rfl, rfl, Nat.le_refl _, (List.append_nil _).symm, Below.refl _ _⟩
    case round =>
      obtain ⟨u, acc, rfl, rfl, hu, hd, hB⟩ := hrel
      obtain ⟨c, hc⟩ : ∃ c : UInt8, UInt8.ofNat (48 + (u : Int) % 10).toNat = c := ⟨_, rfl⟩
      have hb := fun w => back1 (48 + (u : Int) % 10) (by omega) (by omega) w
      simp only [hc] at hb
      have HB := Lib.hid hB
      have HB1 := Lib.hid (hB.alloc hB.size (.cells #[.int .u8 (48 + (u : Int) % 10)] 5))
      have hlen := congrArg List.length hd
      rw [List.length_append] at hlen
      have hsz : acc.size ≤ 21 := by have e : acc.data.toList.length = acc.size := by simp
                                     omega
      have s0 : (⟨#[45]⟩ : ByteArray).size ≤ 1 := by decide
      have s1 : (⟨#[c]⟩ : ByteArray).size = 1 := rfl
      have hsz2 : ((⟨#[c]⟩ : ByteArray) ++ acc).size ≤ 22 := by rw [ByteArray.size_append]; omega
      clear hB
      by_cases h10 : u < 10
      · have e1 := dec_one u h10
        rw [show (48 + (u : Int) % 10).toNat = 48 + u by omega] at hc
        rw [hc] at e1
        have HS : Hid ((⟨(Lib.itoa n).toArray⟩ : ByteArray) = ⟨#[45]⟩ ++ ((⟨#[c]⟩ : ByteArray) ++ acc)) := by
          refine Lib.hid ?_
          rw [HI.out, hd, e1]
          apply ByteArray.ext
          simp
        have q : ((u : Int) / 10 == 0) = true := by simp; omega
        clear e1 hd hlen hc
        go_wp2
        go_ret
        exact ⟨by rw [HS.out]; first | rfl | simp, HB1.out⟩
      · have e1 := dec_split u h10
        rw [show (48 + (u : Int) % 10).toNat = 48 + u % 10 by omega] at hc
        rw [hc] at e1
        have q : ((u : Int) / 10 == 0) = false := by simp; omega
        have HD : Hid (Lib.decDigits U = Lib.decDigits (u / 10) ++ ((⟨#[c]⟩ : ByteArray) ++ acc).data.toList) := Lib.hid (by rw [hd, e1]; simp)
        clear e1 hd hlen hc
        go_wp2
        go_roundw
        case rel => exact ⟨u / 10, (⟨#[c]⟩ : ByteArray) ++ acc, by simp, rfl, by omega, HD.out, HB1.out⟩
        case measure => simp [intOf]; omega

  · have d1 : decide (n < 0) = false := decide_eq_false hn
    obtain ⟨U, hU⟩ : ∃ U : Nat, n = (U : Int) := ⟨n.toNat, by omega⟩
    have hw : IntKind.u64.wrap n = (U : Int) := by rw [hU]; simp [IntKind.wrap, IntKind.bits, IntKind.signed]; omega
    have HI : Hid (Lib.itoa n = Lib.decDigits U) := Lib.hid (by unfold Lib.itoa; rw [if_neg hn, show n.toNat = U by omega])
    have hU2 : U ≤ 9223372036854775808 := by omega
    have h20 : (Lib.decDigits U).length ≤ 21 := by have := Lib.itoa_length_le n h0 h1; rw [HI.out] at this; omega
    clear hU
    go_enter Tryd.func47, Tryd.ntmps47
    go_wp2
    go_loopw [3, 5] (fun v s wr => ∃ (u : Nat) (acc : ByteArray), v = .int .u64 u ∧ s = .string acc ∧ u ≤ U ∧ Lib.decDigits U = Lib.decDigits u ++ acc.data.toList ∧ Below w.heap.size w wr) (fun v _ _ => (intOf v).toNat)
    case atStart => exact ⟨U, ⟨#[]⟩, rfl, rfl, Nat.le_refl _, (List.append_nil _).symm, Below.refl _ _⟩
    case round =>
      obtain ⟨u, acc, rfl, rfl, hu, hd, hB⟩ := hrel
      obtain ⟨c, hc⟩ : ∃ c : UInt8, UInt8.ofNat (48 + (u : Int) % 10).toNat = c := ⟨_, rfl⟩
      have hb := fun w => back1 (48 + (u : Int) % 10) (by omega) (by omega) w
      simp only [hc] at hb
      have HB := Lib.hid hB
      have HB1 := Lib.hid (hB.alloc hB.size (.cells #[.int .u8 (48 + (u : Int) % 10)] 5))
      have hlen := congrArg List.length hd
      rw [List.length_append] at hlen
      have hsz : acc.size ≤ 21 := by have e : acc.data.toList.length = acc.size := by simp
                                     omega
      have s0 : (⟨#[]⟩ : ByteArray).size ≤ 1 := by decide
      have s1 : (⟨#[c]⟩ : ByteArray).size = 1 := rfl
      have hsz2 : ((⟨#[c]⟩ : ByteArray) ++ acc).size ≤ 22 := by rw [ByteArray.size_append]; omega
      clear hB
      by_cases h10 : u < 10
      · have e1 := dec_one u h10
        rw [show (48 + (u : Int) % 10).toNat = 48 + u by omega] at hc
        rw [hc] at e1
        have HS : Hid ((⟨(Lib.itoa n).toArray⟩ : ByteArray) = ⟨#[]⟩ ++ ((⟨#[c]⟩ : ByteArray) ++ acc)) := by
          refine Lib.hid ?_
          rw [HI.out, hd, e1]
          apply ByteArray.ext
          simp
        have q : ((u : Int) / 10 == 0) = true := by simp; omega
        clear e1 hd hlen hc
        go_wp2
        go_ret
        exact ⟨by rw [HS.out]; first | rfl | simp, HB1.out⟩
      · have e1 := dec_split u h10
        rw [show (48 + (u : Int) % 10).toNat = 48 + u % 10 by omega] at hc
        rw [hc] at e1
        have q : ((u : Int) / 10 == 0) = false := by simp; omega
        have HD : Hid (Lib.decDigits U = Lib.decDigits (u / 10) ++ ((⟨#[c]⟩ : ByteArray) ++ acc).data.toList) := Lib.hid (by rw [hd, e1]; simp)
        clear e1 hd hlen hc
        go_wp2
        go_roundw
        case rel => exact ⟨u / 10, (⟨#[c]⟩ : ByteArray) ++ acc, by simp, rfl, by omega, HD.out, HB1.out⟩
        case measure => simp [intOf]; omega
end Go.Proofs.YtkigdglipoeaaaaDoor
