/- Format. -/
import Derived.Test.YtpnemkphdminnaaDoorFbt
import Derived.Test.YtpnemkphdminnaaDoorShelf
namespace Go.Proofs.YtpnemkphdminnaaDoor
open Go.ChangeShapes Go.WideShapes Go.ChangeAt Go.RowKit Go.ChangeMaps

theorem repeat_one (c : Nat) : Lib.repeatL [48] c = List.replicate c 48 := by
  induction c with
  | zero => rfl
  | succ c ih => simp [Lib.repeatL, List.replicate_succ, ih] <;> simp_all [Lib.repeatL]
theorem hexs_pad (j m s : Nat) (h : s / 16 ^ m = 0) : hexs (m + j) s = List.replicate j 48 ++ hexs m s := by
  induction j with
  | zero => rfl
  | succ j ih =>
    rw [← Nat.add_assoc, hexs_succ, ih]
    have : s / 16 ^ (m + j) = 0 := by rw [Nat.pow_add, ← Nat.div_div_eq_div_mul, h, Nat.zero_div]
    rw [this]
    rfl
theorem str_app (a b : List UInt8) : (⟨a.toArray⟩ : ByteArray) ++ ⟨b.toArray⟩ = ⟨(a ++ b).toArray⟩ := by
  apply ByteArray.ext; simp [ByteArray.data_append]
theorem rep_any (c m : Nat) (h : c + m = 16) (w : World) : Calls Tryd.prog 25 #[.string ⟨#[48]⟩, .int .i64 (16 - (m : Int))] w fun e w' => e = .returned (.string ⟨(List.replicate c 48).toArray⟩) ∧ Below w.heap.size w w' := by
  have := Tryd.strings_Repeat ⟨#[48]⟩ c w (by omega) (by show 1 * c ≤ _; omega)
  rw [show ((c : Nat) : Int) = 16 - (m : Int) by omega] at this
  rw [← repeat_one]
  exact this
set_option maxHeartbeats 1000000 in
theorem Format_any (s : Nat) (w : World) (hs : s < 18446744073709551616) (h4 : w.cell? ⟨4, 15, none⟩ = some (.int .u8 4)) :
    Calls Tryd.prog 21 #[.int .u64 (s : Int)] w fun e w' => e = .returned (.string ⟨(hexs 16 s).toArray⟩) ∧ Below w.heap.size w w' := by
  go_enter Tryd.func21, Tryd.ntmps21
  go_wp2_with fail
  refine (FormatU_any s _ hs h4).mono ?_
  rintro e w1 ⟨m, m1, m2, m3, rfl, hb⟩
  have HM := Lib.hid (hexs_pad (16 - m) m s m3)
  have hl := hexs_len m s
  rw [show m + (16 - m) = 16 by omega] at HM
  obtain ⟨c, hc⟩ : ∃ c, c + m = 16 := ⟨16 - m, by omega⟩
  rw [show 16 - m = c by omega] at HM
  have HC := Lib.hid hc
  have hr : c ≤ 16 := by omega
  clear m3 hc
  generalize hexs m s = q at *
  go_wp2_with fail
  refine (rep_any c m HC.out _).mono ?_
  rintro e w2 ⟨rfl, hb2⟩
  have H2 := Lib.hid (str_app (List.replicate c 48) q)
  have hl2 : (List.replicate c (48 : UInt8)).length ≤ 16 := by rw [List.length_replicate]; exact hr
  generalize List.replicate c (48 : UInt8) = p at *
  go_wp2
  go_ret
  exact ⟨congrArg (fun x => Ending.returned (.string x)) (H2.out.trans (by rw [HM.out])), more_below hb hb2⟩
end Go.Proofs.YtpnemkphdminnaaDoor
