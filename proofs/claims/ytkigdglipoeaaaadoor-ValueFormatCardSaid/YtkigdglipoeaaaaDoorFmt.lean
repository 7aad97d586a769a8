/- The literal of a value. -/
import Derived.Test.YtkigdglipoeaaaaDoorDbl
namespace Go.Proofs.YtkigdglipoeaaaaDoor
open Go.ChangeShapes Go.WideShapes Go.ChangeAt Go.RowKit Go.ChangeMaps

set_option maxHeartbeats 1000000 in
theorem VFormat_any (k n : Int) (s : ByteArray) (w : World) (hE : Env w) (h0 : -9223372036854775808 ≤ n) (h1 : n ≤ 9223372036854775807) (hs : s.size ≤ 9223372036854775807) :
    Calls Tryd.prog 26 #[.agg #[.int .i64 k, .int .i64 n, .string s]] w fun e w' => e = .returned (.string ⟨(fmtV ⟨k, n, s⟩).toArray⟩) ∧ Below w.heap.size w w' := by
  have HV := Lib.hid (fun w => VValid_any k n s w hs)
  have HX := Lib.hid (fmtV_eq ⟨k, n, s⟩)
  have HZ : Hid (V3.valid ⟨k, n, s⟩ = true → s.size ≤ 16) := Lib.hid valid_size
  have HK : Hid (V3.valid ⟨k, n, s⟩ = true → k = 0 ∨ k = 1 ∨ k = 2) := Lib.hid valid_kind
  have B0 := (Below.refl w.heap.size w).alloc (Nat.le_refl _) (.cells #[.int .i64 k, .int .i64 n, .string s] 23)
  have HB := Lib.hid B0
  generalize hv : V3.valid ⟨k, n, s⟩ = v at *
  generalize hf : fmtV ⟨k, n, s⟩ = f at *
  clear hv hf B0
  cases v
  · rw [HX.out, if_pos rfl]
    clear HX
    go_enter Tryd.func26, Tryd.ntmps26
    go_wp2_with (go_at_call 13; refine (HV.out _).mono ?_; rintro e w1 ⟨rfl, hb⟩)
    go_ret
    exact ⟨rfl, HB.out.trans (hb.mono (by simp))⟩
  · have HX := Lib.hid (HX.out.trans (if_neg (by decide)))
    rcases HK.out rfl with hk | hk | hk
    · subst hk
      rw [(HX.out.trans rfl : f = [78, 85, 76, 76])]
      clear HX
      go_enter Tryd.func26, Tryd.ntmps26
      go_wp2_with fail
      refine (HV.out _).mono ?_
      rintro e w1 ⟨rfl, hb⟩
      have e0 := keepcell hb (newcell (g := w.heap.size) 0 (.int .i64 0) rfl rfl)
      go_wp2
      go_ret
      exact ⟨rfl, HB.out.trans (hb.mono (by simp))⟩
    · subst hk
      rw [(HX.out.trans rfl : f = Lib.itoa n)]
      clear HX
      go_enter Tryd.func26, Tryd.ntmps26
      go_wp2_with fail
      refine (HV.out _).mono ?_
      rintro e w1 ⟨rfl, hb⟩
      have e0 := keepcell hb (newcell (g := w.heap.size) 0 (.int .i64 1) rfl rfl)
      have e1 := keepcell hb (newcell (g := w.heap.size) 1 (.int .i64 n) rfl rfl)
      have HE := Lib.hid (hE.below (HB.out.trans (hb.mono (by simp))))
      go_wp2_with (go_at_call 44; refine (Tryd.strconv_FormatInt_10 n h0 h1 _ HE.out.tab).mono ?_; rintro e w2 ⟨rfl, kk, os, rfl⟩)
      go_ret
      exact ⟨rfl, (HB.out.trans (hb.mono (by simp))).trans (Lib.below_grow _ _ (HB.out.trans (hb.mono (by simp))).size _ _)⟩
    · subst hk
      rw [(HX.out.trans rfl : f = 39 :: (dbl s.data.toList ++ [39]))]
      clear HX
      have hz := HZ.out rfl
      have cb := Lib.countB_le ⟨#[39]⟩ (by decide) s.size s (Nat.le_refl _)
      have hd := dbl_len s.data.toList
      have hsl : s.data.toList.length = s.size := by simp
      have RA := Lib.hid (fun m w hm => Tryd.strings_ReplaceAll s ⟨#[39]⟩ ⟨#[39, 39]⟩ m w (by omega) hm (by decide) (by
        have : (⟨#[39, 39]⟩ : ByteArray).size = 2 := rfl
        rw [this]; omega))
      obtain ⟨r, hr⟩ : ∃ r : ByteArray, (⟨(Lib.replaceAll s.data.toList [39] [39, 39]).toArray⟩ : ByteArray) = r := ⟨_, rfl⟩
      rw [replace_dbl] at hr
      have hrs : r.size ≤ 32 := by rw [← hr]; show (dbl s.data.toList).toArray.size ≤ 32; rw [List.size_toArray]; omega
      have R1 : ∀ m w, w.cell? ⟨0, 0, none⟩ = some (.int .i64 m) → Calls Tryd.prog 45 #[.string s, .string ⟨#[39]⟩, .string ⟨#[39, 39]⟩] w fun e w' => e = .returned (.string r) ∧ Below w.heap.size w w' := fun m w hm => by
        have := RA.out m w hm
        rw [show (⟨#[39]⟩ : ByteArray).data.toList = [39] from rfl, show (⟨#[39, 39]⟩ : ByteArray).data.toList = [39, 39] from rfl, replace_dbl, hr] at this
        exact this
      have HR := Lib.hid R1
      have HQ : Hid ((⟨(39 :: (dbl s.data.toList ++ [39])).toArray⟩ : ByteArray) = (⟨#[39]⟩ : ByteArray) ++ r ++ ⟨#[39]⟩) := by
        refine Lib.hid ?_
        rw [← hr]
        apply ByteArray.ext
        simp
      rw [HQ.out]
      clear RA R1 hd hsl cb HQ hr
      go_enter Tryd.func26, Tryd.ntmps26
      go_wp2_with fail
      refine (HV.out _).mono ?_
      rintro e w1 ⟨rfl, hb⟩
      have e0 := keepcell hb (newcell (g := w.heap.size) 0 (.int .i64 2) rfl rfl)
      have e2 := keepcell hb (newcell (g := w.heap.size) 2 (.string s) rfl rfl)
      obtain ⟨m, hm⟩ := (hE.below (HB.out.trans (hb.mono (by simp)))).max
      have HM := Lib.hid hm
      clear hm
      have s1 : (⟨#[39]⟩ : ByteArray).size = 1 := rfl
      have s2 : ((⟨#[39]⟩ : ByteArray) ++ r).size ≤ 33 := by rw [ByteArray.size_append]; omega
      go_wp2_with (go_at_call 45; refine (HR.out m _ HM.out).mono ?_; rintro e w2 ⟨rfl, hb2⟩)
      go_ret
      exact ⟨rfl, (HB.out.trans (hb.mono (by simp))).trans (hb2.mono (HB.out.trans (hb.mono (by simp))).size)⟩
end Go.Proofs.YtkigdglipoeaaaaDoor
