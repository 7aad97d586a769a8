/- Law EvaluateLikeParts: for every input the call returns true, and its arguments read afterwards as before. -/
import Derived.Test.YtfhbffgnpedaeaaEaw
import Derived.Test.YtfhbffgnpedaeaaElp
namespace Go.Proofs.Ytfhbffgnpedaeaa
open Go.ChangeShapes Go.WideShapes Go.ChangeAt Go.RowKit Go.ChangeMaps

theorem ext_take (s : ByteArray) (i : Nat) : (s.extract 0 i).data.toList = s.data.toList.take i := by
  rw [ByteArray.data_extract, Array.toList_extract, List.extract_eq_take_drop]; simp
theorem ext_drop (s : ByteArray) (i : Nat) : (s.extract i s.size).data.toList = s.data.toList.drop i := by
  have : s.data.toList.length = s.size := by simp
  rw [ByteArray.data_extract, Array.toList_extract, List.extract_eq_take_drop, List.take_of_length_le (by rw [List.length_drop]; omega)]
set_option maxRecDepth 100000 in
set_option maxHeartbeats 4000000 in
theorem evaluateLikeParts_walk (s0 s1 s2 : ByteArray) (w : World) (l0 : s0.size ≤ 140737488351232) (l1 : s1.size ≤ 140737488351232) (l2 : s2.size ≤ 140737488351232) : Calls Try.prog 7 #[.string s0, .string s1, .string s2] w fun e w' => e = .returned (.bool true) ∧ Below w.heap.size w w' := by
  by_cases h0 : s0.size > 30
  · have h0i : (s0.size : Int) > 30 := by omega
    go_enter Try.func7, Try.ntmps7
    go_wp2_with fail
    refine (awake_any _).mono ?_
    rintro e w1 ⟨rfl, hb⟩
    have HB := Lib.hid hb
    clear hb
    go_wp2_with fail
    refine (awake_any _).mono ?_
    rintro e w2 ⟨rfl, hb⟩
    replace HB := Lib.hid (HB.out.trans (hb.mono HB.out.size))
    clear hb
    go_wp2
    go_ret
    exact ⟨rfl, HB.out⟩
  have h0i : ¬ (s0.size : Int) > 30 := by omega
  by_cases h1 : s1.size > 30
  · have h1i : (s1.size : Int) > 30 := by omega
    go_enter Try.func7, Try.ntmps7
    go_wp2_with fail
    refine (awake_any _).mono ?_
    rintro e w1 ⟨rfl, hb⟩
    have HB := Lib.hid hb
    clear hb
    go_wp2_with fail
    refine (awake_any _).mono ?_
    rintro e w2 ⟨rfl, hb⟩
    replace HB := Lib.hid (HB.out.trans (hb.mono HB.out.size))
    clear hb
    go_wp2
    go_ret
    exact ⟨rfl, HB.out⟩
  have h1i : ¬ (s1.size : Int) > 30 := by omega
  by_cases h2 : s2.size > 30
  · have h2i : (s2.size : Int) > 30 := by omega
    go_enter Try.func7, Try.ntmps7
    go_wp2_with fail
    refine (awake_any _).mono ?_
    rintro e w1 ⟨rfl, hb⟩
    have HB := Lib.hid hb
    clear hb
    go_wp2_with fail
    refine (awake_any _).mono ?_
    rintro e w2 ⟨rfl, hb⟩
    replace HB := Lib.hid (HB.out.trans (hb.mono HB.out.size))
    clear hb
    go_wp2
    go_ret
    exact ⟨rfl, HB.out⟩
  have h2i : ¬ (s2.size : Int) > 30 := by omega
  have HL := Lib.hid (show s0.data.toList.length = s0.size by simp)
  obtain ⟨p, hp⟩ : ∃ p : Nat → Bool, p = fun k => likeM s1.data.toList (s0.data.toList.take k) && likeM s2.data.toList (s0.data.toList.drop k) := ⟨_, rfl⟩
  have HP := Lib.hid hp
  have HE := Lib.hid (show likeM (s1 ++ s2).data.toList s0.data.toList = (List.range (s0.size + 1)).any p by
    rw [show (s1 ++ s2).data.toList = s1.data.toList ++ s2.data.toList by simp, like_parts, HL.out, hp])
  clear hp
  go_enter Try.func7, Try.ntmps7
  go_wp2_with fail
  refine (awake_any _).mono ?_
  rintro e w1 ⟨rfl, hb⟩
  have HB := Lib.hid hb
  clear hb
  go_wp2
  go_loopw [7, 8, 30] (fun s7 s8 s30 wr => ∃ i : Nat, s30 = .int .i64 (i : Int) ∧ i ≤ s0.size + 1 ∧ s7 = .bool ((List.range i).any p) ∧ Below w.heap.size w wr) (fun _ _ s30 _ => s0.size + 1 - (intOf s30).toNat)
  case atStart => exact ⟨0, rfl, Nat.zero_le _, rfl, HB.out⟩
  case round =>
    obtain ⟨i, rfl, hi, rfl, hb⟩ := hrel
    have HB := Lib.hid hb
    clear hb
    by_cases hlt : i < s0.size + 1
    · have hlti : (i : Int) < (s0.size : Int) + 1 := by omega
      have hle : i ≤ s0.size := by omega
      have HR := Lib.hid (range_any p i)
      have CA := Lib.hid (fun W => Like_any (s0.extract 0 i) s1 W (by simp; omega) (by omega))
      have CB := Lib.hid (fun W => Like_any (s0.extract i s0.size) s2 W (by simp; omega) (by omega))
      simp only [ext_take, ext_drop] at CA CB
      have HPI := Lib.hid (show p i = (likeM s1.data.toList (s0.data.toList.take i) && likeM s2.data.toList (s0.data.toList.drop i)) by rw [HP.out])
      generalize likeM s1.data.toList (s0.data.toList.take i) = c1 at *
      generalize likeM s2.data.toList (s0.data.toList.drop i) = c2 at *
      obtain ⟨sm, hsm⟩ : ∃ b, (List.range i).any p = b := ⟨_, rfl⟩
      rw [hsm] at HR ⊢
      clear hsm
      cases sm
      · go_wp2_with fail
        refine (CA.out _).mono ?_
        rintro e w2 ⟨rfl, hb⟩
        replace HB := Lib.hid (HB.out.trans (hb.mono HB.out.size))
        clear hb
        cases c1
        · go_wp2
          go_roundw
          case rel => exact ⟨i + 1, by go_num, hlt, by rw [HR.out, HPI.out]; rfl, HB.out⟩
          case measure => simp [intOf]; omega
        · go_wp2_with fail
          refine (CB.out _).mono ?_
          rintro e w3 ⟨rfl, hb⟩
          replace HB := Lib.hid (HB.out.trans (hb.mono HB.out.size))
          clear hb
          go_wp2
          go_roundw
          case rel => exact ⟨i + 1, by go_num, hlt, by rw [HR.out, HPI.out]; cases c2 <;> rfl, HB.out⟩
          case measure => simp [intOf]; omega
      · go_wp2
        go_roundw
        case rel => exact ⟨i + 1, by go_num, hlt, by rw [HR.out]; rfl, HB.out⟩
        case measure => simp [intOf]; omega
    · have hi2 : i = s0.size + 1 := by omega
      subst hi2
      have CC := Lib.hid (fun W => Like_any s0 (s1 ++ s2) W (by omega) (by simp; omega))
      simp only [HE.out] at CC
      generalize (List.range (s0.size + 1)).any p = b at *
      have hn : ¬ ((s0.size : Int) + 1) < (s0.size : Int) + 1 := by omega
      go_wp2_with fail
      refine (CC.out _).mono ?_
      rintro e w2 ⟨rfl, hb⟩
      replace HB := Lib.hid (HB.out.trans (hb.mono HB.out.size))
      clear hb
      go_wp2
      go_ret
      exact ⟨by simp, HB.out⟩

set_option maxRecDepth 100000 in
theorem evaluateLikeParts_lifted (os : Os) (started : os.Started) (H : Type) (enc : TypeId × Value → H) :
    ReturnsInHanded {} Try.checked os 7 .any (Rows.evaluateLikePartsSpec.pre6 enc Try.prog Try.f7 Rows.evaluateLikePartsRow.domain false) (Rows.evaluateLikePartsSpec.post enc Try.prog Try.f7 false true false false) := by
  refine law_lifted (C := Try.checked) (B := 4) Try.own started (by kernel_rfl) Try.func7
    (ChangeSpec.witness6 (enc := enc) (C := Try.checked) false ⟨#[], #[.string ⟨#[]⟩, .string ⟨#[]⟩, .string ⟨#[]⟩], []⟩ 8 (by kernel_rfl) (by kernel_rfl) (by kernel_rfl) (by kernel_rfl))
    Try.laidOut (by kernel_rfl) rfl rfl rfl Try.underlying4 (fun ds h => match ds, h with | [_, _, _], _ => rfl) ?_
  intro W base args ds ps hval hA hlt hsz
  rw [Try.params7] at hA hval hsz
  obtain ⟨v0, vs0, d0, ds0, p0, q0, hargs, rfl, rfl, h0, r0⟩ := trodAll_cons hA
  obtain ⟨v1, vs1, d1, ds1, p1, q1, rfl, rfl, rfl, h1, r1⟩ := trodAll_cons r0
  obtain ⟨v2, vs2, d2, ds2, p2, q2, rfl, rfl, rfl, h2, r2⟩ := trodAll_cons r1
  obtain ⟨rfl, rfl, rfl⟩ := trodAll_nil r2
  obtain rfl : args = #[v0, v1, v2] := by cases args; simp_all
  obtain ⟨s0, rfl, rfl, rfl, w0⟩ := open_string Try.underlying9 (hval 0 9 v0 rfl rfl) h0
  have l0 : s0.size ≤ 140737488351232 := by have := sized_string hsz (j := 0) (t := 9) rfl rfl; simpa [reachBytes] using this
  obtain ⟨s1, rfl, rfl, rfl, w1⟩ := open_string Try.underlying9 (hval 1 9 v1 rfl rfl) h1
  have l1 : s1.size ≤ 140737488351232 := by have := sized_string hsz (j := 1) (t := 9) rfl rfl; simpa [reachBytes] using this
  obtain ⟨s2, rfl, rfl, rfl, w2⟩ := open_string Try.underlying9 (hval 2 9 v2 rfl rfl) h2
  have l2 : s2.size ≤ 140737488351232 := by have := sized_string hsz (j := 2) (t := 9) rfl rfl; simpa [reachBytes] using this
  clear hlt hsz
  exact evaluateLikeParts_walk s0 s1 s2 W l0 l1 l2

theorem evaluateLikeParts_over : Rows.evaluateLikePartsRow.holds Try.pinned (OpenSpec.ofChange Rows.evaluateLikePartsSpec) :=
  OpenClaim.holds_of_wide 7 Try.f7 rfl rfl rfl rfl rfl rfl rfl ⟨rfl, rfl, rfl, rfl, rfl⟩ rfl rfl rfl rfl rfl (by kernel_rfl) Try.func7 (by kernel_rfl)
    (of_decide_eq_true (by kernel_rfl)) (by unfold Func.isWrapper; first | (rw [if_pos (by decide +kernel)]; kernel_rfl) | (rw [if_neg (by decide +kernel)]; exact ⟨rfl, rfl⟩))
    (fun os started H enc _ => evaluateLikeParts_lifted os started H enc)

theorem evaluateLikeParts_proved : Rows.EvaluateLikePartsSaid := evaluateLikeParts_over
end Go.Proofs.Ytfhbffgnpedaeaa
