/- Symbols. -/
import Derived.Test.YtdkkflmhpncglaaDoorLxt
namespace Go.Proofs.YtdkkflmhpncglaaDoor
open Go.ChangeShapes Go.WideShapes Go.ChangeAt Go.RowKit Go.ChangeMaps

def SYM : List UInt8 := [40, 41, 44, 59, 46, 42, 43, 45, 47, 37, 61, 60, 62]
def two (l : List UInt8) : Bool := decide (1 < l.length) && (l.take 2 == [60, 62] || l.take 2 == [60, 61] || l.take 2 == [62, 61])
/-- A symbol at the head of l. -/
def symR (l : List UInt8) : TR := if two l then ⟨5, l.take 2, 2, 0⟩ else if Lib.indexByte SYM (l.getD 0 0) < 0 then ⟨0, [], 0, 2⟩ else ⟨5, l.take 1, 1, 0⟩
set_option maxRecDepth 100000 in
set_option maxHeartbeats 2000000 in
theorem symbol_any (s : ByteArray) (w : World) (hs : s.size ≤ 100000) (hn : 0 < s.size) : Calls Tryd.prog 43 #[.string s] w fun e w' => e = .returned (symR (lst s)).val ∧ Below w.heap.size w w' := by
  have HR0 := Lib.hid (show symR (lst s) = if two (lst s) then ⟨5, (lst s).take 2, 2, 0⟩ else if Lib.indexByte SYM s[0] < 0 then ⟨0, [], 0, 2⟩ else ⟨5, (lst s).take 1, 1, 0⟩ by
    have h0 : 0 < (lst s).length := by rw [lst_len]; exact hn
    have e0 : (lst s).getD 0 0 = s[0] := by rw [← lst_get s 0 hn h0]; simp [List.getD, List.getElem?_eq_getElem h0]
    unfold symR
    rw [e0])
  have HX0 := Lib.hid (fun w => Tryd.strings_IndexByte ⟨#[40, 41, 44, 59, 46, 42, 43, 45, 47, 37, 61, 60, 62]⟩ (s[0].toNat : Int) w)
  have hc8 : ((s[0].toNat : Int)).toNat.toUInt8 = s[0] := by simp
  have HXC := Lib.hid (show ∀ w, Calls Tryd.prog 38 #[.string ⟨#[40, 41, 44, 59, 46, 42, 43, 45, 47, 37, 61, 60, 62]⟩, .int .u8 (s[0].toNat : Int)] w fun e w' => e = .returned (.int .i64 (Lib.indexByte SYM s[0])) ∧ w' = w by
    intro w
    have h := HX0.out w
    rw [hc8] at h
    exact h)
  obtain ⟨res, hres⟩ : ∃ z, symR (lst s) = z := ⟨_, rfl⟩
  rw [hres] at HR0
  rw [hres]
  have HR := Lib.hid HR0.out.symm
  clear hres HX0 hc8 HR0
  generalize Lib.indexByte SYM s[0] = n at *
  have HEX1 := Lib.hid (show (⟨((lst s).take 1).toArray⟩ : ByteArray) = s.extract 0 1 from ext_of s 0 1)
  have HEX2 := Lib.hid (show (⟨((lst s).take 2).toArray⟩ : ByteArray) = s.extract 0 2 from ext_of s 0 2)
  have HEL := Lib.hid (show (s.extract 0 2).toList = (lst s).take 2 by rw [tol, lst_extract]; rfl)
  have HL := Lib.hid (lst_len s)
  have hz0 : (0 : Int) < s.size := by omega
  have hz1 : (1 : Int) ≤ s.size := by omega
  obtain ⟨T, hT⟩ : ∃ z, two (lst s) = z := ⟨_, rfl⟩
  obtain ⟨W0, hW0⟩ : ∃ W, W = w.alloc (.cells #[.int .i64 0, .string ⟨#[]⟩, .int .i64 0] 37) := ⟨_, rfl⟩
  have BW0 := Lib.hid (show Below w.heap.size w W0 by rw [hW0]; exact (Below.refl _ w).alloc (Nat.le_refl _) _)
  have ZW0 := Lib.hid (show Blk W0 w.heap.size 37 #[.int .i64 0, .string ⟨#[]⟩, .int .i64 0] by rw [hW0]; exact Blk.new _ _ _)
  have zf : ∀ j, W0.frozen? ⟨w.heap.size, j, none⟩ = false := fun j => Joins.unfrozen_of_block ZW0.out _
  have c0 : W0.cell? ⟨w.heap.size, 0, none⟩ = some (.int .i64 0) := ZW0.out.cell 0
  have c1 : W0.cell? ⟨w.heap.size, 1, none⟩ = some (.string ⟨#[]⟩) := ZW0.out.cell 1
  have c2 : W0.cell? ⟨w.heap.size, 2, none⟩ = some (.int .i64 0) := ZW0.out.cell 2
  go_enter Tryd.func43, Tryd.ntmps43
  go_upto_region 1 with fail
  rw [← hW0]
  clear hW0
  by_cases h1 : 1 < s.size
  · have hq1 : (1 : Int) < s.size := by omega
    have hq2 : (2 : Int) ≤ s.size := by omega
    have HT0 := Lib.hid (show two (lst s) = ((lst s).take 2 == [60, 62] || (lst s).take 2 == [60, 61] || (lst s).take 2 == [62, 61]) by unfold two; rw [decide_eq_true (by rw [HL.out]; exact h1)]; exact Bool.true_and _)
    cases b1 : ((lst s).take 2 == [60, 62])
    · cases b2 : ((lst s).take 2 == [60, 61])
      · cases b3 : ((lst s).take 2 == [62, 61])
        · have HT := Lib.hid (show two (lst s) = false by rw [HT0.out, b1, b2, b3]; rfl)
          rw [← HEL.out] at b1 b2 b3
          go_wp2_with fail
          refine (HXC.out _).mono ?_
          rintro e w2 ⟨rfl, hw⟩
          replace hw := hw.symm
          subst hw
          by_cases hn : n < 0
          · have HF := Lib.hid (show (⟨0, [], 0, 2⟩ : TR) = res by rw [← HR.out, if_neg (by rw [HT.out]; decide), if_pos hn])
            have S3 := store3 ZW0.out (.int .i64 0) (.string ⟨#[]⟩) (.int .i64 0)
            have HX := Lib.hid (S3.2 _ _ BW0.out (Nat.le_refl _))
            have HK := Lib.hid S3.1
            clear S3
            go_wp2
            refine bodyPost_ret (results_c3 rfl _ _ _ w.heap.size _ rfl (load37 HK.out rfl)) rfl ?_
            rw [← HF.out]
            exact ⟨rfl, HX.out⟩
          · have HF := Lib.hid (show (⟨5, (lst s).take 1, 1, 0⟩ : TR) = res by rw [← HR.out, if_neg (by rw [HT.out]; decide), if_neg hn])
            have S3 := store3 ZW0.out (.int .i64 5) (.string (s.extract 0 1)) (.int .i64 0)
            have HX := Lib.hid (S3.2 _ _ BW0.out (Nat.le_refl _))
            have HK := Lib.hid S3.1
            clear S3
            go_wp2
            refine bodyPost_ret (results_c3 rfl _ _ _ w.heap.size _ rfl (load37 HK.out rfl)) rfl ?_
            rw [← HF.out]
            exact ⟨by unfold TR.val; simp only [HEX1.out]; rfl, HX.out⟩
        · have HT := Lib.hid (show two (lst s) = true by rw [HT0.out, b1, b2, b3]; rfl)
          rw [← HEL.out] at b1 b2 b3
          have HF := Lib.hid (show (⟨5, (lst s).take 2, 2, 0⟩ : TR) = res by rw [← HR.out, if_pos HT.out])
          have S3 := store3 ZW0.out (.int .i64 5) (.string (s.extract 0 2)) (.int .i64 0)
          have HX := Lib.hid (S3.2 _ _ BW0.out (Nat.le_refl _))
          have HK := Lib.hid S3.1
          clear S3
          go_wp2
          refine bodyPost_ret (results_c3 rfl _ _ _ w.heap.size _ rfl (load37 HK.out rfl)) rfl ?_
          rw [← HF.out]
          exact ⟨by unfold TR.val; simp only [HEX2.out]; rfl, HX.out⟩
      · have HT := Lib.hid (show two (lst s) = true by rw [HT0.out, b1, b2]; rfl)
        rw [← HEL.out] at b1 b2
        have HF := Lib.hid (show (⟨5, (lst s).take 2, 2, 0⟩ : TR) = res by rw [← HR.out, if_pos HT.out])
        have S3 := store3 ZW0.out (.int .i64 5) (.string (s.extract 0 2)) (.int .i64 0)
        have HX := Lib.hid (S3.2 _ _ BW0.out (Nat.le_refl _))
        have HK := Lib.hid S3.1
        clear S3
        go_wp2
        refine bodyPost_ret (results_c3 rfl _ _ _ w.heap.size _ rfl (load37 HK.out rfl)) rfl ?_
        rw [← HF.out]
        exact ⟨by unfold TR.val; simp only [HEX2.out]; rfl, HX.out⟩
    · have HT := Lib.hid (show two (lst s) = true by rw [HT0.out, b1]; rfl)
      rw [← HEL.out] at b1
      have HF := Lib.hid (show (⟨5, (lst s).take 2, 2, 0⟩ : TR) = res by rw [← HR.out, if_pos HT.out])
      have S3 := store3 ZW0.out (.int .i64 5) (.string (s.extract 0 2)) (.int .i64 0)
      have HX := Lib.hid (S3.2 _ _ BW0.out (Nat.le_refl _))
      have HK := Lib.hid S3.1
      clear S3
      go_wp2
      refine bodyPost_ret (results_c3 rfl _ _ _ w.heap.size _ rfl (load37 HK.out rfl)) rfl ?_
      rw [← HF.out]
      exact ⟨by unfold TR.val; simp only [HEX2.out]; rfl, HX.out⟩
  · have hq1 : ¬ (1 : Int) < s.size := by omega
    have HT := Lib.hid (show two (lst s) = false by unfold two; rw [decide_eq_false (by rw [HL.out]; exact h1)]; rfl)
    go_wp2_with fail
    refine (HXC.out _).mono ?_
    rintro e w2 ⟨rfl, hw⟩
    replace hw := hw.symm
    subst hw
    by_cases hn : n < 0
    · have HF := Lib.hid (show (⟨0, [], 0, 2⟩ : TR) = res by rw [← HR.out, if_neg (by rw [HT.out]; decide), if_pos hn])
      have S3 := store3 ZW0.out (.int .i64 0) (.string ⟨#[]⟩) (.int .i64 0)
      have HX := Lib.hid (S3.2 _ _ BW0.out (Nat.le_refl _))
      have HK := Lib.hid S3.1
      clear S3
      go_wp2
      refine bodyPost_ret (results_c3 rfl _ _ _ w.heap.size _ rfl (load37 HK.out rfl)) rfl ?_
      rw [← HF.out]
      exact ⟨rfl, HX.out⟩
    · have HF := Lib.hid (show (⟨5, (lst s).take 1, 1, 0⟩ : TR) = res by rw [← HR.out, if_neg (by rw [HT.out]; decide), if_neg hn])
      have S3 := store3 ZW0.out (.int .i64 5) (.string (s.extract 0 1)) (.int .i64 0)
      have HX := Lib.hid (S3.2 _ _ BW0.out (Nat.le_refl _))
      have HK := Lib.hid S3.1
      clear S3
      go_wp2
      refine bodyPost_ret (results_c3 rfl _ _ _ w.heap.size _ rfl (load37 HK.out rfl)) rfl ?_
      rw [← HF.out]
      exact ⟨by unfold TR.val; simp only [HEX1.out]; rfl, HX.out⟩
end Go.Proofs.YtdkkflmhpncglaaDoor
