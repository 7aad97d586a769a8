/- The next token. -/
import Derived.Test.YtdkkflmhpncglaaDoorLxx
import Derived.Test.YtdkkflmhpncglaaDoorLxy
import Derived.Test.YtdkkflmhpncglaaDoorLxw
namespace Go.Proofs.YtdkkflmhpncglaaDoor
open Go.ChangeShapes Go.WideShapes Go.ChangeAt Go.RowKit Go.ChangeMaps

/-- The token at the head of l. -/
def nextR (l : List UInt8) : TR := if ltrN (l.getD 0 0).toNat then wordR l else if dgtN (l.getD 0 0).toNat then numR l else if (((l.getD 0 0).toNat : Int) == 39) then textR l else symR l
set_option maxRecDepth 100000 in
set_option maxHeartbeats 2000000 in
theorem next_any (s : ByteArray) (w : World) (hs : s.size ≤ 100000) (hn : 0 < s.size) (hE0 : LEnv w) : Calls Tryd.prog 24 #[.string s] w fun e w' => e = .returned (nextR (lst s)).val ∧ Below w.heap.size w w' := by
  have HE0 := Lib.hid hE0
  clear hE0
  have hz0 : (0 : Int) < s.size := by omega
  have HR0 := Lib.hid (show nextR (lst s) = if ltrN s[0].toNat then wordR (lst s) else if dgtN s[0].toNat then numR (lst s) else if ((s[0].toNat : Int) == 39) then textR (lst s) else symR (lst s) by
    have h0 : 0 < (lst s).length := by rw [lst_len]; exact hn
    have e0 : (lst s).getD 0 0 = s[0] := by rw [← lst_get s 0 hn h0]; simp [List.getD, List.getElem?_eq_getElem h0]
    unfold nextR
    rw [e0])
  have CLX := Lib.hid (isLetter_any s[0].toNat)
  have CDX := Lib.hid (isDigit_any s[0].toNat)
  cases hl : ltrN s[0].toNat
  · rw [hl] at CLX
    cases hd : dgtN s[0].toNat
    · rw [hd] at CDX
      cases h39 : ((s[0].toNat : Int) == 39)
      · have HR := Lib.hid (show nextR (lst s) = symR (lst s) by rw [HR0.out, hl, hd, h39]; rfl)
        have C := Lib.hid (fun W (_ : LEnv W) => symbol_any s W hs hn)
        rw [HR.out]
        clear HR0
        generalize symR (lst s) = res at *
        obtain ⟨xk, xt, xn, xe⟩ := res
        unfold TR.val at C
        unfold TR.val
        simp only at C ⊢
        obtain ⟨q, hq⟩ : ∃ q : ByteArray, (⟨xt.toArray⟩ : ByteArray) = q := ⟨_, rfl⟩
        rw [hq] at C
        rw [hq]
        clear hq HR
        obtain ⟨W0, hW0⟩ : ∃ W, W = w.alloc (.cells #[.int .i64 0, .string ⟨#[]⟩, .int .i64 0] 37) := ⟨_, rfl⟩
        have BW0 := Lib.hid (show Below w.heap.size w W0 by rw [hW0]; exact (Below.refl _ w).alloc (Nat.le_refl _) _)
        have ZW0 := Lib.hid (show Blk W0 w.heap.size 37 #[.int .i64 0, .string ⟨#[]⟩, .int .i64 0] by rw [hW0]; exact Blk.new _ _ _)
        have zf : ∀ j, W0.frozen? ⟨w.heap.size, j, none⟩ = false := fun j => Joins.unfrozen_of_block ZW0.out _
        have c0 : W0.cell? ⟨w.heap.size, 0, none⟩ = some (.int .i64 0) := ZW0.out.cell 0
        have c1 : W0.cell? ⟨w.heap.size, 1, none⟩ = some (.string ⟨#[]⟩) := ZW0.out.cell 1
        have c2 : W0.cell? ⟨w.heap.size, 2, none⟩ = some (.int .i64 0) := ZW0.out.cell 2
        go_enter Tryd.func24, Tryd.ntmps24
        go_upto_region 1 with fail
        rw [← hW0]
        clear hW0
        have HEW := Lib.hid (HE0.out.below BW0.out)
        go_wp2_with fail
        refine (CLX.out _).mono ?_
        rintro e wa ⟨rfl, hw⟩
        replace hw := hw.symm
        subst hw
        go_wp2_with fail
        refine (CDX.out _).mono ?_
        rintro e wb ⟨rfl, hw⟩
        replace hw := hw.symm
        subst hw
        go_wp2_with fail
        refine (C.out W0 HEW.out).mono ?_
        rintro e w3 ⟨rfl, hb⟩
        have Zw3 := Lib.hid (ZW0.out.below hb)
        have Bw3 := Lib.hid (BW0.out.trans (hb.mono BW0.out.size))
        clear hb zf c0 c1 c2
        have zf : ∀ j, w3.frozen? ⟨w.heap.size, j, none⟩ = false := fun j => Joins.unfrozen_of_block Zw3.out _
        have c0 : w3.cell? ⟨w.heap.size, 0, none⟩ = some (.int .i64 0) := Zw3.out.cell 0
        have c1 : w3.cell? ⟨w.heap.size, 1, none⟩ = some (.string ⟨#[]⟩) := Zw3.out.cell 1
        have c2 : w3.cell? ⟨w.heap.size, 2, none⟩ = some (.int .i64 0) := Zw3.out.cell 2
        have HF := Lib.hid (show (0 : Nat) = 0 from rfl)
        have S3 := store3 Zw3.out (.int .i64 xk) (.string q) (.int .i64 0)
        have HX := Lib.hid (S3.2 _ _ Bw3.out (Nat.le_refl _))
        have HK := Lib.hid S3.1
        clear S3
        go_wp2
        refine bodyPost_ret (results_c3 rfl _ _ _ w.heap.size _ rfl (load37 HK.out rfl)) rfl ?_
        exact ⟨rfl, HX.out⟩
      · have HR := Lib.hid (show nextR (lst s) = textR (lst s) by rw [HR0.out, hl, hd, h39]; rfl)
        have C := Lib.hid (fun W hW => text_any s W hs hn hW)
        rw [HR.out]
        clear HR0
        generalize textR (lst s) = res at *
        obtain ⟨xk, xt, xn, xe⟩ := res
        unfold TR.val at C
        unfold TR.val
        simp only at C ⊢
        obtain ⟨q, hq⟩ : ∃ q : ByteArray, (⟨xt.toArray⟩ : ByteArray) = q := ⟨_, rfl⟩
        rw [hq] at C
        rw [hq]
        clear hq HR
        obtain ⟨W0, hW0⟩ : ∃ W, W = w.alloc (.cells #[.int .i64 0, .string ⟨#[]⟩, .int .i64 0] 37) := ⟨_, rfl⟩
        have BW0 := Lib.hid (show Below w.heap.size w W0 by rw [hW0]; exact (Below.refl _ w).alloc (Nat.le_refl _) _)
        have ZW0 := Lib.hid (show Blk W0 w.heap.size 37 #[.int .i64 0, .string ⟨#[]⟩, .int .i64 0] by rw [hW0]; exact Blk.new _ _ _)
        have zf : ∀ j, W0.frozen? ⟨w.heap.size, j, none⟩ = false := fun j => Joins.unfrozen_of_block ZW0.out _
        have c0 : W0.cell? ⟨w.heap.size, 0, none⟩ = some (.int .i64 0) := ZW0.out.cell 0
        have c1 : W0.cell? ⟨w.heap.size, 1, none⟩ = some (.string ⟨#[]⟩) := ZW0.out.cell 1
        have c2 : W0.cell? ⟨w.heap.size, 2, none⟩ = some (.int .i64 0) := ZW0.out.cell 2
        go_enter Tryd.func24, Tryd.ntmps24
        go_upto_region 1 with fail
        rw [← hW0]
        clear hW0
        have HEW := Lib.hid (HE0.out.below BW0.out)
        go_wp2_with fail
        refine (CLX.out _).mono ?_
        rintro e wa ⟨rfl, hw⟩
        replace hw := hw.symm
        subst hw
        go_wp2_with fail
        refine (CDX.out _).mono ?_
        rintro e wb ⟨rfl, hw⟩
        replace hw := hw.symm
        subst hw
        go_wp2_with fail
        refine (C.out W0 HEW.out).mono ?_
        rintro e w3 ⟨rfl, hb⟩
        have Zw3 := Lib.hid (ZW0.out.below hb)
        have Bw3 := Lib.hid (BW0.out.trans (hb.mono BW0.out.size))
        clear hb zf c0 c1 c2
        have zf : ∀ j, w3.frozen? ⟨w.heap.size, j, none⟩ = false := fun j => Joins.unfrozen_of_block Zw3.out _
        have c0 : w3.cell? ⟨w.heap.size, 0, none⟩ = some (.int .i64 0) := Zw3.out.cell 0
        have c1 : w3.cell? ⟨w.heap.size, 1, none⟩ = some (.string ⟨#[]⟩) := Zw3.out.cell 1
        have c2 : w3.cell? ⟨w.heap.size, 2, none⟩ = some (.int .i64 0) := Zw3.out.cell 2
        have HF := Lib.hid (show (0 : Nat) = 0 from rfl)
        have S3 := store3 Zw3.out (.int .i64 xk) (.string q) (.int .i64 0)
        have HX := Lib.hid (S3.2 _ _ Bw3.out (Nat.le_refl _))
        have HK := Lib.hid S3.1
        clear S3
        go_wp2
        refine bodyPost_ret (results_c3 rfl _ _ _ w.heap.size _ rfl (load37 HK.out rfl)) rfl ?_
        exact ⟨rfl, HX.out⟩
    · rw [hd] at CDX
      have HR := Lib.hid (show nextR (lst s) = numR (lst s) by rw [HR0.out, hl, hd]; rfl)
      have C := Lib.hid (fun W (_ : LEnv W) => number_any s W hs hn hd)
      rw [HR.out]
      clear HR0
      generalize numR (lst s) = res at *
      obtain ⟨xk, xt, xn, xe⟩ := res
      unfold TR.val at C
      unfold TR.val
      simp only at C ⊢
      obtain ⟨q, hq⟩ : ∃ q : ByteArray, (⟨xt.toArray⟩ : ByteArray) = q := ⟨_, rfl⟩
      rw [hq] at C
      rw [hq]
      clear hq HR
      obtain ⟨W0, hW0⟩ : ∃ W, W = w.alloc (.cells #[.int .i64 0, .string ⟨#[]⟩, .int .i64 0] 37) := ⟨_, rfl⟩
      have BW0 := Lib.hid (show Below w.heap.size w W0 by rw [hW0]; exact (Below.refl _ w).alloc (Nat.le_refl _) _)
      have ZW0 := Lib.hid (show Blk W0 w.heap.size 37 #[.int .i64 0, .string ⟨#[]⟩, .int .i64 0] by rw [hW0]; exact Blk.new _ _ _)
      have zf : ∀ j, W0.frozen? ⟨w.heap.size, j, none⟩ = false := fun j => Joins.unfrozen_of_block ZW0.out _
      have c0 : W0.cell? ⟨w.heap.size, 0, none⟩ = some (.int .i64 0) := ZW0.out.cell 0
      have c1 : W0.cell? ⟨w.heap.size, 1, none⟩ = some (.string ⟨#[]⟩) := ZW0.out.cell 1
      have c2 : W0.cell? ⟨w.heap.size, 2, none⟩ = some (.int .i64 0) := ZW0.out.cell 2
      go_enter Tryd.func24, Tryd.ntmps24
      go_upto_region 1 with fail
      rw [← hW0]
      clear hW0
      have HEW := Lib.hid (HE0.out.below BW0.out)
      go_wp2_with fail
      refine (CLX.out _).mono ?_
      rintro e wa ⟨rfl, hw⟩
      replace hw := hw.symm
      subst hw
      go_wp2_with fail
      refine (CDX.out _).mono ?_
      rintro e wb ⟨rfl, hw⟩
      replace hw := hw.symm
      subst hw
      go_wp2_with fail
      refine (C.out W0 HEW.out).mono ?_
      rintro e w3 ⟨rfl, hb⟩
      have Zw3 := Lib.hid (ZW0.out.below hb)
      have Bw3 := Lib.hid (BW0.out.trans (hb.mono BW0.out.size))
      clear hb zf c0 c1 c2
      have zf : ∀ j, w3.frozen? ⟨w.heap.size, j, none⟩ = false := fun j => Joins.unfrozen_of_block Zw3.out _
      have c0 : w3.cell? ⟨w.heap.size, 0, none⟩ = some (.int .i64 0) := Zw3.out.cell 0
      have c1 : w3.cell? ⟨w.heap.size, 1, none⟩ = some (.string ⟨#[]⟩) := Zw3.out.cell 1
      have c2 : w3.cell? ⟨w.heap.size, 2, none⟩ = some (.int .i64 0) := Zw3.out.cell 2
      have HF := Lib.hid (show (0 : Nat) = 0 from rfl)
      have S3 := store3 Zw3.out (.int .i64 xk) (.string q) (.int .i64 0)
      have HX := Lib.hid (S3.2 _ _ Bw3.out (Nat.le_refl _))
      have HK := Lib.hid S3.1
      clear S3
      go_wp2
      refine bodyPost_ret (results_c3 rfl _ _ _ w.heap.size _ rfl (load37 HK.out rfl)) rfl ?_
      exact ⟨rfl, HX.out⟩
  · rw [hl] at CLX
    have HR := Lib.hid (show nextR (lst s) = wordR (lst s) by rw [HR0.out, hl]; rfl)
    have C := Lib.hid (fun W hW => word_any s W hs hn hl hW)
    rw [HR.out]
    clear HR0
    generalize wordR (lst s) = res at *
    obtain ⟨xk, xt, xn, xe⟩ := res
    unfold TR.val at C
    unfold TR.val
    simp only at C ⊢
    obtain ⟨q, hq⟩ : ∃ q : ByteArray, (⟨xt.toArray⟩ : ByteArray) = q := ⟨_, rfl⟩
    rw [hq] at C
    rw [hq]
    clear hq HR
    obtain ⟨W0, hW0⟩ : ∃ W, W = w.alloc (.cells #[.int .i64 0, .string ⟨#[]⟩, .int .i64 0] 37) := ⟨_, rfl⟩
    have BW0 := Lib.hid (show Below w.heap.size w W0 by rw [hW0]; exact (Below.refl _ w).alloc (Nat.le_refl _) _)
    have ZW0 := Lib.hid (show Blk W0 w.heap.size 37 #[.int .i64 0, .string ⟨#[]⟩, .int .i64 0] by rw [hW0]; exact Blk.new _ _ _)
    have zf : ∀ j, W0.frozen? ⟨w.heap.size, j, none⟩ = false := fun j => Joins.unfrozen_of_block ZW0.out _
    have c0 : W0.cell? ⟨w.heap.size, 0, none⟩ = some (.int .i64 0) := ZW0.out.cell 0
    have c1 : W0.cell? ⟨w.heap.size, 1, none⟩ = some (.string ⟨#[]⟩) := ZW0.out.cell 1
    have c2 : W0.cell? ⟨w.heap.size, 2, none⟩ = some (.int .i64 0) := ZW0.out.cell 2
    go_enter Tryd.func24, Tryd.ntmps24
    go_upto_region 1 with fail
    rw [← hW0]
    clear hW0
    have HEW := Lib.hid (HE0.out.below BW0.out)
    go_wp2_with fail
    refine (CLX.out _).mono ?_
    rintro e wa ⟨rfl, hw⟩
    replace hw := hw.symm
    subst hw
    go_wp2_with fail
    refine (C.out W0 HEW.out).mono ?_
    rintro e w3 ⟨rfl, hb⟩
    have Zw3 := Lib.hid (ZW0.out.below hb)
    have Bw3 := Lib.hid (BW0.out.trans (hb.mono BW0.out.size))
    clear hb zf c0 c1 c2
    have zf : ∀ j, w3.frozen? ⟨w.heap.size, j, none⟩ = false := fun j => Joins.unfrozen_of_block Zw3.out _
    have c0 : w3.cell? ⟨w.heap.size, 0, none⟩ = some (.int .i64 0) := Zw3.out.cell 0
    have c1 : w3.cell? ⟨w.heap.size, 1, none⟩ = some (.string ⟨#[]⟩) := Zw3.out.cell 1
    have c2 : w3.cell? ⟨w.heap.size, 2, none⟩ = some (.int .i64 0) := Zw3.out.cell 2
    have HF := Lib.hid (show (0 : Nat) = 0 from rfl)
    have S3 := store3 Zw3.out (.int .i64 xk) (.string q) (.int .i64 0)
    have HX := Lib.hid (S3.2 _ _ Bw3.out (Nat.le_refl _))
    have HK := Lib.hid S3.1
    clear S3
    go_wp2
    refine bodyPost_ret (results_c3 rfl _ _ _ w.heap.size _ rfl (load37 HK.out rfl)) rfl ?_
    exact ⟨rfl, HX.out⟩
end Go.Proofs.YtdkkflmhpncglaaDoor
