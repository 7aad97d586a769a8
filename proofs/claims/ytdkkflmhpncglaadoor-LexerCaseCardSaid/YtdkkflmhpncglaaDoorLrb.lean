/- The next token, of the reference: symbols and texts. -/
import Derived.Test.YtdkkflmhpncglaaDoorLra
import Derived.Test.YtdkkflmhpncglaaDoorLxn
namespace Go.Proofs.YtdkkflmhpncglaaDoor
open Go.ChangeShapes Go.WideShapes Go.ChangeAt Go.RowKit Go.ChangeMaps

theorem sym_rel (l : List UInt8) : symR l = if symN l = 0 then ⟨0, [], 0, 2⟩ else ⟨5, l.take (symN l), symN l, 0⟩ := by
  unfold symR symN
  by_cases h : two l = true
  · rw [if_pos h, if_pos h, if_neg (by decide)]
  · rw [if_neg h, if_neg h]
    by_cases h2 : Lib.indexByte SYM (l.getD 0 0) < 0
    · rw [if_pos h2, if_pos h2, if_pos rfl]
    · rw [if_neg h2, if_neg h2, if_neg (by decide)]
theorem symN_le (l : List UInt8) (h : 0 < l.length) : symN l ≤ l.length := by
  unfold symN
  split
  · rename_i h2
    unfold two at h2
    rw [Bool.and_eq_true, decide_eq_true_eq] at h2
    exact h2.1
  · split <;> omega
theorem litP_drop (l : List UInt8) (p : Nat) : litP l (p + 1) [] = (litP (l.drop p) 1 []).map (fun x => (x.1, p + x.2)) := by
  unfold litP
  rw [List.drop_drop, Option.map_map]
  congr 1
  funext x
  simp only [Function.comp]
  rw [Nat.add_assoc]
theorem ref_ok (k : Int) (t : List UInt8) (n p : Nat) : TR.ref ⟨k, t, n, 0⟩ p = .tuple #[.agg #[.int .i64 k, .string ⟨t.toArray⟩, .int .i64 (p : Int)], .int .i64 ((p + n : Nat) : Int), .int .i64 0] := if_pos rfl
theorem ref_err (e : Int) (h : e ≠ 0) (p : Nat) : TR.ref ⟨0, [], 0, e⟩ p = .tuple #[.agg #[.int .i64 0, .string ⟨#[]⟩, .int .i64 0], .int .i64 0, .int .i64 e] := if_neg h
set_option maxRecDepth 100000 in
set_option maxHeartbeats 2000000 in
theorem RNext_sym (s : ByteArray) (p : Nat) (w : World) (hs : s.size ≤ 100000) (hp : p < s.size) (hl : ltrN s[p].toNat = false) (hd : dgtN s[p].toNat = false) (hq : ((s[p].toNat : Int) == 39) = false) : Calls Tryd.prog 26 #[.string s, .int .i64 (p : Int)] w fun e w' => e = .returned ((symR ((lst s).drop p)).ref p) ∧ Below w.heap.size w w' := by
  have HL := Lib.hid (lst_len s)
  have hpi : (p : Int) < s.size := by omega
  have hp0 : (0 : Int) ≤ (p : Int) := by omega
  have CLX := Lib.hid (letter_any s[p].toNat)
  have CDX := Lib.hid (digit_any s[p].toNat)
  rw [hl] at CLX
  rw [hd] at CDX
  have HR0 := Lib.hid (sym_rel ((lst s).drop p))
  have CS := Lib.hid (fun W => RSymbol_any s p W hs hp)
  have hn2 := symN_le ((lst s).drop p) (by rw [List.length_drop, HL.out]; omega)
  rw [List.length_drop, HL.out] at hn2
  obtain ⟨res, hres⟩ : ∃ z, symR ((lst s).drop p) = z := ⟨_, rfl⟩
  rw [hres] at HR0
  rw [hres]
  clear hres
  generalize symN ((lst s).drop p) = n at *
  have hwn : IntKind.i64.wrap ((p : Int) + (n : Int)) = (p : Int) + (n : Int) := by rw [IntKind.wrap_i64]; omega
  have hpn : (p : Int) + (n : Int) ≤ s.size := by omega
  have hpn0 : (p : Int) ≤ (p : Int) + (n : Int) := by omega
  have HEX := Lib.hid (show (⟨(((lst s).drop p).take n).toArray⟩ : ByteArray) = s.extract p (p + n) by rw [← ext_of, show p + n - p = n by omega])
  obtain ⟨W0, hW0⟩ : ∃ W, W = w.alloc (.cells #[.int .i64 0, .string ⟨#[]⟩, .int .i64 0] 43) := ⟨_, rfl⟩
  have BW0 := Lib.hid (show Below w.heap.size w W0 by rw [hW0]; exact (Below.refl _ w).alloc (Nat.le_refl _) _)
  have ZW0 := Lib.hid (show Blk W0 w.heap.size 43 #[.int .i64 0, .string ⟨#[]⟩, .int .i64 0] by rw [hW0]; exact Blk.new _ _ _)
  have zf : ∀ j, W0.frozen? ⟨w.heap.size, j, none⟩ = false := fun j => Joins.unfrozen_of_block ZW0.out _
  have c0 : W0.cell? ⟨w.heap.size, 0, none⟩ = some (.int .i64 0) := ZW0.out.cell 0
  have c1 : W0.cell? ⟨w.heap.size, 1, none⟩ = some (.string ⟨#[]⟩) := ZW0.out.cell 1
  have c2 : W0.cell? ⟨w.heap.size, 2, none⟩ = some (.int .i64 0) := ZW0.out.cell 2
  go_enter Tryd.func26, Tryd.ntmps26
  go_upto_region 1 with fail
  rw [← hW0]
  clear hW0
  go_wp2_with fail
  refine (CLX.out _).mono ?_
  rintro e wa ⟨rfl, hw⟩
  replace hw := hw.symm
  subst hw
  go_wp2_with fail
  refine (CDX.out _).mono ?_
  rintro e wb ⟨rfl, hw⟩
  replace hw := hw.symm
  subst hw
  go_wp2_with fail
  refine (CS.out _).mono ?_
  rintro e w3 ⟨rfl, hb⟩
  have Zw3 := Lib.hid (ZW0.out.below hb)
  have Bw3 := Lib.hid (BW0.out.trans (hb.mono BW0.out.size))
  clear hb zf c0 c1 c2
  have zf : ∀ j, w3.frozen? ⟨w.heap.size, j, none⟩ = false := fun j => Joins.unfrozen_of_block Zw3.out _
  have c0 : w3.cell? ⟨w.heap.size, 0, none⟩ = some (.int .i64 0) := Zw3.out.cell 0
  have c1 : w3.cell? ⟨w.heap.size, 1, none⟩ = some (.string ⟨#[]⟩) := Zw3.out.cell 1
  have c2 : w3.cell? ⟨w.heap.size, 2, none⟩ = some (.int .i64 0) := Zw3.out.cell 2
  by_cases h0 : n = 0
  · have HF := Lib.hid (show (⟨0, [], 0, 2⟩ : TR) = res by rw [HR0.out, if_pos h0])
    have hnb : ((n : Int) == 0) = true := by simp; omega
    have S3 := store3 Zw3.out (.int .i64 0) (.string ⟨#[]⟩) (.int .i64 0)
    have HX := Lib.hid (S3.2 _ _ Bw3.out (Nat.le_refl _))
    have HK := Lib.hid S3.1
    clear S3
    go_wp2
    refine bodyPost_ret (results_c3 rfl _ _ _ w.heap.size _ rfl (load43 HK.out rfl)) rfl ?_
    rw [← HF.out]
    exact ⟨by rw [ref_err 2 (by decide)]; rfl, HX.out⟩
  · have HF := Lib.hid (show (⟨5, ((lst s).drop p).take n, n, 0⟩ : TR) = res by rw [HR0.out, if_neg h0])
    have hnb : ((n : Int) == 0) = false := by simp; omega
    have S3 := store3 Zw3.out (.int .i64 5) (.string (s.extract p (p + n))) (.int .i64 (p : Int))
    have HX := Lib.hid (S3.2 _ _ Bw3.out (Nat.le_refl _))
    have HK := Lib.hid S3.1
    clear S3
    go_wp2
    refine bodyPost_ret (results_c3 rfl _ _ _ w.heap.size _ rfl (load43 HK.out rfl)) rfl ?_
    rw [← HF.out]
    exact ⟨by rw [ref_ok, HEX.out]; rfl, HX.out⟩
set_option maxRecDepth 100000 in
set_option maxHeartbeats 2000000 in
theorem RNext_text (s : ByteArray) (p : Nat) (w : World) (hs : s.size ≤ 100000) (hp : p < s.size) (hl : ltrN s[p].toNat = false) (hd : dgtN s[p].toNat = false) (hq : ((s[p].toNat : Int) == 39) = true) : Calls Tryd.prog 26 #[.string s, .int .i64 (p : Int)] w fun e w' => e = .returned ((textR ((lst s).drop p)).ref p) ∧ Below w.heap.size w w' := by
  have HL := Lib.hid (lst_len s)
  have hpi : (p : Int) < s.size := by omega
  have hp0 : (0 : Int) ≤ (p : Int) := by omega
  have CLX := Lib.hid (letter_any s[p].toNat)
  have CDX := Lib.hid (digit_any s[p].toNat)
  rw [hl] at CLX
  rw [hd] at CDX
  have HR0 := Lib.hid (show textR ((lst s).drop p) = textAt (litP ((lst s).drop p) 1 []) from rfl)
  have CS := Lib.hid (fun W => literal_any s p W hs hp)
  rw [litP_drop] at CS
  obtain ⟨res, hres⟩ : ∃ z, textR ((lst s).drop p) = z := ⟨_, rfl⟩
  rw [hres] at HR0
  rw [hres]
  clear hres
  generalize litP ((lst s).drop p) 1 [] = R at *
  obtain ⟨W0, hW0⟩ : ∃ W, W = w.alloc (.cells #[.int .i64 0, .string ⟨#[]⟩, .int .i64 0] 43) := ⟨_, rfl⟩
  have BW0 := Lib.hid (show Below w.heap.size w W0 by rw [hW0]; exact (Below.refl _ w).alloc (Nat.le_refl _) _)
  have ZW0 := Lib.hid (show Blk W0 w.heap.size 43 #[.int .i64 0, .string ⟨#[]⟩, .int .i64 0] by rw [hW0]; exact Blk.new _ _ _)
  have zf : ∀ j, W0.frozen? ⟨w.heap.size, j, none⟩ = false := fun j => Joins.unfrozen_of_block ZW0.out _
  have c0 : W0.cell? ⟨w.heap.size, 0, none⟩ = some (.int .i64 0) := ZW0.out.cell 0
  have c1 : W0.cell? ⟨w.heap.size, 1, none⟩ = some (.string ⟨#[]⟩) := ZW0.out.cell 1
  have c2 : W0.cell? ⟨w.heap.size, 2, none⟩ = some (.int .i64 0) := ZW0.out.cell 2
  go_enter Tryd.func26, Tryd.ntmps26
  go_upto_region 1 with fail
  rw [← hW0]
  clear hW0
  rcases R with _ | ⟨t, n⟩
  · have HF := Lib.hid (show (⟨0, [], 0, 2⟩ : TR) = res from HR0.out.symm)
    unfold litV at CS
    simp only [Option.map_none] at CS
    go_wp2_with fail
    refine (CLX.out _).mono ?_
    rintro e wa ⟨rfl, hw⟩
    replace hw := hw.symm
    subst hw
    go_wp2_with fail
    refine (CDX.out _).mono ?_
    rintro e wb ⟨rfl, hw⟩
    replace hw := hw.symm
    subst hw
    go_wp2_with fail
    refine (CS.out _).mono ?_
    rintro e w3 ⟨rfl, hw⟩
    replace hw := hw.symm
    subst hw
    have S3 := store3 ZW0.out (.int .i64 0) (.string ⟨#[]⟩) (.int .i64 0)
    have HX := Lib.hid (S3.2 _ _ BW0.out (Nat.le_refl _))
    have HK := Lib.hid S3.1
    clear S3
    go_wp2
    refine bodyPost_ret (results_c3 rfl _ _ _ w.heap.size _ rfl (load43 HK.out rfl)) rfl ?_
    rw [← HF.out]
    exact ⟨by rw [ref_err 2 (by decide)]; rfl, HX.out⟩
  · unfold litV at CS
    simp only [Option.map_some] at CS
    have HUS := Lib.hid (show (⟨t.toArray⟩ : ByteArray).size = t.length from rfl)
    obtain ⟨u, hu⟩ : ∃ u : ByteArray, (⟨t.toArray⟩ : ByteArray) = u := ⟨_, rfl⟩
    rw [hu] at CS HUS
    have HU := Lib.hid hu
    clear hu
    obtain ⟨m, hm⟩ : ∃ m, p + n = m := ⟨_, rfl⟩
    rw [hm] at CS
    have HM := Lib.hid hm
    clear hm
    have hm0 : ¬ (m : Int) < 0 := by omega
    go_wp2_with fail
    refine (CLX.out _).mono ?_
    rintro e wa ⟨rfl, hw⟩
    replace hw := hw.symm
    subst hw
    go_wp2_with fail
    refine (CDX.out _).mono ?_
    rintro e wb ⟨rfl, hw⟩
    replace hw := hw.symm
    subst hw
    go_wp2_with fail
    refine (CS.out _).mono ?_
    rintro e w3 ⟨rfl, hw⟩
    replace hw := hw.symm
    subst hw
    by_cases h16 : 16 < t.length
    · have HF := Lib.hid (show (⟨0, [], 0, 3⟩ : TR) = res by rw [HR0.out]; exact (if_pos h16).symm)
      have h16i : (16 : Int) < u.size := by rw [HUS.out]; omega
      have S3 := store3 ZW0.out (.int .i64 0) (.string ⟨#[]⟩) (.int .i64 0)
      have HX := Lib.hid (S3.2 _ _ BW0.out (Nat.le_refl _))
      have HK := Lib.hid S3.1
      clear S3
      go_wp2
      refine bodyPost_ret (results_c3 rfl _ _ _ w.heap.size _ rfl (load43 HK.out rfl)) rfl ?_
      rw [← HF.out]
      exact ⟨by rw [ref_err 3 (by decide)]; rfl, HX.out⟩
    · have HF := Lib.hid (show (⟨4, t, n, 0⟩ : TR) = res by rw [HR0.out]; exact (if_neg h16).symm)
      have h16i : ¬ (16 : Int) < u.size := by rw [HUS.out]; omega
      have S3 := store3 ZW0.out (.int .i64 4) (.string u) (.int .i64 (p : Int))
      have HX := Lib.hid (S3.2 _ _ BW0.out (Nat.le_refl _))
      have HK := Lib.hid S3.1
      clear S3
      go_wp2
      refine bodyPost_ret (results_c3 rfl _ _ _ w.heap.size _ rfl (load43 HK.out rfl)) rfl ?_
      rw [← HF.out]
      exact ⟨by rw [ref_ok, HU.out, HM.out]; rfl, HX.out⟩
end Go.Proofs.YtdkkflmhpncglaaDoor
