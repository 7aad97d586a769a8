/- Tokens of the program. -/
import Derived.Test.YtdkkflmhpncglaaDoorLxo
import Derived.OwnWalk
namespace Go.Proofs.YtdkkflmhpncglaaDoor
open Go.ChangeShapes Go.WideShapes Go.ChangeAt Go.RowKit Go.ChangeMaps

set_option maxRecDepth 100000 in
set_option maxHeartbeats 2000000 in
theorem Tokens_any (s : ByteArray) (w : World) (hs : s.size ≤ 100000) (hE0 : LEnv w) : Calls Tryd.prog 11 #[.string s] w fun e w' => ∃ v, e = .returned (.tuple #[v, .int .i64 ((tokL (lst s)).at_ : Int), .int .i64 (tokL (lst s)).e]) ∧ OT 37 w' w.heap.size v (tokL (lst s)).ts ∧ Below w.heap.size w w' := by
  obtain ⟨i0, hi, hz0, hz1, hz2⟩ := info_parts Tryd.info37
  have HL := Lib.hid (lst_len s)
  have HE0 := Lib.hid hE0
  clear hE0
  have HR0 := Lib.hid (show tokL (lst s) = if 16384 < (lst s).length then ⟨[], 16384, 3⟩ else tokG (lst s) ((lst s).length + 1) (skP (lst s) 0) [] from rfl)
  obtain ⟨res, hres⟩ : ∃ z, tokL (lst s) = z := ⟨_, rfl⟩
  rw [hres] at HR0
  rw [hres]
  clear hres
  have HSK := Lib.hid (fun (k : Nat) (hk : k ≤ s.size) => skQ_spec false (lst s) k (by rw [lst_len]; exact hk))
  by_cases hbig : 16384 < s.size
  · have hbi : (16384 : Int) < s.size := by omega
    have HF := Lib.hid (show res = ⟨[], 16384, 3⟩ by rw [HR0.out, if_pos (by rw [HL.out]; exact hbig)])
    go_enter Tryd.func11, Tryd.ntmps11
    go_wp2
    go_ret3
    rw [HF.out]
    exact ⟨_, rfl, OT.nil _ _ _, Below.refl _ _⟩
  · have hbi : ¬ (16384 : Int) < s.size := by omega
    have HR := Lib.hid (show tokG (lst s) ((lst s).length + 1) (skP (lst s) 0) [] = res by rw [HR0.out, if_neg (by rw [HL.out]; exact hbig)])
    have CS0 := Lib.hid (fun W => skip_any s 0 W hs (Nat.zero_le _))
    obtain ⟨p0, hp0⟩ : ∃ z, skP (lst s) 0 = z := ⟨_, rfl⟩
    have HP0 := Lib.hid (show p0 ≤ s.size by have h := (HSK.out 0 (Nat.zero_le _)).2.1; rw [HL.out] at h; rw [← hp0]; exact h)
    rw [hp0] at HR CS0
    clear hp0 HR0
    go_enter Tryd.func11, Tryd.ntmps11
    go_wp2_with fail
    refine (CS0.out _).mono ?_
    rintro e w0 ⟨rfl, hw⟩
    replace hw := hw.symm
    subst hw
    go_wp2
    go_loopw [5, 6] (fun s5 s6 wr => ∃ (f k : Nat) (T : List Tk), s6 = .int .i64 (k : Int) ∧ k ≤ s.size ∧ s.size < f + k ∧ tokG (lst s) f k T = res ∧ wr.ownsRow w.heap.size 37 3 s5 T.length (T.flatMap Tk.cells) ∧ T.length ≤ k ∧ Below w.heap.size w wr) (fun _ s6 _ => s.size - (intOf s6).toNat)
    case atStart => exact ⟨_, p0, [], rfl, HP0.out, by rw [HL.out]; omega, HR.out, World.ownsRow_nil _ _ _ _, Nat.zero_le _, Below.refl _ _⟩
    case round =>
      obtain ⟨f, k, T, rfl, hkn, hf, hE, hO, hTk, hB⟩ := hrel
      have HE := Lib.hid hE
      have HO := Lib.hid hO
      have HB := Lib.hid hB
      have HFK := Lib.hid hf
      have HTK := Lib.hid hTk
      clear hE hO hB hf hTk
      have hk0 : (0 : Int) ≤ (k : Int) := by omega
      have hkn2 : (k : Int) ≤ s.size := by omega
      obtain ⟨g, hg⟩ : ∃ g, f = g + 1 := ⟨f - 1, by have := HFK.out; omega⟩
      subst hg
      by_cases hlt : k < s.size
      · have hkl : k < (lst s).length := by rw [HL.out]; exact hlt
        have hki : (k : Int) < s.size := by omega
        have HEQ := Lib.hid (show tokG (lst s) (g + 1) k T = if (nextR ((lst s).drop k)).e = 0 then tokG (lst s) g (skP (lst s) (k + (nextR ((lst s).drop k)).n)) (T ++ [⟨(nextR ((lst s).drop k)).k, (nextR ((lst s).drop k)).t, k⟩]) else ⟨[], k, (nextR ((lst s).drop k)).e⟩ by rw [tokG, if_pos hkl])
        have CN := Lib.hid (fun W (hW : LEnv W) => show Calls Tryd.prog 24 #[.string (s.extract k s.size)] W fun e w' => e = .returned (nextR ((lst s).drop k)).val ∧ Below W.heap.size W w' by
          have h := next_any (s.extract k s.size) W (by rw [ByteArray.size_extract]; omega) (by rw [ByteArray.size_extract]; omega) hW
          rw [lst_from] at h
          exact h)
        have HOKN := Lib.hid (fun h => next_ok ((lst s).drop k) (by rw [List.length_drop]; omega) h)
        rw [HE.out] at HEQ
        clear HE
        generalize nextR ((lst s).drop k) = X at *
        obtain ⟨xk, xt, xn, xe⟩ := X
        unfold TR.val at CN
        simp only at CN HEQ HOKN
        have HTC := Lib.hid (show (T ++ [(⟨xk, xt, k⟩ : Tk)]).flatMap Tk.cells = T.flatMap Tk.cells ++ [.int .i64 xk, .string ⟨xt.toArray⟩, .int .i64 (k : Int)] from tks_app T ⟨xk, xt, k⟩)
        obtain ⟨q, hq⟩ : ∃ q : ByteArray, (⟨xt.toArray⟩ : ByteArray) = q := ⟨_, rfl⟩
        rw [hq] at CN HTC
        clear hq
        have HEr := Lib.hid (HE0.out.below HB.out)
        go_wp2_with fail
        refine (CN.out _ HEr.out).mono ?_
        rintro e w2 ⟨rfl, hb2⟩
        have HO2 := Lib.hid (own_below HO.out hb2)
        have HB2 := Lib.hid (HB.out.trans (hb2.mono HB.out.size))
        clear hb2 HO HB HEr
        obtain ⟨W3, hW3⟩ : ∃ W, W = w2.alloc (.cells #[.int .i64 xk, .string q, .int .i64 0] 37) := ⟨_, rfl⟩
        have K3 := Lib.hid (show Blk W3 w2.heap.size 37 #[.int .i64 xk, .string q, .int .i64 0] by rw [hW3]; exact Blk.new _ _ _)
        have B3 := Lib.hid (show Below w2.heap.size w2 W3 by rw [hW3]; exact (Below.refl _ w2).alloc (Nat.le_refl _) _)
        by_cases h0 : xe = 0
        · subst h0
          obtain ⟨hn1, hn2⟩ := HOKN.out rfl
          rw [List.length_drop, HL.out] at hn2
          have hkx : k + xn ≤ s.size := by omega
          have HX1 := Lib.hid hn1
          clear hn1 hn2
          have hwk : IntKind.i64.wrap ((k : Int) + (xn : Int)) = (k : Int) + (xn : Int) := by rw [IntKind.wrap_i64]; omega
          have CSK := Lib.hid (fun W => show Calls Tryd.prog 23 #[.string s, .int .i64 ((k : Int) + (xn : Int))] W fun e w' => e = .returned (.int .i64 (skP (lst s) (k + xn) : Nat)) ∧ w' = W by
            have h := skip_any s (k + xn) W hs hkx
            rw [show ((k + xn : Nat) : Int) = (k : Int) + (xn : Int) by omega] at h
            exact h)
          have HP := Lib.hid (show k + xn ≤ skP (lst s) (k + xn) ∧ skP (lst s) (k + xn) ≤ s.size by
            have h := HSK.out (k + xn) hkx
            rw [HL.out] at h
            exact ⟨h.1, h.2.1⟩)
          have HE := Lib.hid (show tokG (lst s) g (skP (lst s) (k + xn)) (T ++ [⟨xk, xt, k⟩]) = res by rw [HEQ.out, if_pos rfl])
          clear HEQ HOKN
          generalize skP (lst s) (k + xn) = p at *
          have zf : ∀ j, W3.frozen? ⟨w2.heap.size, j, none⟩ = false := fun j => Joins.unfrozen_of_block K3.out _
          have c2 : W3.cell? ⟨w2.heap.size, 2, none⟩ = some (.int .i64 0) := K3.out.cell 2
          obtain ⟨W4, hW4⟩ : ∃ W, W = W3.setCell ⟨w2.heap.size, 2, none⟩ (.int .i64 (k : Int)) := ⟨_, rfl⟩
          have S := store_step K3.out 2 (.int .i64 (k : Int))
          rw [← hW4] at S
          have K4 : Hid (Blk W4 w2.heap.size 37 #[.int .i64 xk, .string q, .int .i64 (k : Int)]) := Lib.hid S.1
          have B4 := Lib.hid (S.2 _ _ B3.out (Nat.le_refl _))
          clear S
          go_upto_region 9 with fail
          rw [← hW3]
          clear hW3
          go_upto_region 10 with fail
          rw [← hW4]
          clear hW4 zf c2
          have d0 : W4.cell? ⟨w2.heap.size, 0, none⟩ = some (.int .i64 xk) := K4.out.cell 0
          have d1 : W4.cell? ⟨w2.heap.size, 1, none⟩ = some (.string q) := K4.out.cell 1
          have d2 : W4.cell? ⟨w2.heap.size, 2, none⟩ = some (.int .i64 (k : Int)) := K4.out.cell 2
          obtain ⟨W5, hW5⟩ : ∃ W, W = W4.alloc (.cells #[.int .i64 xk, .string q, .int .i64 (k : Int)] 37) := ⟨_, rfl⟩
          have HO5 := Lib.hid (show W5.ownsRow w.heap.size 37 3 _ T.length (T.flatMap Tk.cells) by rw [hW5]; exact (own_below HO2.out B4.out).alloc _)
          have HB5 := Lib.hid (show Below w.heap.size w W5 by rw [hW5]; exact (HB2.out.trans (B4.out.mono HB2.out.size)).alloc (Nat.le_trans HB2.out.size B4.out.size) _)
          have HN5 : Hid (Src Tryd.prog 3 23 (.slice (some ⟨W4.heap.size, 0, none⟩) 1 1) 1 [.int .i64 xk, .string q, .int .i64 (k : Int)] W5) := Lib.hid (src_blk (c := 1) Tryd.underlying23 rfl (tk_one ⟨xk, q.data.toList, k⟩) (show Blk W5 W4.heap.size 37 #[.int .i64 xk, .string q, .int .i64 (k : Int)] by rw [hW5]; exact Blk.new _ _ _))
          have HS5 := Lib.hid HB5.out.size
          have HTL := Lib.hid (show T.length ≤ 100000 by have := HTK.out; omega)
          have hT2 := HTL.out
          subst hW5
          go_wp2_with (at_builtin; go_loud (refine wpList_append_src _ rfl _ _ 23 23 rfl w.heap.size 37 i0 _ 3 32 Tryd.underlying23 hi hz0 hz1 hz2 rfl _ T.length _ rfl HO5.out _ 1 [.int .i64 xk, .string q, .int .i64 (k : Int)] rfl HN5.out ?c1 ?c2 HS5.out ?_))
          case c1 => unfold maxLen; omega
          case c2 => omega
          intro v' w6 own' hg _
          have HBn := Lib.hid (HB5.out.grown hg HS5.out (fun j hj => (HO5.out.lt j hj).1))
          rw [← HTC.out] at own'
          have HOn := Lib.hid (show w6.ownsRow w.heap.size 37 3 v' (T ++ [(⟨xk, xt, k⟩ : Tk)]).length ((T ++ [(⟨xk, xt, k⟩ : Tk)]).flatMap Tk.cells) by rw [List.length_append]; exact own')
          clear own' hg HO5 HB5 HN5 HS5 d0 d1 d2 hT2
          go_wp2_with fail
          refine (CSK.out _).mono ?_
          rintro e w7 ⟨rfl, hw⟩
          replace hw := hw.symm
          subst hw
          have hp2 := HP.out.2
          go_wp2
          go_roundw
          case rel => exact ⟨g, p, _, rfl, HP.out.2, by have h1 := HFK.out; have h2 := HP.out.1; have h3 := HX1.out; omega, HE.out, HOn.out, by rw [List.length_append]; show T.length + 1 ≤ p; have h1 := HTK.out; have h2 := HP.out.1; have h3 := HX1.out; omega, HBn.out⟩
          case measure => have h2 := HP.out.1; have h3 := HX1.out; simp only [intOf]; omega
        · have HF := Lib.hid (show (⟨[], k, xe⟩ : TS) = res by rw [HEQ.out, if_neg h0])
          go_upto_region 7 with fail
          rw [← hW3]
          clear hW3
          have HBF := Lib.hid (HB2.out.trans (B3.out.mono HB2.out.size))
          clear HEQ HOKN
          go_wp2
          go_ret3
          rw [← HF.out]
          exact ⟨_, rfl, OT.nil _ _ _, HBF.out⟩
      · obtain rfl : k = s.size := by omega
        have hle : ¬ (s.size : Int) < s.size := by omega
        have HF := Lib.hid (show (⟨T ++ [⟨0, [], s.size⟩], 0, 0⟩ : TS) = res by rw [← HE.out, tokG, if_neg (by rw [HL.out]; omega), HL.out])
        obtain ⟨W5, hW5⟩ : ∃ W, W = wr.alloc (.cells #[.int .i64 0, .string ⟨#[]⟩, .int .i64 (s.size : Int)] 37) := ⟨_, rfl⟩
        have HO5 := Lib.hid (show W5.ownsRow w.heap.size 37 3 _ T.length (T.flatMap Tk.cells) by rw [hW5]; exact HO.out.alloc _)
        have HB5 := Lib.hid (show Below w.heap.size w W5 by rw [hW5]; exact HB.out.alloc HB.out.size _)
        have HN5 : Hid (Src Tryd.prog 3 23 (.slice (some ⟨wr.heap.size, 0, none⟩) 1 1) 1 [.int .i64 0, .string ⟨#[]⟩, .int .i64 (s.size : Int)] W5) := Lib.hid (src_blk (c := 1) Tryd.underlying23 rfl (tk_one ⟨0, [], s.size⟩) (show Blk W5 wr.heap.size 37 #[.int .i64 0, .string ⟨#[]⟩, .int .i64 (s.size : Int)] by rw [hW5]; exact Blk.new _ _ _))
        have HS5 := Lib.hid HB5.out.size
        have hT2 : T.length ≤ 100000 := by have := HTK.out; omega
        have HTC := Lib.hid (show (T ++ [(⟨0, [], s.size⟩ : Tk)]).flatMap Tk.cells = T.flatMap Tk.cells ++ [.int .i64 0, .string ⟨#[]⟩, .int .i64 (s.size : Int)] from tks_app T ⟨0, [], s.size⟩)
        subst hW5
        go_wp2_with (at_builtin; go_loud (refine wpList_append_src _ rfl _ _ 23 23 rfl w.heap.size 37 i0 _ 3 32 Tryd.underlying23 hi hz0 hz1 hz2 rfl _ T.length _ rfl HO5.out _ 1 [.int .i64 0, .string ⟨#[]⟩, .int .i64 (s.size : Int)] rfl HN5.out ?c1 ?c2 HS5.out ?_))
        case c1 => unfold maxLen; omega
        case c2 => omega
        intro v' w6 own' hg _
        have HBn := Lib.hid (HB5.out.grown hg HS5.out (fun j hj => (HO5.out.lt j hj).1))
        rw [← HTC.out] at own'
        have HOn := Lib.hid (show OT 37 w6 w.heap.size v' (T ++ [(⟨0, [], s.size⟩ : Tk)]) by unfold OT; rw [List.length_append]; exact own')
        clear own' hg HO5 HB5 HN5 HS5 hT2
        go_wp2
        go_ret3
        rw [← HF.out]
        exact ⟨v', rfl, HOn.out, HBn.out⟩
end Go.Proofs.YtdkkflmhpncglaaDoor
