/- The walk of the law LexerQuote. -/
import Derived.Test.YtdkkflmhpncglaaDoorLxg
import Derived.Test.YtdkkflmhpncglaaDoorLxb
namespace Go.Proofs.YtdkkflmhpncglaaDoor
open Go.ChangeShapes Go.WideShapes Go.ChangeAt Go.RowKit Go.ChangeMaps

theorem litQ_dbl : ∀ (l : List UInt8), l.all prt = true → litQ (dbl l ++ [39]) = some (l, (dbl l).length + 1)
  | [], _ => rfl
  | c :: l, h => by
    rw [List.all_cons, Bool.and_eq_true] at h
    have ih := litQ_dbl l h.2
    rw [dbl_cons]
    by_cases hc : c = 39
    · subst hc
      rw [if_pos rfl]
      show litQ (39 :: 39 :: (dbl l ++ [39])) = some (39 :: l, _)
      rw [litQ.eq_def]
      have hp : prt 39 = true := by decide
      simp only [hp, if_true, ih, Option.map_some]
      rfl
    · rw [if_neg hc]
      show litQ (c :: (dbl l ++ [39])) = some (c :: l, _)
      rw [litQ.eq_def]
      simp only [h.1, if_true, if_neg hc, ih, Option.map_some]
      rfl
theorem quo_len (l : List UInt8) : (quoL l).length = (dbl l).length + 2 := by simp [quoL]
theorem quo_litP (l : List UInt8) (h : l.all prt = true) : litP (quoL l) 1 [] = some (l, (quoL l).length) := by
  unfold litP
  show Option.map _ (litQ (dbl l ++ [39])) = _
  rw [litQ_dbl l h, quo_len]
  simp only [Option.map_some, List.nil_append]
  rw [show 1 + ((dbl l).length + 1) = (dbl l).length + 2 by omega]
theorem txt_parts {l : List UInt8} (h : txtL l = true) : l.length ≤ 16 ∧ l.all prt = true := by
  unfold txtL at h
  rw [Bool.and_eq_true, decide_eq_true_eq] at h
  exact h
theorem quo_unq (l : List UInt8) (h : txtL l = true) : unqL (quoL l) = some l := by
  obtain ⟨h1, h2⟩ := txt_parts h
  unfold unqL
  rw [if_pos (show (quoL l).head? = some 39 from rfl), quo_litP l h2]
  unfold unqR
  simp only [if_true]
  exact if_neg (by omega)
theorem skP_here (l : List UInt8) (h : l.head? = some 39) : skP l 0 = 0 := by
  rcases l with _ | ⟨c, l⟩
  · cases h
  · have hc : c = 39 := Option.some.inj h
    subst hc
    exact skP_stop (39 :: l) 0 (by simp) (show spcN (39 : UInt8).toNat = false by decide) (fun e => absurd (show (39 : UInt8) = 45 from e.1) (by decide))
theorem quo_next (l : List UInt8) (h : txtL l = true) : nextR (quoL l) = ⟨4, l, (quoL l).length, 0⟩ := by
  obtain ⟨h1, h2⟩ := txt_parts h
  have e : nextR (quoL l) = textR (quoL l) := rfl
  rw [e]
  unfold textR
  rw [quo_litP l h2]
  exact if_neg (by show ¬ 16 < l.length; omega)
theorem quo_tok (l : List UInt8) (h : txtL l = true) : tokL (quoL l) = ⟨[⟨4, l, 0⟩, ⟨0, [], (quoL l).length⟩], 0, 0⟩ := by
  obtain ⟨h1, h2⟩ := txt_parts h
  have hl := dbl_len l
  have hq := quo_len l
  have hn := quo_next l h
  have hs := skP_here (quoL l) rfl
  have he : skP (quoL l) (quoL l).length = (quoL l).length := skQ_end false _ _ (Nat.le_refl _)
  generalize hg : quoL l = q at *
  unfold tokL
  rw [if_neg (by omega), hs]
  obtain ⟨f, hf⟩ : ∃ f, q.length = f + 1 := ⟨q.length - 1, by omega⟩
  rw [tokG, if_pos (by omega), List.drop_zero, hn, if_pos rfl]
  show tokG q q.length (skP q (0 + q.length)) _ = _
  rw [Nat.zero_add, he]
  conv => lhs; arg 2; rw [hf]
  rw [tokG, if_neg (by omega)]
  rfl
set_option maxRecDepth 100000 in
set_option maxHeartbeats 2000000 in
theorem lexerQuote_walk (s : ByteArray) (w : World) (hs : s.size ≤ 140737488351232) (hE : LEnv w) : Calls Tryd.prog 8 #[.string s] w fun e w' => e = .returned (.bool true) ∧ Below w.heap.size w w' := by
  have HE := Lib.hid hE
  clear hE
  have AW := Lib.hid (fun W hW => awake_any W hW)
  have B1 := Lib.hid (Below.refl w.heap.size w)
  by_cases h200 : 200 < s.size
  · have t1 : decide ((200 : Int) < s.size) = true := decide_eq_true (by omega)
    go_enter Tryd.func8, Tryd.ntmps8
    go_wp2_with fail
    refine (AW.out _ (HE.out.below B1.out)).mono ?_
    rintro e w1 ⟨rfl, hb⟩
    have B1 := Lib.hid (B1.out.trans (hb.mono B1.out.size))
    clear hb
    go_wp2_with fail
    refine (AW.out _ (HE.out.below B1.out)).mono ?_
    rintro e w2 ⟨rfl, hb⟩
    have B1 := Lib.hid (B1.out.trans (hb.mono B1.out.size))
    clear hb
    go_wp2
    go_ret
    exact ⟨rfl, B1.out⟩
  · have t1 : decide ((200 : Int) < s.size) = false := decide_eq_false (by omega)
    have CQ := Lib.hid (fun W hW => Quote_any s W (by omega) hW)
    have CRQ := Lib.hid (fun W => RQuote_any s W (by omega))
    have CRT := Lib.hid (fun W => RText_any s W (by omega))
    cases ht : txtL (lst s)
    · have hql : QuoteL (lst s) = [] := by unfold QuoteL; rw [ht]; rfl
      rw [ht] at CRT
      rw [hql] at CQ CRQ
      have CU := Lib.hid (show ∀ W, LEnv W → Calls Tryd.prog 20 #[.string ⟨#[]⟩] W fun e w' => e = .returned (.tuple #[.string ⟨#[]⟩, .int .i64 2]) ∧ Below W.heap.size W w' from fun W hW => Unquote_any ⟨#[]⟩ W (by decide) hW)
      have CT := Lib.hid (show ∀ W, LEnv W → Calls Tryd.prog 11 #[.string ⟨#[]⟩] W fun e w' => ∃ A n c, e = .returned (.tuple #[.slice A n c, .int .i64 0, .int .i64 0]) ∧ Below W.heap.size W w' from fun W hW => (Tokens_any ⟨#[]⟩ W (by decide) hW).mono (fun e w' ⟨v, h1, h2, h3⟩ => by
        obtain ⟨A, c, h4, -⟩ := OT.tks h2
        exact ⟨A, _, c, by rw [h1, h4]; rfl, h3⟩))
      go_enter Tryd.func8, Tryd.ntmps8
      go_wp2_with fail
      refine (AW.out _ (HE.out.below B1.out)).mono ?_
      rintro e w1 ⟨rfl, hb⟩
      have B1 := Lib.hid (B1.out.trans (hb.mono B1.out.size))
      clear hb
      go_wp2_with fail
      refine (CQ.out _ (HE.out.below B1.out)).mono ?_
      rintro e w2 ⟨rfl, hb⟩
      have B1 := Lib.hid (B1.out.trans (hb.mono B1.out.size))
      clear hb
      go_wp2_with fail
      refine (CRQ.out _).mono ?_
      rintro e w3 ⟨rfl, hw⟩
      replace hw := hw.symm
      subst hw
      go_wp2_with fail
      refine (CU.out _ (HE.out.below B1.out)).mono ?_
      rintro e w4 ⟨rfl, hb⟩
      have B1 := Lib.hid (B1.out.trans (hb.mono B1.out.size))
      clear hb
      go_wp2_with fail
      refine (CT.out _ (HE.out.below B1.out)).mono ?_
      rintro e w5 ⟨A, n, c, rfl, hb⟩
      have B1 := Lib.hid (B1.out.trans (hb.mono B1.out.size))
      clear hb
      go_wp2_with fail
      refine (CRT.out _).mono ?_
      rintro e w6 ⟨rfl, hw⟩
      replace hw := hw.symm
      subst hw
      go_wp2
      go_ret
      exact ⟨rfl, B1.out⟩
    · have hql : QuoteL (lst s) = quoL (lst s) := by unfold QuoteL; rw [ht]; rfl
      rw [ht] at CRT
      rw [hql] at CQ CRQ
      have HDL := Lib.hid (show (quoL (lst s)).length ≤ 1000 by rw [quo_len]; have h1 := dbl_len (lst s); have h2 := (txt_parts ht).1; omega)
      have CU := Lib.hid (show ∀ W, LEnv W → Calls Tryd.prog 20 #[.string ⟨(quoL (lst s)).toArray⟩] W fun e w' => e = .returned (.tuple #[.string s, .int .i64 0]) ∧ Below W.heap.size W w' from fun W hW => by
        have h := Unquote_any ⟨(quoL (lst s)).toArray⟩ W HDL.out hW
        rw [show lst ⟨(quoL (lst s)).toArray⟩ = quoL (lst s) from rfl, quo_unq _ ht] at h
        unfold unqV at h
        simp only [of_lst] at h
        exact h)
      have CT := Lib.hid (show ∀ W, LEnv W → Calls Tryd.prog 11 #[.string ⟨(quoL (lst s)).toArray⟩] W fun e w' => ∃ b off c, e = .returned (.tuple #[.slice (some ⟨b, off, none⟩) 2 c, .int .i64 0, .int .i64 0]) ∧ (w'.cell? ⟨b, off, none⟩ = some (.int .i64 4) ∧ w'.cell? ⟨b, off + 1, none⟩ = some (.string s) ∧ w'.cell? ⟨b, off + 2, none⟩ = some (.int .i64 0)) ∧ Below W.heap.size W w' from fun W hW => by
        have h := Tokens_any ⟨(quoL (lst s)).toArray⟩ W (by have := HDL.out; show (quoL (lst s)).length ≤ _; omega) hW
        rw [show lst ⟨(quoL (lst s)).toArray⟩ = quoL (lst s) from rfl, quo_tok _ ht] at h
        refine h.mono (fun e w' ⟨v, h1, h2, h3⟩ => ?_)
        obtain ⟨A, c, h4, h5, -⟩ := OT.tks h2
        obtain ⟨b, off, h6, -, h7⟩ := h5.at (by show 0 < 2; decide)
        obtain ⟨g0, g1, g2⟩ := h7 w' (Below.refl _ _) 0 (by show 0 < 2; decide)
        rw [Nat.zero_mul, Nat.add_zero] at g0 g1 g2
        simp only [List.getElem_cons_zero, of_lst] at g0 g1 g2
        exact ⟨b, off, c, by rw [h1, h4, h6]; rfl, ⟨g0, g1, g2⟩, h3⟩)
      obtain ⟨q, hq⟩ : ∃ q : ByteArray, (⟨(quoL (lst s)).toArray⟩ : ByteArray) = q := ⟨_, rfl⟩
      rw [hq] at CQ CRQ CU CT
      clear hq HDL hql
      go_enter Tryd.func8, Tryd.ntmps8
      go_wp2_with fail
      refine (AW.out _ (HE.out.below B1.out)).mono ?_
      rintro e w1 ⟨rfl, hb⟩
      have B1 := Lib.hid (B1.out.trans (hb.mono B1.out.size))
      clear hb
      go_wp2_with fail
      refine (CQ.out _ (HE.out.below B1.out)).mono ?_
      rintro e w2 ⟨rfl, hb⟩
      have B1 := Lib.hid (B1.out.trans (hb.mono B1.out.size))
      clear hb
      go_wp2_with fail
      refine (CRQ.out _).mono ?_
      rintro e w3 ⟨rfl, hw⟩
      replace hw := hw.symm
      subst hw
      go_wp2_with fail
      refine (CU.out _ (HE.out.below B1.out)).mono ?_
      rintro e w4 ⟨rfl, hb⟩
      have B1 := Lib.hid (B1.out.trans (hb.mono B1.out.size))
      clear hb
      go_wp2_with fail
      refine (CT.out _ (HE.out.below B1.out)).mono ?_
      rintro e w5 ⟨b, off, c, rfl, ⟨g0, g1, g2⟩, hb⟩
      have B1 := Lib.hid (B1.out.trans (hb.mono B1.out.size))
      clear hb
      go_wp2_with fail
      refine (CRT.out _).mono ?_
      rintro e w6 ⟨rfl, hw⟩
      replace hw := hw.symm
      subst hw
      go_wp2
      go_ret
      exact ⟨rfl, B1.out⟩
end Go.Proofs.YtdkkflmhpncglaaDoor
