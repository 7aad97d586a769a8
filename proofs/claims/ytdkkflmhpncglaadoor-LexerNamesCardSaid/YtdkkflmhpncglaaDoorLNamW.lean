/- The walk of the law LexerNames. -/
import Derived.Test.YtdkkflmhpncglaaDoorLxg
import Derived.Test.YtdkkflmhpncglaaDoorLxj
import Derived.Laws.RangeAny
namespace Go.Proofs.YtdkkflmhpncglaaDoor
open Go.ChangeShapes Go.WideShapes Go.ChangeAt Go.RowKit Go.ChangeMaps

theorem tw_full (p : UInt8 → Bool) : ∀ (l : List UInt8), (∀ c ∈ l, p c = true) → l.takeWhile p = l
  | [], _ => rfl
  | a :: l, h => by rw [List.takeWhile_cons, if_pos (h a (List.mem_cons_self)), tw_full p l (fun c hc => h c (List.mem_cons_of_mem _ hc))]
theorem run_full (p : UInt8 → Bool) (l : List UInt8) (h : ∀ c ∈ l, p c = true) : runP p l 0 = l.length := by
  unfold runP
  rw [List.drop_zero, tw_full p l h, Nat.zero_add]
theorem word_tok (a : UInt8) (l : List UInt8) (ha : ltrN a.toNat = true) (h : ∀ c ∈ a :: l, wrd c = true) (hl : (a :: l).length ≤ 16384) (k : Int) (t : List UInt8) (hw : wordAt (a :: l) (a :: l).length = ⟨k, t, (a :: l).length, 0⟩) :
    tokL (a :: l) = ⟨[⟨k, t, 0⟩, ⟨0, [], (a :: l).length⟩], 0, 0⟩ := by
  have hn : nextR (a :: l) = ⟨k, t, (a :: l).length, 0⟩ := by
    unfold nextR
    rw [if_pos (show ltrN ((a :: l).getD 0 0).toNat = true from ha)]
    unfold wordR
    rw [run_full wrd _ h, List.take_length, hw]
  have hs : skP (a :: l) 0 = 0 := by
    refine skP_stop (a :: l) 0 (by simp) ?_ (fun e => ?_)
    · show spcN a.toNat = false
      simp only [ltrN, Bool.or_eq_true, Bool.and_eq_true, decide_eq_true_eq] at ha
      simp only [spcN, Bool.or_eq_false_iff, beq_eq_false_iff_ne]
      omega
    · have e1 : a = 45 := e.1
      rw [e1] at ha
      exact absurd ha (by decide)
  have he : skP (a :: l) (a :: l).length = (a :: l).length := skQ_end false _ _ (Nat.le_refl _)
  have hq : 1 ≤ (a :: l).length := by simp
  generalize hg : a :: l = q at *
  unfold tokL
  rw [if_neg (by omega), hs]
  obtain ⟨f, hf⟩ : ∃ f, q.length = f + 1 := ⟨q.length - 1, by omega⟩
  rw [tokG, if_pos (by omega), List.drop_zero, hn, if_pos rfl]
  show tokG q q.length (skP q (0 + q.length)) _ = _
  rw [Nat.zero_add, he]
  conv => lhs; arg 2; rw [hf]
  rw [tokG, if_neg (by omega)]
  rfl
theorem nmc_wrd {c : UInt8} (h : nmc c = true) : wrd c = true := by
  simp only [nmc, lowN, Bool.or_eq_true, Bool.and_eq_true, decide_eq_true_eq, beq_iff_eq] at h
  simp only [wrd, ltrN, Bool.or_eq_true, Bool.and_eq_true, decide_eq_true_eq, beq_iff_eq]
  rcases h with (h | h) | h
  · exact .inl (.inl (.inl h))
  · exact .inl (.inr h)
  · exact .inr h
theorem nmc_lo {c : UInt8} (h : nmc c = true) : loB c = c := by
  unfold loB
  simp only [nmc, lowN, dgtN, Bool.or_eq_true, Bool.and_eq_true, decide_eq_true_eq, beq_iff_eq] at h
  rw [if_neg (by omega)]
theorem name_tok (l : List UInt8) (h : nameL l = true) : tokL l = ⟨[⟨1, l, 0⟩, ⟨0, [], l.length⟩], 0, 0⟩ := by
  unfold nameL at h
  rw [Bool.and_eq_true, Bool.and_eq_true, Bool.and_eq_true, decide_eq_true_eq] at h
  obtain ⟨⟨h24, hh⟩, hall, hk⟩ := h
  rcases l with _ | ⟨a, l⟩
  · cases hh
  · have hall2 : ∀ c ∈ a :: l, nmc c = true := List.all_eq_true.1 hall
    have hlo : lowN a.toNat = true := hh
    have hm : (a :: l).map loB = a :: l := by
      have : ∀ m : List UInt8, (∀ c ∈ m, nmc c = true) → m.map loB = m := fun m hm => by
        induction m with
        | nil => rfl
        | cons x m ih => rw [List.map_cons, nmc_lo (hm x List.mem_cons_self), ih (fun c hc => hm c (List.mem_cons_of_mem _ hc))]
      exact this _ hall2
    refine word_tok a l ?_ (fun c hc => nmc_wrd (hall2 c hc)) (by omega) 1 _ ?_
    · simp only [lowN, Bool.and_eq_true, decide_eq_true_eq] at hlo
      simp only [ltrN, Bool.or_eq_true, Bool.and_eq_true, decide_eq_true_eq]
      exact .inl hlo
    · unfold wordAt
      rw [if_neg (by simpa using hk), if_neg (by omega), hm]
def upc (c : UInt8) : Bool := decide (65 ≤ c.toNat) && decide (c.toNat ≤ 90)
theorem kws_up : (KWS.all fun k => (k.all upc && decide (k.length ≤ 16)) && decide (1 ≤ k.length)) = true := by kernel_rfl
theorem up_ltr {c : UInt8} (h : upc (upB c) = true) : ltrN c.toNat = true := by
  simp only [ltrN, Bool.or_eq_true, Bool.and_eq_true, decide_eq_true_eq]
  by_cases h2 : 97 ≤ c.toNat ∧ c.toNat ≤ 122
  · exact .inl ⟨by omega, by omega⟩
  · have e : upB c = c := if_neg h2
    rw [e] at h
    unfold upc at h
    rw [Bool.and_eq_true, decide_eq_true_eq, decide_eq_true_eq] at h
    exact .inr ⟨by omega, by omega⟩
theorem up_up {c : UInt8} (h : upc c = true) : upB c = c := by
  simp only [upc, Bool.and_eq_true, decide_eq_true_eq] at h
  unfold upB
  rw [if_neg (by omega)]
theorem kw_tok (l : List UInt8) (h : kwL (l.map upB) = true) : tokL l = ⟨[⟨2, l.map upB, 0⟩, ⟨0, [], l.length⟩], 0, 0⟩ ∧ kwL ((l.map upB).map upB) = true ∧ l.length ≤ 16 := by
  have hm := kw_some h
  have hp := List.all_eq_true.1 kws_up _ hm
  rw [Bool.and_eq_true, Bool.and_eq_true, decide_eq_true_eq, decide_eq_true_eq, List.length_map] at hp
  obtain ⟨⟨hu, h16⟩, h1⟩ := hp
  have hu2 : ∀ c ∈ l, upc (upB c) = true := fun c hc => List.all_eq_true.1 hu _ (List.mem_map_of_mem hc)
  have e2 : (l.map upB).map upB = l.map upB := by
    rw [List.map_map]
    exact List.map_congr_left (fun c hc => up_up (hu2 c hc))
  refine ⟨?_, by rw [e2]; exact h, h16⟩
  rcases l with _ | ⟨a, l⟩
  · exact absurd h1 (by decide)
  · refine word_tok a l (up_ltr (hu2 a List.mem_cons_self)) (fun c hc => ?_) (by omega) 2 _ ?_
    · unfold wrd
      rw [up_ltr (hu2 c hc)]
      rfl
    · unfold wordAt
      rw [if_pos h]
theorem enc_high {z : Int} (h : 128 ≤ z) : ∃ d r, Lib.encodeRune z = d :: r ∧ 128 ≤ d.toNat := by
  have big : ∀ x : Int, 128 ≤ x → x < 256 → 128 ≤ (x.toNat.toUInt8).toNat := fun x h1 h2 => by
    show 128 ≤ x.toNat % 256
    omega
  by_cases h1 : z ≤ 2047
  · exact ⟨_, _, by unfold Lib.encodeRune; rw [Lib.encodeRuneZ_two h h1]; rfl, big _ (by omega) (by omega)⟩
  · by_cases h2 : (2048 ≤ z ∧ z < 55296) ∨ (57343 < z ∧ z ≤ 65535)
    · exact ⟨_, _, by unfold Lib.encodeRune; rw [Lib.encodeRuneZ_three h2]; rfl, big _ (by omega) (by omega)⟩
    · by_cases h3 : 65536 ≤ z ∧ z ≤ 1114111
      · exact ⟨_, _, by unfold Lib.encodeRune; rw [Lib.encodeRuneZ_four h3.1 h3.2]; rfl, big _ (by omega) (by omega)⟩
      · exact ⟨_, _, by unfold Lib.encodeRune; rw [Lib.encodeRuneZ_bad (by omega)]; rfl, big 239 (by omega) (by omega)⟩
theorem up_high : ∀ (l : List UInt8), (∃ c ∈ l, 128 ≤ c.toNat) → ∃ d ∈ Lib.mapD upF l, 128 ≤ d.toNat
  | [], ⟨c, hc, _⟩ => by cases hc
  | a :: l, ⟨c, hc, h⟩ => by
    rw [Lib.mapD_step upF _ (by simp)]
    by_cases ha : a.toNat < 128
    · rw [Lib.decodeL_ascii a l ha]
      obtain ⟨d, hd, h2⟩ := up_high l ⟨c, by
        rcases List.mem_cons.1 hc with rfl | h3
        · omega
        · exact h3, h⟩
      exact ⟨d, List.mem_append_right _ hd, h2⟩
    · have hr : 128 ≤ (Lib.decodeL (a :: l)).1 := (decode_high ⟨(a :: l).toArray⟩ 0 (by show 0 < (a :: l).length; simp) (by show 128 ≤ a.toNat; omega)).1
      generalize (Lib.decodeL (a :: l)).1 = r at *
      have e : upF (r : Int) = r := if_neg (by omega)
      rw [e, if_pos (by omega)]
      obtain ⟨d, m, hd, h2⟩ := enc_high (z := (r : Int)) (by omega)
      rw [hd]
      exact ⟨d, List.mem_append_left _ List.mem_cons_self, h2⟩
theorem kw_high (l : List UInt8) (h : ∃ c ∈ l, 128 ≤ c.toNat) : kwL l = false := by
  cases hk : kwL l with
  | false => rfl
  | true =>
    obtain ⟨c, hc, h2⟩ := h
    have hp := List.all_eq_true.1 kws_up _ (kw_some hk)
    rw [Bool.and_eq_true, Bool.and_eq_true] at hp
    have h3 := List.all_eq_true.1 hp.1.1 c hc
    unfold upc at h3
    rw [Bool.and_eq_true, decide_eq_true_eq, decide_eq_true_eq] at h3
    omega
theorem kw_same (l : List UInt8) : kwL (Lib.mapD upF l) = kwL (l.map upB) := by
  by_cases h : ∀ c ∈ l, c.toNat < 128
  · rw [map_up l h]
  · have h2 : ∃ c ∈ l, 128 ≤ c.toNat := by
      apply Classical.byContradiction
      intro h3
      exact h (fun c hc => by
        rcases Nat.lt_or_ge c.toNat 128 with h4 | h4
        · exact h4
        · exact absurd ⟨c, hc, h4⟩ h3)
    rw [kw_high _ (up_high l h2)]
    obtain ⟨c, hc, h4⟩ := h2
    rw [kw_high _ ⟨upB c, List.mem_map_of_mem hc, by
      have e : upB c = c := if_neg (by omega)
      rw [e]
      exact h4⟩]
theorem lKw_any (s : ByteArray) (w : World) (hs : s.size ≤ 100000) (hE : LEnv w) : Calls Tryd.prog 16 #[.string s] w fun e w' => e = .returned (.bool (kwL ((lst s).map upB))) ∧ Below w.heap.size w w' := by
  rw [← kw_same]
  exact lIsKeyword_any s w hs hE
theorem tok_two (s : ByteArray) (hs : s.size ≤ 100000) (k : Int) (t : List UInt8) (n : Nat) (h : tokL (lst s) = ⟨[⟨k, t, 0⟩, ⟨0, [], n⟩], 0, 0⟩) (W : World) (hW : LEnv W) :
    Calls Tryd.prog 11 #[.string s] W fun e w' => ∃ b off c, e = .returned (.tuple #[.slice (some ⟨b, off, none⟩) 2 c, .int .i64 0, .int .i64 0]) ∧ (w'.cell? ⟨b, off, none⟩ = some (.int .i64 k) ∧ w'.cell? ⟨b, off + 1, none⟩ = some (.string ⟨t.toArray⟩) ∧ w'.cell? ⟨b, off + 2, none⟩ = some (.int .i64 0)) ∧ Below W.heap.size W w' := by
  have h0 := Tokens_any s W hs hW
  rw [h] at h0
  refine h0.mono (fun e w' ⟨v, h1, h2, h3⟩ => ?_)
  obtain ⟨A, c, h4, h5, -⟩ := OT.tks h2
  obtain ⟨b, off, h6, -, h7⟩ := h5.at (by show 0 < 2; decide)
  obtain ⟨g0, g1, g2⟩ := h7 w' (Below.refl _ _) 0 (by show 0 < 2; decide)
  rw [Nat.zero_mul, Nat.add_zero] at g0 g1 g2
  exact ⟨b, off, c, by rw [h1, h4, h6]; rfl, ⟨g0, g1, g2⟩, h3⟩
set_option maxRecDepth 100000 in
set_option maxHeartbeats 2000000 in
theorem lexerNames_walk (s : ByteArray) (w : World) (hs : s.size ≤ 140737488351232) (hE : LEnv w) : Calls Tryd.prog 7 #[.string s] w fun e w' => e = .returned (.bool true) ∧ Below w.heap.size w w' := by
  have HE := Lib.hid hE
  clear hE
  have AW := Lib.hid (fun W hW => awake_any W hW)
  have B1 := Lib.hid (Below.refl w.heap.size w)
  by_cases h200 : 200 < s.size
  · have t1 : decide ((200 : Int) < s.size) = true := decide_eq_true (by omega)
    go_enter Tryd.func7, Tryd.ntmps7
    go_wp2_with fail
    refine (AW.out _ (HE.out.below B1.out)).mono ?_
    rintro e w1 ⟨rfl, hb⟩
    have B1 := Lib.hid (B1.out.trans (hb.mono B1.out.size))
    clear hb
    go_wp2_with fail
    refine (AW.out _ (HE.out.below B1.out)).mono ?_
    rintro e w2 ⟨rfl, hb⟩
    have B1 := Lib.hid (B1.out.trans (hb.mono B1.out.size))
    clear hb
    go_wp2
    go_ret
    exact ⟨rfl, B1.out⟩
  · have t1 : decide ((200 : Int) < s.size) = false := decide_eq_false (by omega)
    have CI := Lib.hid (fun W hW => IsName_any s W (by omega) hW)
    have CJ := Lib.hid (fun W => RIsName_any s W (by omega))
    have CK := Lib.hid (fun W hW => lKw_any s W (by omega) hW)
    have CL := Lib.hid (fun W => rIsKeyword_any s W (by omega))
    cases hn : nameL (lst s)
    · rw [hn] at CI CJ
      cases hk : kwL ((lst s).map upB)
      · rw [hk] at CK CL
        have CT := Lib.hid (show ∀ W, LEnv W → Calls Tryd.prog 11 #[.string s] W fun e w' => ∃ A n c x y, e = .returned (.tuple #[.slice A n c, .int .i64 x, .int .i64 y]) ∧ Below W.heap.size W w' from fun W hW => (Tokens_any s W (by omega) hW).mono (fun e w' ⟨v, h1, h2, h3⟩ => by
          obtain ⟨A, c, h4, -⟩ := OT.tks h2
          exact ⟨A, _, c, _, _, by rw [h1, h4], h3⟩))
        go_enter Tryd.func7, Tryd.ntmps7
        go_wp2_with fail
        refine (AW.out _ (HE.out.below B1.out)).mono ?_
        rintro e w1 ⟨rfl, hb⟩
        have B1 := Lib.hid (B1.out.trans (hb.mono B1.out.size))
        clear hb
        go_wp2_with fail
        refine (CI.out _ (HE.out.below B1.out)).mono ?_
        rintro e w2 ⟨rfl, hb⟩
        have B1 := Lib.hid (B1.out.trans (hb.mono B1.out.size))
        clear hb
        go_wp2_with fail
        refine (CJ.out _).mono ?_
        rintro e w3 ⟨rfl, hb⟩
        have B1 := Lib.hid (B1.out.trans (hb.mono B1.out.size))
        clear hb
        go_wp2_with fail
        refine (CK.out _ (HE.out.below B1.out)).mono ?_
        rintro e w4 ⟨rfl, hb⟩
        have B1 := Lib.hid (B1.out.trans (hb.mono B1.out.size))
        clear hb
        go_wp2_with fail
        refine (CL.out _).mono ?_
        rintro e w5 ⟨rfl, hb⟩
        have B1 := Lib.hid (B1.out.trans (hb.mono B1.out.size))
        clear hb
        go_wp2_with fail
        refine (CT.out _ (HE.out.below B1.out)).mono ?_
        rintro e w6 ⟨A, n, c, x, y, rfl, hb⟩
        have B1 := Lib.hid (B1.out.trans (hb.mono B1.out.size))
        clear hb
        go_wp2_with fail
        refine (CJ.out _).mono ?_
        rintro e w7 ⟨rfl, hb⟩
        have B1 := Lib.hid (B1.out.trans (hb.mono B1.out.size))
        clear hb
        go_wp2_with fail
        refine (CL.out _).mono ?_
        rintro e w8 ⟨rfl, hb⟩
        have B1 := Lib.hid (B1.out.trans (hb.mono B1.out.size))
        clear hb
        go_wp2
        go_ret
        exact ⟨rfl, B1.out⟩
      · obtain ⟨e1, e2, h16⟩ := kw_tok (lst s) hk
        have CT := Lib.hid (fun W hW => tok_two s (by omega) _ _ _ e1 W hW)
        have CV := Lib.hid (show ∀ W, LEnv W → Calls Tryd.prog 16 #[.string ⟨((lst s).map upB).toArray⟩] W fun e w' => e = .returned (.bool true) ∧ Below W.heap.size W w' from fun W hW => by
          have h := lKw_any ⟨((lst s).map upB).toArray⟩ W (by show ((lst s).map upB).length ≤ _; rw [List.length_map]; omega) hW
          rw [show lst ⟨((lst s).map upB).toArray⟩ = (lst s).map upB from rfl, e2] at h
          exact h)
        rw [hk] at CK CL
        obtain ⟨q, hq⟩ : ∃ q : ByteArray, (⟨((lst s).map upB).toArray⟩ : ByteArray) = q := ⟨_, rfl⟩
        rw [hq] at CT CV
        clear hq e1 e2
        go_enter Tryd.func7, Tryd.ntmps7
        go_wp2_with fail
        refine (AW.out _ (HE.out.below B1.out)).mono ?_
        rintro e w1 ⟨rfl, hb⟩
        have B1 := Lib.hid (B1.out.trans (hb.mono B1.out.size))
        clear hb
        go_wp2_with fail
        refine (CI.out _ (HE.out.below B1.out)).mono ?_
        rintro e w2 ⟨rfl, hb⟩
        have B1 := Lib.hid (B1.out.trans (hb.mono B1.out.size))
        clear hb
        go_wp2_with fail
        refine (CJ.out _).mono ?_
        rintro e w3 ⟨rfl, hb⟩
        have B1 := Lib.hid (B1.out.trans (hb.mono B1.out.size))
        clear hb
        go_wp2_with fail
        refine (CK.out _ (HE.out.below B1.out)).mono ?_
        rintro e w4 ⟨rfl, hb⟩
        have B1 := Lib.hid (B1.out.trans (hb.mono B1.out.size))
        clear hb
        go_wp2_with fail
        refine (CL.out _).mono ?_
        rintro e w5 ⟨rfl, hb⟩
        have B1 := Lib.hid (B1.out.trans (hb.mono B1.out.size))
        clear hb
        go_wp2_with fail
        refine (CT.out _ (HE.out.below B1.out)).mono ?_
        rintro e w6 ⟨b, off, c, rfl, ⟨g0, g1, g2⟩, hb⟩
        have B1 := Lib.hid (B1.out.trans (hb.mono B1.out.size))
        clear hb
        go_wp2_with fail
        refine (CJ.out _).mono ?_
        rintro e w7 ⟨rfl, hb⟩
        have B1 := Lib.hid (B1.out.trans (hb.mono B1.out.size))
        have g0 := keepcell hb g0
        have g1 := keepcell hb g1
        have g2 := keepcell hb g2
        clear hb
        go_wp2_with fail
        refine (CL.out _).mono ?_
        rintro e w8 ⟨rfl, hb⟩
        have B1 := Lib.hid (B1.out.trans (hb.mono B1.out.size))
        have g0 := keepcell hb g0
        have g1 := keepcell hb g1
        have g2 := keepcell hb g2
        clear hb
        go_wp2_with fail
        refine (CV.out _ (HE.out.below B1.out)).mono ?_
        rintro e w9 ⟨rfl, hb⟩
        have B1 := Lib.hid (B1.out.trans (hb.mono B1.out.size))
        have g0 := keepcell hb g0
        have g1 := keepcell hb g1
        have g2 := keepcell hb g2
        clear hb
        go_wp2
        go_ret
        exact ⟨rfl, B1.out⟩
    · rw [hn] at CI CJ
      have CT := Lib.hid (fun W hW => tok_two s (by omega) _ _ _ (name_tok (lst s) hn) W hW)
      rw [of_lst] at CT
      generalize kwL ((lst s).map upB) = kw at *
      cases kw
      all_goals
        go_enter Tryd.func7, Tryd.ntmps7
        go_wp2_with fail
        refine (AW.out _ (HE.out.below B1.out)).mono ?_
        rintro e w1 ⟨rfl, hb⟩
        have B1 := Lib.hid (B1.out.trans (hb.mono B1.out.size))
        clear hb
        go_wp2_with fail
        refine (CI.out _ (HE.out.below B1.out)).mono ?_
        rintro e w2 ⟨rfl, hb⟩
        have B1 := Lib.hid (B1.out.trans (hb.mono B1.out.size))
        clear hb
        go_wp2_with fail
        refine (CJ.out _).mono ?_
        rintro e w3 ⟨rfl, hb⟩
        have B1 := Lib.hid (B1.out.trans (hb.mono B1.out.size))
        clear hb
        go_wp2_with fail
        refine (CK.out _ (HE.out.below B1.out)).mono ?_
        rintro e w4 ⟨rfl, hb⟩
        have B1 := Lib.hid (B1.out.trans (hb.mono B1.out.size))
        clear hb
        go_wp2_with fail
        refine (CL.out _).mono ?_
        rintro e w5 ⟨rfl, hb⟩
        have B1 := Lib.hid (B1.out.trans (hb.mono B1.out.size))
        clear hb
        go_wp2_with fail
        refine (CT.out _ (HE.out.below B1.out)).mono ?_
        rintro e w6 ⟨b, off, c, rfl, ⟨g0, g1, g2⟩, hb⟩
        have B1 := Lib.hid (B1.out.trans (hb.mono B1.out.size))
        clear hb
        go_wp2_with fail
        refine (CJ.out _).mono ?_
        rintro e w7 ⟨rfl, hb⟩
        have B1 := Lib.hid (B1.out.trans (hb.mono B1.out.size))
        have g0 := keepcell hb g0
        have g1 := keepcell hb g1
        have g2 := keepcell hb g2
        clear hb
        go_wp2
        go_ret
        exact ⟨rfl, B1.out⟩
end Go.Proofs.YtdkkflmhpncglaaDoor
