/- The tokens of a text: runs, concatenation, offsets. -/
import Derived.Test.YtdkkflmhpncglaaDoorLxg
import Derived.Test.YtdkkflmhpncglaaDoorLre
namespace Go.Proofs.YtdkkflmhpncglaaDoor
open Go.ChangeShapes Go.WideShapes Go.ChangeAt Go.RowKit Go.ChangeMaps

/-- The tokens from position k on (without the end). -/
inductive Run (l : List UInt8) : Nat → List Tk → Prop
  | done {k : Nat} : l.length ≤ k → Run l k []
  | step {k : Nat} {X : List Tk} : k < l.length → (nextR (l.drop k)).e = 0 → Run l (skP l (k + (nextR (l.drop k)).n)) X → Run l k (⟨(nextR (l.drop k)).k, (nextR (l.drop k)).t, k⟩ :: X)
theorem next_bd (l : List UInt8) (k : Nat) (hk : k < l.length) (he : (nextR (l.drop k)).e = 0) : k < skP l (k + (nextR (l.drop k)).n) ∧ skP l (k + (nextR (l.drop k)).n) ≤ l.length ∧ k + (nextR (l.drop k)).n ≤ l.length := by
  have h := next_ok (l.drop k) (by rw [List.length_drop]; omega) he
  rw [List.length_drop] at h
  have h2 := skQ_spec false l (k + (nextR (l.drop k)).n) (by omega)
  unfold skP
  exact ⟨by omega, h2.2.1, by omega⟩
theorem run_of (l : List UInt8) : ∀ (f k : Nat) (T : List Tk), k ≤ l.length → l.length - k < f → (tokG l f k T).e = 0 → ∃ X, Run l k X ∧ tokG l f k T = ⟨T ++ X ++ [⟨0, [], l.length⟩], 0, 0⟩
  | 0, k, T, _, h, _ => by omega
  | f + 1, k, T, hk, hf, he => by
    rw [tokG] at he ⊢
    by_cases h1 : k < l.length
    · rw [if_pos h1] at he ⊢
      by_cases h2 : (nextR (l.drop k)).e = 0
      · rw [if_pos h2] at he ⊢
        have hb := next_bd l k h1 h2
        obtain ⟨X, hX, e⟩ := run_of l f _ _ hb.2.1 (by omega) he
        exact ⟨_, .step h1 h2 hX, by rw [e]; simp⟩
      · rw [if_neg h2] at he
        exact absurd he h2
    · rw [if_neg h1]
      exact ⟨[], .done (by omega), by simp⟩
theorem of_run (l : List UInt8) (k : Nat) (X : List Tk) (h : Run l k X) : ∀ (f : Nat) (T : List Tk), l.length - k < f → tokG l f k T = ⟨T ++ X ++ [⟨0, [], l.length⟩], 0, 0⟩ := by
  induction h with
  | done h =>
    intro f T hf
    cases f with
    | zero => omega
    | succ f =>
      rw [tokG, if_neg (by omega)]
      simp
  | step h1 h2 _ ih =>
    intro f T hf
    cases f with
    | zero => omega
    | succ f =>
      have hb := next_bd l _ h1 h2
      rw [tokG, if_pos h1, if_pos h2, ih f _ (by omega)]
      simp
theorem tok_run (l : List UInt8) (hl : l.length ≤ 16384) (he : (tokL l).e = 0) : ∃ X, Run l (skP l 0) X ∧ tokL l = ⟨X ++ [⟨0, [], l.length⟩], 0, 0⟩ := by
  unfold tokL at he ⊢
  rw [if_neg (by omega)] at he ⊢
  have h2 := skQ_spec false l 0 (Nat.zero_le _)
  obtain ⟨X, h, e⟩ := run_of l (l.length + 1) (skP l 0) [] h2.2.1 (by omega) he
  exact ⟨X, h, by rw [e]; rfl⟩
theorem run_tok (l : List UInt8) (hl : l.length ≤ 16384) (X : List Tk) (h : Run l (skP l 0) X) : tokL l = ⟨X ++ [⟨0, [], l.length⟩], 0, 0⟩ := by
  unfold tokL
  rw [if_neg (by omega), of_run l _ X h _ _ (by omega)]
  rfl
-- what follows a line feed
theorem tw_cat (p : UInt8 → Bool) (hp : p 10 = false) (v : List UInt8) : ∀ u : List UInt8, (u ++ 10 :: v).takeWhile p = u.takeWhile p
  | [] => by rw [List.nil_append, List.takeWhile_cons, if_neg (by rw [hp]; decide)]; rfl
  | c :: u => by
    rw [List.cons_append, List.takeWhile_cons, List.takeWhile_cons, tw_cat p hp v u]
theorem run_cat (p : UInt8 → Bool) (hp : p 10 = false) (u v : List UInt8) : runP p (u ++ 10 :: v) 0 = runP p u 0 := by
  unfold runP
  rw [List.drop_zero, List.drop_zero, tw_cat p hp]
theorem litQ_cat (v : List UInt8) : ∀ (N : Nat) (u : List UInt8), u.length ≤ N → ∀ x, litQ u = some x → litQ (u ++ 10 :: v) = some x
  | _, [], _, x, h => by rw [litQ] at h; cases h
  | 0, c :: u, hl, _, _ => by simp at hl
  | N + 1, c :: u, hl, x, h => by
    rw [litQ.eq_def] at h
    rw [List.cons_append, litQ.eq_def]
    simp only at h ⊢
    split at h
    · rename_i hp
      rw [if_pos hp]
      split at h
      · rename_i h39
        rw [if_pos h39]
        cases u with
        | nil =>
          simp only [List.nil_append]
          rw [if_neg (by decide)]
          exact h
        | cons d u =>
          simp only [List.cons_append] at h ⊢
          split at h
          · rename_i hd
            rw [if_pos hd]
            rw [Option.map_eq_some_iff] at h
            obtain ⟨y, hy, rfl⟩ := h
            rw [litQ_cat v N u (by simp at hl; omega) y hy]
            rfl
          · rename_i hd
            rw [if_neg hd]
            exact h
      · rename_i h39
        rw [if_neg h39]
        rw [Option.map_eq_some_iff] at h
        obtain ⟨y, hy, rfl⟩ := h
        rw [litQ_cat v N u (by simpa using hl) y hy]
        rfl
    · cases h
theorem numAt_cat (c : UInt8) (k : Nat) (t : List UInt8) : numAt c k (some 10) t = numAt c k none t := rfl
theorem two_cat (u v : List UInt8) (hu : 0 < u.length) : two (u ++ 10 :: v) = two u := by
  rcases u with _ | ⟨c, _ | ⟨d, u⟩⟩
  · cases hu
  · unfold two
    simp
  · unfold two
    simp
theorem next_cat (u v : List UInt8) (hu : 0 < u.length) (he : (nextR u).e = 0) : nextR (u ++ 10 :: v) = nextR u := by
  have hg : (u ++ 10 :: v).getD 0 0 = u.getD 0 0 := by
    rcases u with _ | ⟨c, u⟩
    · cases hu
    · rfl
  have tk : ∀ p : UInt8 → Bool, (u ++ 10 :: v).take (runP p u 0) = u.take (runP p u 0) := fun p => List.take_append_of_le_length (runP_le (Nat.zero_le _)).2
  unfold nextR at he ⊢
  rw [hg]
  split at he
  · rename_i h1
    rw [if_pos h1, if_pos h1]
    unfold wordR
    rw [run_cat wrd (by decide), tk]
  · rename_i h1
    rw [if_neg h1, if_neg h1]
    split at he
    · rename_i h2
      rw [if_pos h2, if_pos h2]
      unfold numR
      rw [run_cat dgt (by decide), tk, hg]
      have hle := (runP_le (p := dgt) (l := u) (k := 0) (Nat.zero_le _)).2
      rcases Nat.lt_or_ge (runP dgt u 0) u.length with h | h
      · rw [List.getElem?_append_left h]
      · have e : runP dgt u 0 = u.length := by omega
        rw [e, List.getElem?_append_right (Nat.le_refl _), Nat.sub_self, List.getElem?_cons_zero, List.getElem?_eq_none (Nat.le_refl _), numAt_cat]
    · rename_i h2
      rw [if_neg h2, if_neg h2]
      split at he
      · rename_i h3
        rw [if_pos h3, if_pos h3]
        unfold textR litP at he ⊢
        rcases hq : litQ (u.drop 1) with _ | x
        · rw [hq] at he; exact absurd he (by decide)
        · rw [List.drop_append_of_le_length (by omega), litQ_cat v _ _ (Nat.le_refl _) x hq]
      · rename_i h3
        rw [if_neg h3, if_neg h3]
        unfold symR
        rw [hg, two_cat u v hu]
        rcases u with _ | ⟨c, _ | ⟨d, u⟩⟩
        · cases hu
        · have h2 : two [c] = false := by unfold two; simp
          rw [h2]
          rfl
        · rfl
theorem skip_cat (v : List UInt8) : ∀ (u : List UInt8) (b : Bool), skipL b (u ++ 10 :: v) = if skipL b u = [] then skipL false v else skipL b u ++ 10 :: v
  | [], b => by
    cases b
    · have e : skipL false (10 :: v) = skipL false v := by conv => lhs; unfold skipL; rw [if_pos spc10]
      rw [List.nil_append, e]
      exact (if_pos rfl).symm
    · have e : skipL true (10 :: v) = skipL false v := by conv => lhs; unfold skipL; rw [if_pos rfl]
      rw [List.nil_append, e]
      exact (if_pos rfl).symm
  | c :: u, b => by
    rw [List.cons_append]
    cases b
    · rw [skipL, skipL]
      by_cases h1 : spcN c.toNat = true
      · rw [if_pos h1, if_pos h1, skip_cat v u false]
      · rw [if_neg h1, if_neg h1]
        by_cases h2 : c = 45 ∧ u.head? = some 45
        · have h3 : c = 45 ∧ (u ++ 10 :: v).head? = some 45 := ⟨h2.1, by
            rcases u with _ | ⟨d, u⟩
            · have := h2.2; cases this
            · exact h2.2⟩
          rw [if_pos h2, if_pos h3, skip_cat v u true]
        · have h3 : ¬ (c = 45 ∧ (u ++ 10 :: v).head? = some 45) := fun h => h2 ⟨h.1, by
            rcases u with _ | ⟨d, u⟩
            · have := h.2; simp at this
            · exact h.2⟩
          rw [if_neg h2, if_neg h3, if_neg (by simp)]
          rfl
    · rw [skipL, skipL]
      by_cases h1 : c = 10
      · rw [if_pos h1, if_pos h1, skip_cat v u false]
      · rw [if_neg h1, if_neg h1, skip_cat v u true]
theorem drop_cat (a b : List UInt8) (j : Nat) : (a ++ 10 :: b).drop (a.length + 1 + j) = b.drop j := by
  rw [show a ++ 10 :: b = (a ++ [10]) ++ b by simp, show a.length + 1 + j = (a ++ [10]).length + j by simp, List.drop_append]
  simp
theorem skP_right (a b : List UInt8) (j : Nat) (hj : j ≤ b.length) : skP (a ++ 10 :: b) (a.length + 1 + j) = a.length + 1 + skP b j := by
  unfold skP skQ
  rw [drop_cat]
  obtain ⟨n, h1, h2⟩ := skip_suf (b.drop j) false
  rw [h2, List.length_append, List.length_cons]
  rw [List.length_drop] at h1
  have : ((b.drop j).drop n).length ≤ b.length := by rw [List.length_drop, List.length_drop]; omega
  omega
theorem skP_left (a b : List UInt8) (k : Nat) (hk : k ≤ a.length) : skP (a ++ 10 :: b) k = if skP a k < a.length then skP a k else a.length + 1 + skP b 0 := by
  unfold skP skQ
  rw [List.drop_append_of_le_length hk, skip_cat]
  obtain ⟨n, h1, h2⟩ := skip_suf (a.drop k) false
  obtain ⟨m, h3, h4⟩ := skip_suf b false
  rw [h2, List.drop_zero, h4, List.length_append, List.length_cons]
  rw [List.length_drop] at h1
  have e1 : ((a.drop k).drop n).length = a.length - k - n := by rw [List.length_drop, List.length_drop]
  have e2 : (b.drop m).length = b.length - m := List.length_drop
  by_cases h : (a.drop k).drop n = []
  · rw [if_pos h]
    rw [h] at e1 ⊢
    simp only [List.length_nil] at e1 ⊢
    rw [if_neg (by omega), e2]
    omega
  · rw [if_neg h]
    have h0 : 0 < ((a.drop k).drop n).length := List.length_pos_iff.2 h
    rw [if_pos (by omega), List.length_append, List.length_cons]
    omega
theorem run_right (a b : List UInt8) (k : Nat) (Y : List Tk) (h : Run b k Y) : Run (a ++ 10 :: b) (a.length + 1 + k) (Y.map (shf (a.length + 1))) := by
  induction h with
  | done h => exact .done (by rw [List.length_append, List.length_cons]; omega)
  | @step k X h1 h2 _ ih =>
    have hb := next_bd b k h1 h2
    have hd := drop_cat a b k
    have st := @Run.step (a ++ 10 :: b) (a.length + 1 + k) (X.map (shf (a.length + 1))) (by rw [List.length_append, List.length_cons]; omega) (by rw [hd]; exact h2) (by
      rw [hd, show a.length + 1 + k + (nextR (b.drop k)).n = a.length + 1 + (k + (nextR (b.drop k)).n) by omega, skP_right a b _ hb.2.2]
      exact ih)
    rw [hd] at st
    rw [List.map_cons]
    unfold shf at st ⊢
    simp only at st ⊢
    rw [show a.length + 1 + k = k + (a.length + 1) by omega] at st
    rw [show a.length + 1 + k = k + (a.length + 1) by omega]
    exact st
theorem run_left (a b : List UInt8) (k : Nat) (X Y : List Tk) (h : Run a k X) (hY : Run b (skP b 0) Y) (hk : k ≤ a.length) : Run (a ++ 10 :: b) (if k < a.length then k else a.length + 1 + skP b 0) (X ++ Y.map (shf (a.length + 1))) := by
  induction h with
  | done h =>
    rw [if_neg (by omega)]
    exact run_right a b _ Y hY
  | @step k X h1 h2 _ ih =>
    rw [if_pos h1]
    have hb := next_bd a k h1 h2
    have hd : (a ++ 10 :: b).drop k = a.drop k ++ 10 :: b := List.drop_append_of_le_length hk
    have hn := next_cat (a.drop k) b (by rw [List.length_drop]; omega) h2
    have st := @Run.step (a ++ 10 :: b) k (X ++ Y.map (shf (a.length + 1))) (by rw [List.length_append, List.length_cons]; omega) (by rw [hd, hn]; exact h2) (by
      rw [hd, hn, skP_left a b _ hb.2.2]
      exact ih hb.2.1)
    rw [hd, hn] at st
    exact st
/-- The tokens of two texts, parted by a line feed. -/
theorem tok_cat (a b : List UInt8) (ha : a.length ≤ 2000) (hb : b.length ≤ 2000) (e1 : (tokL a).e = 0) (e2 : (tokL b).e = 0) : (tokL a).ts ≠ [] ∧ (tokL (a ++ 10 :: b)).e = 0 ∧ (tokL (a ++ 10 :: b)).at_ = 0 ∧ (tokL (a ++ 10 :: b)).ts = (tokL a).ts.take ((tokL a).ts.length - 1) ++ (tokL b).ts.map (shf (a.length + 1)) := by
  obtain ⟨X, hX, eX⟩ := tok_run a (by omega) e1
  obtain ⟨Y, hY, eY⟩ := tok_run b (by omega) e2
  have h := run_left a b (skP a 0) X Y hX hY (skQ_spec false a 0 (Nat.zero_le _)).2.1
  rw [← skP_left a b 0 (Nat.zero_le _)] at h
  have e := run_tok (a ++ 10 :: b) (by rw [List.length_append, List.length_cons]; omega) _ h
  rw [eX, eY, e]
  refine ⟨by simp, rfl, rfl, ?_⟩
  simp only [List.length_append, List.length_cons, List.length_nil, List.map_append, List.map_cons, List.map_nil]
  rw [show X.length + (0 + 1) - 1 = X.length by omega, List.take_append_of_le_length (Nat.le_refl _), List.take_length, List.append_assoc]
  congr 3
  show (⟨0, [], _⟩ : Tk) = ⟨0, [], b.length + (a.length + 1)⟩
  rw [show a.length + (b.length + 1) = b.length + (a.length + 1) by omega]
-- offsets
def Off (l : List UInt8) : Int → List Tk → Prop
  | _, [] => True
  | m, x :: r => m < (x.p : Int) ∧ x.p ≤ l.length ∧ (x.k = 0 ↔ r = []) ∧ (x.k = 0 → x.p = l.length) ∧ ((x.k = 3 ∨ x.k = 5) → 0 < x.t.length ∧ x.p + x.t.length ≤ l.length ∧ x.t = (l.drop x.p).take x.t.length) ∧ Off l x.p r
theorem pick4 (A B : Bool) (k : Nat) (t : List UInt8) (he : (if A = true then (⟨0, [], 0, 2⟩ : TR) else if B = true then ⟨0, [], 0, 3⟩ else ⟨3, t, k, 0⟩).e = 0) : (if A = true then (⟨0, [], 0, 2⟩ : TR) else if B = true then ⟨0, [], 0, 3⟩ else ⟨3, t, k, 0⟩) = ⟨3, t, k, 0⟩ := by
  cases A <;> cases B <;> first | rfl | (exact absurd he (by decide)) | (exact absurd he (show ¬ ((2 : Int) = 0) by decide)) | (exact absurd he (show ¬ ((3 : Int) = 0) by decide))
theorem numAt_txt (c0 : UInt8) (k : Nat) (nx : Option UInt8) (t : List UInt8) (he : (numAt c0 k nx t).e = 0) : numAt c0 k nx t = ⟨3, t, k, 0⟩ := by
  unfold numAt at he ⊢
  exact pick4 _ _ k t he
theorem next_txt (u : List UInt8) (h0 : 0 < u.length) (he : (nextR u).e = 0) : (nextR u).k ≠ 0 ∧ ((nextR u).k = 3 ∨ (nextR u).k = 5 → 0 < (nextR u).t.length ∧ (nextR u).t.length ≤ u.length ∧ (nextR u).t = u.take (nextR u).t.length) := by
  have self : ∀ n, n ≤ u.length → 0 < n → 0 < (u.take n).length ∧ (u.take n).length ≤ u.length ∧ u.take n = u.take (u.take n).length := fun n h h1 => by
    rw [List.length_take, Nat.min_eq_left h]
    exact ⟨h1, h, rfl⟩
  unfold nextR at he ⊢
  split at he
  · rename_i h1
    rw [if_pos h1]
    unfold wordR wordAt at he ⊢
    split at he
    · rename_i h2
      rw [if_pos h2]
      exact ⟨by simp, fun h => by simp at h⟩
    · rename_i h2
      rw [if_neg h2]
      split at he
      · exact absurd he (by decide)
      · rename_i h3
        rw [if_neg h3]
        exact ⟨by simp, fun h => by simp at h⟩
  · rename_i h1
    rw [if_neg h1]
    split at he
    · rename_i h2
      rw [if_pos h2]
      have hr := run_one (p := dgt) h0 h2
      unfold numR at he ⊢
      rw [numAt_txt _ _ _ _ he]
      exact ⟨by simp, fun _ => self _ hr.2 hr.1⟩
    · rename_i h2
      rw [if_neg h2]
      split at he
      · rename_i h3
        rw [if_pos h3]
        unfold textR at he ⊢
        rcases hq : litP u 1 [] with _ | x
        · rw [hq] at he; exact absurd he (by decide)
        · rw [hq] at he
          simp only [textAt] at he ⊢
          split at he
          · exact absurd he (by decide)
          · rename_i h4
            rw [if_neg h4]
            exact ⟨by simp, fun h => by simp at h⟩
      · rename_i h3
        rw [if_neg h3]
        unfold symR at he ⊢
        split at he
        · rename_i h4
          rw [if_pos h4]
          unfold two at h4
          rw [Bool.and_eq_true, decide_eq_true_eq] at h4
          exact ⟨by simp, fun _ => self 2 h4.1 (by decide)⟩
        · rename_i h4
          rw [if_neg h4]
          split at he
          · exact absurd he (by decide)
          · rename_i h5
            rw [if_neg h5]
            exact ⟨by simp, fun _ => self 1 h0 (by decide)⟩
theorem off_run (l : List UInt8) (k : Nat) (X : List Tk) (h : Run l k X) : k ≤ l.length → ∀ m : Int, m < (k : Int) → Off l m (X ++ [⟨0, [], l.length⟩]) := by
  induction h with
  | done h =>
    intro hk m hm
    refine ⟨?_, Nat.le_refl _, ⟨fun _ => rfl, fun _ => rfl⟩, fun _ => rfl, fun h => ?_, trivial⟩
    · show m < (l.length : Int)
      omega
    · exact absurd h (by show ¬ ((0 : Int) = 3 ∨ (0 : Int) = 5); decide)
  | @step k X h1 h2 _ ih =>
    intro hk m hm
    have hb := next_bd l k h1 h2
    have ht := next_txt (l.drop k) (by rw [List.length_drop]; omega) h2
    refine ⟨hm, hk, ⟨fun h => absurd h ht.1, fun h => by simp at h⟩, fun h => absurd h ht.1, fun h => ?_, ih hb.2.1 _ (Int.ofNat_lt.2 hb.1)⟩
    obtain ⟨h3, h4, h5⟩ := ht.2 h
    rw [List.length_drop] at h4
    have h6 : k + (nextR (l.drop k)).t.length ≤ l.length := by omega
    exact ⟨h3, h6, h5⟩
theorem tok_off (l : List UInt8) (hl : l.length ≤ 16384) (he : (tokL l).e = 0) : (tokL l).ts ≠ [] ∧ Off l (-1) (tokL l).ts := by
  obtain ⟨X, hX, eX⟩ := tok_run l hl he
  rw [eX]
  exact ⟨by simp, off_run l _ X hX (skQ_spec false l 0 (Nat.zero_le _)).2.1 (-1) (by omega)⟩
theorem tokG_err (l : List UInt8) : ∀ (f k : Nat) (T : List Tk), (tokG l f k T).e ≠ 0 → (tokG l f k T).ts = []
  | 0, k, T, h => absurd rfl h
  | f + 1, k, T, h => by
    rw [tokG] at h ⊢
    split at h
    · rename_i h1
      rw [if_pos h1]
      split at h
      · rename_i h2
        rw [if_pos h2]
        exact tokG_err l f _ _ h
      · rename_i h2
        rw [if_neg h2]
    · exact absurd rfl h
theorem tok_err (l : List UInt8) (h : (tokL l).e ≠ 0) : (tokL l).ts = [] := by
  unfold tokL at h ⊢
  split
  · rfl
  · rename_i h1
    rw [if_neg h1] at h
    exact tokG_err l _ _ _ h
end Go.Proofs.YtdkkflmhpncglaaDoor
