/- Tokens; numbers. -/
import Derived.Test.YtdkkflmhpncglaaDoorLxi
namespace Go.Proofs.YtdkkflmhpncglaaDoor
open Go.ChangeShapes Go.WideShapes Go.ChangeAt Go.RowKit Go.ChangeMaps

/-- What reading a token gives: its kind, its text, its length, the error. -/
structure TR where
  k : Int
  t : List UInt8
  n : Nat
  e : Int
def TR.val (x : TR) : Value := .tuple #[.agg #[.int .i64 x.k, .string ⟨x.t.toArray⟩, .int .i64 0], .int .i64 (x.n : Int), .int .i64 x.e]
def TR.ref (x : TR) (p : Nat) : Value := if x.e = 0 then .tuple #[.agg #[.int .i64 x.k, .string ⟨x.t.toArray⟩, .int .i64 (p : Int)], .int .i64 ((p + x.n : Nat) : Int), .int .i64 0] else .tuple #[.agg #[.int .i64 0, .string ⟨#[]⟩, .int .i64 0], .int .i64 0, .int .i64 x.e]
theorem results_c3 {fn : Func} {p u v : Tmp} {ty : TypeId} (h : fn.results = #[.cell p ty, .tmp u, .tmp v]) (tmps : Array Value) (P : Program) (w : World) (g : Nat) (X : Value)
    (hp : tmps.getD p undef = .pointer (some ⟨g, 0, none⟩)) (h1 : (loadVar ty ⟨g, 0, none⟩).run P w = .ok X w) : (results fn tmps).run P w = .ok (.tuple #[X, tmps.getD u undef, tmps.getD v undef]) w := by
  have hp' : tmps[p]?.getD undef = .pointer (some ⟨g, 0, none⟩) := by simpa using hp
  simp [results, h, hp', asAddr, h1, Sem.run_bind, Result.andThen]
theorem load37 {w : World} {g : Nat} {cs : Array Value} (h : Blk w g 37 cs) (hs : cs.size = 3) : (loadVar 37 ⟨g, 0, none⟩).run Tryd.prog w = .ok (.agg cs) w :=
  run_loadVar_row w g 37 37 cs (0, 0) _ h Tryd.underlying37 rfl (by rw [hs]; kernel_rfl)
theorem load43 {w : World} {g : Nat} {cs : Array Value} (h : Blk w g 43 cs) (hs : cs.size = 3) : (loadVar 43 ⟨g, 0, none⟩).run Tryd.prog w = .ok (.agg cs) w :=
  run_loadVar_row w g 43 43 cs (0, 0) _ h Tryd.underlying43 rfl (by rw [hs]; kernel_rfl)
theorem grown_set (w : World) (g i : Nat) (u : Value) : w.grownBy (w.setCell ⟨g, i, none⟩ u) (some g) := ⟨rfl, rfl, rfl, by simp [World.setCell], fun k _ hk => Below.heap_setCell w _ u k (fun e => hk (by rw [e]))⟩
theorem store_step {W : World} {g : Nat} {T : TypeId} {cs : Array Value} (h : Blk W g T cs) (j : Nat) (v : Value) : Blk (W.setCell ⟨g, j, none⟩ v) g T (cs.setIfInBounds j v) ∧ (∀ B w0, Below B w0 W → B ≤ g → Below B w0 (W.setCell ⟨g, j, none⟩ v)) := by
  have gs := grown_set W g j v
  exact ⟨Joins.block_setCell h _, fun B w0 hb hg => hb.grown gs (Nat.le_trans hg (Nat.le_of_lt h.lt)) (fun j hj => by injection hj with hj; omega)⟩
theorem store3 {W : World} {g : Nat} {T : TypeId} {a b c : Value} (h : Blk W g T #[a, b, c]) (x y z : Value) : Blk (((W.setCell ⟨g, 0, none⟩ x).setCell ⟨g, 1, none⟩ y).setCell ⟨g, 2, none⟩ z) g T #[x, y, z] ∧ (∀ B w0, Below B w0 W → B ≤ g → Below B w0 (((W.setCell ⟨g, 0, none⟩ x).setCell ⟨g, 1, none⟩ y).setCell ⟨g, 2, none⟩ z)) := by
  have s0 := store_step h 0 x
  have s1 := store_step s0.1 1 y
  have s2 := store_step s1.1 2 z
  exact ⟨s2.1, fun B w0 hb hg => s2.2 _ _ (s1.2 _ _ (s0.2 _ _ hb hg) hg) hg⟩
theorem of_lst (x : ByteArray) : (⟨(lst x).toArray⟩ : ByteArray) = x := by
  rcases x with ⟨⟨l⟩⟩
  rfl
theorem ext_of (s : ByteArray) (a b : Nat) : (⟨(((lst s).drop a).take (b - a)).toArray⟩ : ByteArray) = s.extract a b := by rw [← lst_extract, of_lst]
/-- How many bytes from k on satisfy p: the position of the first that does not. -/
def runP (p : UInt8 → Bool) (l : List UInt8) (k : Nat) : Nat := k + ((l.drop k).takeWhile p).length
theorem runP_yes {p : UInt8 → Bool} {l : List UInt8} {k : Nat} (hk : k < l.length) (h : p l[k] = true) : runP p l k = runP p l (k + 1) := by
  unfold runP
  rw [List.drop_eq_getElem_cons hk, List.takeWhile_cons, if_pos h, List.length_cons]
  omega
theorem runP_no {p : UInt8 → Bool} {l : List UInt8} {k : Nat} (hk : k < l.length) (h : p l[k] = false) : runP p l k = k := by
  unfold runP
  rw [List.drop_eq_getElem_cons hk, List.takeWhile_cons, if_neg (by rw [h]; decide)]
  rfl
theorem runP_end {p : UInt8 → Bool} {l : List UInt8} {k : Nat} (hk : l.length ≤ k) : runP p l k = k := by
  unfold runP
  rw [List.drop_eq_nil_of_le hk]
  rfl
theorem runP_le {p : UInt8 → Bool} {l : List UInt8} {k : Nat} (hk : k ≤ l.length) : k ≤ runP p l k ∧ runP p l k ≤ l.length := by
  unfold runP
  have := (List.takeWhile_sublist p (l := l.drop k)).length_le
  rw [List.length_drop] at this
  omega
theorem runP_drop (p : UInt8 → Bool) (l : List UInt8) (k : Nat) : runP p l k = k + runP p (l.drop k) 0 := by simp [runP]
def dgt (c : UInt8) : Bool := dgtN c.toNat
def maxT : List UInt8 := [50, 49, 52, 55, 52, 56, 51, 54, 52, 56]
def numAt (c0 : UInt8) (k : Nat) (nx : Option UInt8) (t : List UInt8) : TR :=
  if (decide ((1 : Int) < k) && ((c0.toNat : Int) == 48)) || (match nx with | none => false | some c => ltrN c.toNat || ((c.toNat : Int) == 95)) then ⟨0, [], 0, 2⟩
  else if decide ((10 : Int) < k) || (((k : Int) == 10) && !(Op.bytesLess t maxT || t == maxT)) then ⟨0, [], 0, 3⟩ else ⟨3, t, k, 0⟩
/-- A number at the head of l. -/
def numR (l : List UInt8) : TR := numAt (l.getD 0 0) (runP dgt l 0) l[runP dgt l 0]? (l.take (runP dgt l 0))
theorem numAt_eq (c0 : UInt8) (k : Nat) (nx : Option UInt8) (t : List UInt8) (A B L U T E b1 b2 : Bool) (h1 : decide ((1 : Int) < k) = A) (h2 : ((c0.toNat : Int) == 48) = B) (h3 : (match nx with | none => false | some c => ltrN c.toNat || ((c.toNat : Int) == 95)) = (L && U)) (h5 : decide ((10 : Int) < k) = T) (h6 : ((k : Int) == 10) = E) (h7 : Op.bytesLess t maxT = b1) (h8 : (t == maxT) = b2) :
    numAt c0 k nx t = if (A && B) || (L && U) then ⟨0, [], 0, 2⟩ else if T || (E && !(b1 || b2)) then ⟨0, [], 0, 3⟩ else ⟨3, t, k, 0⟩ := by
  unfold numAt
  rw [h1, h2, h3, h5, h6, h7, h8]
set_option maxRecDepth 100000 in
set_option maxHeartbeats 2000000 in
theorem number_any (s : ByteArray) (w : World) (hs : s.size ≤ 100000) (hn : 0 < s.size) (hd : dgtN s[0].toNat = true) : Calls Tryd.prog 42 #[.string s] w fun e w' => e = .returned (numR (lst s)).val ∧ Below w.heap.size w w' := by
  have HL := Lib.hid (lst_len s)
  have HR0 := Lib.hid (show numR (lst s) = numAt s[0] (runP dgt (lst s) 1) (lst s)[runP dgt (lst s) 1]? ((lst s).take (runP dgt (lst s) 1)) by
    have h0 : 0 < (lst s).length := by rw [lst_len]; exact hn
    unfold numR
    rw [runP_yes h0 (by rw [lst_get s 0 hn h0]; exact hd)]
    have e0 : (lst s).getD 0 0 = s[0] := by rw [← lst_get s 0 hn h0]; simp [List.getD, List.getElem?_eq_getElem h0]
    rw [e0])
  obtain ⟨res, hres⟩ : ∃ z, numR (lst s) = z := ⟨_, rfl⟩
  rw [hres] at HR0
  rw [hres]
  clear hres
  obtain ⟨m, hm⟩ : ∃ m, runP dgt (lst s) 1 = m := ⟨_, rfl⟩
  rw [hm] at HR0
  have HM := Lib.hid hm
  clear hm
  have CD := Lib.hid (fun (x : Nat) w => isDigit_any x w)
  have CL := Lib.hid (fun (x : Nat) w => isLetter_any x w)
  obtain ⟨W0, hW0⟩ : ∃ W, W = w.alloc (.cells #[.int .i64 0, .string ⟨#[]⟩, .int .i64 0] 37) := ⟨_, rfl⟩
  have BW0 := Lib.hid (show Below w.heap.size w W0 by rw [hW0]; exact (Below.refl _ w).alloc (Nat.le_refl _) _)
  have ZW0 := Lib.hid (show Blk W0 w.heap.size 37 #[.int .i64 0, .string ⟨#[]⟩, .int .i64 0] by rw [hW0]; exact Blk.new _ _ _)
  have zf : ∀ j, W0.frozen? ⟨w.heap.size, j, none⟩ = false := fun j => Joins.unfrozen_of_block ZW0.out _
  have c0 : W0.cell? ⟨w.heap.size, 0, none⟩ = some (.int .i64 0) := ZW0.out.cell 0
  have c1 : W0.cell? ⟨w.heap.size, 1, none⟩ = some (.string ⟨#[]⟩) := ZW0.out.cell 1
  have c2 : W0.cell? ⟨w.heap.size, 2, none⟩ = some (.int .i64 0) := ZW0.out.cell 2
  go_enter Tryd.func42, Tryd.ntmps42
  go_upto_region 1 with fail
  rw [← hW0]
  clear hW0
  go_wp2
  go_loop [5] (fun s5 => ∃ k : Nat, 1 ≤ k ∧ k ≤ s.size ∧ s5 = .int .i64 (k : Int) ∧ runP dgt (lst s) k = m) (fun s5 => s.size - (intOf s5).toNat)
  case atStart => exact ⟨1, Nat.le_refl _, by omega, rfl, HM.out⟩
  case round =>
    obtain ⟨k, hk1, hkn, rfl, hE⟩ := hrel
    have HE := Lib.hid hE
    clear hE
    have hk0 : (0 : Int) ≤ (k : Int) := by omega
    have hkn2 : (k : Int) ≤ s.size := by omega
    have HEX := Lib.hid (show (⟨((lst s).take k).toArray⟩ : ByteArray) = s.extract 0 k from ext_of s 0 k)
    have HEL := Lib.hid (show (s.extract 0 k).toList = (lst s).take k by rw [tol, lst_extract]; rfl)
    have HN := Lib.hid (fun (h : runP dgt (lst s) k = k) => show m = k from HE.out.symm.trans h)
    by_cases hlt : k < s.size
    · have hkl : k < (lst s).length := by rw [HL.out]; exact hlt
      have hki : (k : Int) < s.size := by omega
      have CDX := Lib.hid (CD.out s[k].toNat)
      have CLX := Lib.hid (CL.out s[k].toNat)
      cases hdg : dgtN s[k].toNat
      · rw [hdg] at CDX
        have HR := Lib.hid (show numAt s[0] k (some s[k]) ((lst s).take k) = res by
          rw [HR0.out, HN.out (runP_no hkl (by rw [lst_get s k hlt hkl]; exact hdg)), List.getElem?_eq_getElem hkl, lst_get s k hlt hkl])
        go_wp2_with fail
        refine (CDX.out _).mono ?_
        rintro e w2 ⟨rfl, hw⟩
        replace hw := hw.symm
        subst hw
        have hz0 : (0 : Int) < s.size := by omega
        cases h1 : decide ((1 : Int) < k)
        · skip
          cases hL : ltrN s[k].toNat
          · rw [hL] at CLX
            cases hU : ((s[k].toNat : Int) == 95)
            · go_wp2_with fail
              refine (CLX.out _).mono ?_
              rintro e w2 ⟨rfl, hw⟩
              replace hw := hw.symm
              subst hw
              cases h10 : decide ((10 : Int) < k)
              · cases e10 : ((k : Int) == 10)
                · have HF := Lib.hid (show (⟨3, (lst s).take k, k, 0⟩ : TR) = res by rw [← HR.out, numAt_eq _ _ _ _ _ _ _ _ _ _ _ _ h1 rfl (show _ = (true && false) by show (_ || _) = _; rw [hL, hU]; rfl) h10 e10 rfl rfl]; rfl)
                  have S3 := store3 ZW0.out (.int .i64 3) (.string (s.extract 0 k)) (.int .i64 0)
                  have HX := Lib.hid (S3.2 _ _ BW0.out (Nat.le_refl _))
                  have HK := Lib.hid S3.1
                  clear S3
                  go_wp2
                  refine bodyPost_ret (results_c3 rfl _ _ _ w.heap.size _ rfl (load37 HK.out rfl)) rfl ?_
                  rw [← HF.out]
                  exact ⟨by unfold TR.val; simp only [HEX.out]; rfl, HX.out⟩
                · cases b1 : Op.bytesLess ((lst s).take k) maxT
                  · cases b2 : ((lst s).take k == maxT)
                    · have HF := Lib.hid (show (⟨0, [], 0, 3⟩ : TR) = res by rw [← HR.out, numAt_eq _ _ _ _ _ _ _ _ _ _ _ _ h1 rfl (show _ = (true && false) by show (_ || _) = _; rw [hL, hU]; rfl) h10 e10 b1 b2]; rfl)
                      rw [← HEL.out] at b1 b2
                      unfold maxT at b1 b2
                      have S3 := store3 ZW0.out (.int .i64 0) (.string ⟨#[]⟩) (.int .i64 0)
                      have HX := Lib.hid (S3.2 _ _ BW0.out (Nat.le_refl _))
                      have HK := Lib.hid S3.1
                      clear S3
                      go_wp2
                      refine bodyPost_ret (results_c3 rfl _ _ _ w.heap.size _ rfl (load37 HK.out rfl)) rfl ?_
                      rw [← HF.out]
                      exact ⟨rfl, HX.out⟩
                    · have HF := Lib.hid (show (⟨3, (lst s).take k, k, 0⟩ : TR) = res by rw [← HR.out, numAt_eq _ _ _ _ _ _ _ _ _ _ _ _ h1 rfl (show _ = (true && false) by show (_ || _) = _; rw [hL, hU]; rfl) h10 e10 b1 b2]; rfl)
                      rw [← HEL.out] at b1 b2
                      unfold maxT at b1 b2
                      have S3 := store3 ZW0.out (.int .i64 3) (.string (s.extract 0 k)) (.int .i64 0)
                      have HX := Lib.hid (S3.2 _ _ BW0.out (Nat.le_refl _))
                      have HK := Lib.hid S3.1
                      clear S3
                      go_wp2
                      refine bodyPost_ret (results_c3 rfl _ _ _ w.heap.size _ rfl (load37 HK.out rfl)) rfl ?_
                      rw [← HF.out]
                      exact ⟨by unfold TR.val; simp only [HEX.out]; rfl, HX.out⟩
                  · have HF := Lib.hid (show (⟨3, (lst s).take k, k, 0⟩ : TR) = res by rw [← HR.out, numAt_eq _ _ _ _ _ _ _ _ _ _ _ _ h1 rfl (show _ = (true && false) by show (_ || _) = _; rw [hL, hU]; rfl) h10 e10 b1 rfl]; rfl)
                    rw [← HEL.out] at b1
                    unfold maxT at b1
                    have S3 := store3 ZW0.out (.int .i64 3) (.string (s.extract 0 k)) (.int .i64 0)
                    have HX := Lib.hid (S3.2 _ _ BW0.out (Nat.le_refl _))
                    have HK := Lib.hid S3.1
                    clear S3
                    go_wp2
                    refine bodyPost_ret (results_c3 rfl _ _ _ w.heap.size _ rfl (load37 HK.out rfl)) rfl ?_
                    rw [← HF.out]
                    exact ⟨by unfold TR.val; simp only [HEX.out]; rfl, HX.out⟩
              · have HF := Lib.hid (show (⟨0, [], 0, 3⟩ : TR) = res by rw [← HR.out, numAt_eq _ _ _ _ _ _ _ _ _ _ _ _ h1 rfl (show _ = (true && false) by show (_ || _) = _; rw [hL, hU]; rfl) h10 rfl rfl rfl]; rfl)
                have S3 := store3 ZW0.out (.int .i64 0) (.string ⟨#[]⟩) (.int .i64 0)
                have HX := Lib.hid (S3.2 _ _ BW0.out (Nat.le_refl _))
                have HK := Lib.hid S3.1
                clear S3
                go_wp2
                refine bodyPost_ret (results_c3 rfl _ _ _ w.heap.size _ rfl (load37 HK.out rfl)) rfl ?_
                rw [← HF.out]
                exact ⟨rfl, HX.out⟩
            · have HF := Lib.hid (show (⟨0, [], 0, 2⟩ : TR) = res by rw [← HR.out, numAt_eq _ _ _ _ _ _ _ _ _ _ _ _ h1 rfl (show _ = (true && true) by show (_ || _) = _; rw [hL, hU]; rfl) rfl rfl rfl rfl]; first | rfl | (simp))
              go_wp2_with fail
              refine (CLX.out _).mono ?_
              rintro e w2 ⟨rfl, hw⟩
              replace hw := hw.symm
              subst hw
              have S3 := store3 ZW0.out (.int .i64 0) (.string ⟨#[]⟩) (.int .i64 0)
              have HX := Lib.hid (S3.2 _ _ BW0.out (Nat.le_refl _))
              have HK := Lib.hid S3.1
              clear S3
              go_wp2
              refine bodyPost_ret (results_c3 rfl _ _ _ w.heap.size _ rfl (load37 HK.out rfl)) rfl ?_
              rw [← HF.out]
              exact ⟨rfl, HX.out⟩
          · rw [hL] at CLX
            have HF := Lib.hid (show (⟨0, [], 0, 2⟩ : TR) = res by rw [← HR.out, numAt_eq _ _ _ _ _ _ _ _ _ _ _ _ h1 rfl (show _ = (true && true) by show (_ || _) = _; rw [hL]; rfl) rfl rfl rfl rfl]; first | rfl | (simp))
            go_wp2_with fail
            refine (CLX.out _).mono ?_
            rintro e w2 ⟨rfl, hw⟩
            replace hw := hw.symm
            subst hw
            have S3 := store3 ZW0.out (.int .i64 0) (.string ⟨#[]⟩) (.int .i64 0)
            have HX := Lib.hid (S3.2 _ _ BW0.out (Nat.le_refl _))
            have HK := Lib.hid S3.1
            clear S3
            go_wp2
            refine bodyPost_ret (results_c3 rfl _ _ _ w.heap.size _ rfl (load37 HK.out rfl)) rfl ?_
            rw [← HF.out]
            exact ⟨rfl, HX.out⟩
        · cases h2 : ((s[0].toNat : Int) == 48)
          · skip
            cases hL : ltrN s[k].toNat
            · rw [hL] at CLX
              cases hU : ((s[k].toNat : Int) == 95)
              · go_wp2_with fail
                refine (CLX.out _).mono ?_
                rintro e w2 ⟨rfl, hw⟩
                replace hw := hw.symm
                subst hw
                cases h10 : decide ((10 : Int) < k)
                · cases e10 : ((k : Int) == 10)
                  · have HF := Lib.hid (show (⟨3, (lst s).take k, k, 0⟩ : TR) = res by rw [← HR.out, numAt_eq _ _ _ _ _ _ _ _ _ _ _ _ h1 h2 (show _ = (true && false) by show (_ || _) = _; rw [hL, hU]; rfl) h10 e10 rfl rfl]; rfl)
                    have S3 := store3 ZW0.out (.int .i64 3) (.string (s.extract 0 k)) (.int .i64 0)
                    have HX := Lib.hid (S3.2 _ _ BW0.out (Nat.le_refl _))
                    have HK := Lib.hid S3.1
                    clear S3
                    go_wp2
                    refine bodyPost_ret (results_c3 rfl _ _ _ w.heap.size _ rfl (load37 HK.out rfl)) rfl ?_
                    rw [← HF.out]
                    exact ⟨by unfold TR.val; simp only [HEX.out]; rfl, HX.out⟩
                  · cases b1 : Op.bytesLess ((lst s).take k) maxT
                    · cases b2 : ((lst s).take k == maxT)
                      · have HF := Lib.hid (show (⟨0, [], 0, 3⟩ : TR) = res by rw [← HR.out, numAt_eq _ _ _ _ _ _ _ _ _ _ _ _ h1 h2 (show _ = (true && false) by show (_ || _) = _; rw [hL, hU]; rfl) h10 e10 b1 b2]; rfl)
                        rw [← HEL.out] at b1 b2
                        unfold maxT at b1 b2
                        have S3 := store3 ZW0.out (.int .i64 0) (.string ⟨#[]⟩) (.int .i64 0)
                        have HX := Lib.hid (S3.2 _ _ BW0.out (Nat.le_refl _))
                        have HK := Lib.hid S3.1
                        clear S3
                        go_wp2
                        refine bodyPost_ret (results_c3 rfl _ _ _ w.heap.size _ rfl (load37 HK.out rfl)) rfl ?_
                        rw [← HF.out]
                        exact ⟨rfl, HX.out⟩
                      · have HF := Lib.hid (show (⟨3, (lst s).take k, k, 0⟩ : TR) = res by rw [← HR.out, numAt_eq _ _ _ _ _ _ _ _ _ _ _ _ h1 h2 (show _ = (true && false) by show (_ || _) = _; rw [hL, hU]; rfl) h10 e10 b1 b2]; rfl)
                        rw [← HEL.out] at b1 b2
                        unfold maxT at b1 b2
                        have S3 := store3 ZW0.out (.int .i64 3) (.string (s.extract 0 k)) (.int .i64 0)
                        have HX := Lib.hid (S3.2 _ _ BW0.out (Nat.le_refl _))
                        have HK := Lib.hid S3.1
                        clear S3
                        go_wp2
                        refine bodyPost_ret (results_c3 rfl _ _ _ w.heap.size _ rfl (load37 HK.out rfl)) rfl ?_
                        rw [← HF.out]
                        exact ⟨by unfold TR.val; simp only [HEX.out]; rfl, HX.out⟩
                    · have HF := Lib.hid (show (⟨3, (lst s).take k, k, 0⟩ : TR) = res by rw [← HR.out, numAt_eq _ _ _ _ _ _ _ _ _ _ _ _ h1 h2 (show _ = (true && false) by show (_ || _) = _; rw [hL, hU]; rfl) h10 e10 b1 rfl]; rfl)
                      rw [← HEL.out] at b1
                      unfold maxT at b1
                      have S3 := store3 ZW0.out (.int .i64 3) (.string (s.extract 0 k)) (.int .i64 0)
                      have HX := Lib.hid (S3.2 _ _ BW0.out (Nat.le_refl _))
                      have HK := Lib.hid S3.1
                      clear S3
                      go_wp2
                      refine bodyPost_ret (results_c3 rfl _ _ _ w.heap.size _ rfl (load37 HK.out rfl)) rfl ?_
                      rw [← HF.out]
                      exact ⟨by unfold TR.val; simp only [HEX.out]; rfl, HX.out⟩
                · have HF := Lib.hid (show (⟨0, [], 0, 3⟩ : TR) = res by rw [← HR.out, numAt_eq _ _ _ _ _ _ _ _ _ _ _ _ h1 h2 (show _ = (true && false) by show (_ || _) = _; rw [hL, hU]; rfl) h10 rfl rfl rfl]; rfl)
                  have S3 := store3 ZW0.out (.int .i64 0) (.string ⟨#[]⟩) (.int .i64 0)
                  have HX := Lib.hid (S3.2 _ _ BW0.out (Nat.le_refl _))
                  have HK := Lib.hid S3.1
                  clear S3
                  go_wp2
                  refine bodyPost_ret (results_c3 rfl _ _ _ w.heap.size _ rfl (load37 HK.out rfl)) rfl ?_
                  rw [← HF.out]
                  exact ⟨rfl, HX.out⟩
              · have HF := Lib.hid (show (⟨0, [], 0, 2⟩ : TR) = res by rw [← HR.out, numAt_eq _ _ _ _ _ _ _ _ _ _ _ _ h1 h2 (show _ = (true && true) by show (_ || _) = _; rw [hL, hU]; rfl) rfl rfl rfl rfl]; first | rfl | (simp))
                go_wp2_with fail
                refine (CLX.out _).mono ?_
                rintro e w2 ⟨rfl, hw⟩
                replace hw := hw.symm
                subst hw
                have S3 := store3 ZW0.out (.int .i64 0) (.string ⟨#[]⟩) (.int .i64 0)
                have HX := Lib.hid (S3.2 _ _ BW0.out (Nat.le_refl _))
                have HK := Lib.hid S3.1
                clear S3
                go_wp2
                refine bodyPost_ret (results_c3 rfl _ _ _ w.heap.size _ rfl (load37 HK.out rfl)) rfl ?_
                rw [← HF.out]
                exact ⟨rfl, HX.out⟩
            · rw [hL] at CLX
              have HF := Lib.hid (show (⟨0, [], 0, 2⟩ : TR) = res by rw [← HR.out, numAt_eq _ _ _ _ _ _ _ _ _ _ _ _ h1 h2 (show _ = (true && true) by show (_ || _) = _; rw [hL]; rfl) rfl rfl rfl rfl]; first | rfl | (simp))
              go_wp2_with fail
              refine (CLX.out _).mono ?_
              rintro e w2 ⟨rfl, hw⟩
              replace hw := hw.symm
              subst hw
              have S3 := store3 ZW0.out (.int .i64 0) (.string ⟨#[]⟩) (.int .i64 0)
              have HX := Lib.hid (S3.2 _ _ BW0.out (Nat.le_refl _))
              have HK := Lib.hid S3.1
              clear S3
              go_wp2
              refine bodyPost_ret (results_c3 rfl _ _ _ w.heap.size _ rfl (load37 HK.out rfl)) rfl ?_
              rw [← HF.out]
              exact ⟨rfl, HX.out⟩
          · have HF := Lib.hid (show (⟨0, [], 0, 2⟩ : TR) = res by rw [← HR.out, numAt_eq _ _ _ _ _ _ _ _ _ _ _ _ h1 h2 (show _ = (true && _) from (Bool.true_and _).symm) rfl rfl rfl rfl]; rfl)
            have S3 := store3 ZW0.out (.int .i64 0) (.string ⟨#[]⟩) (.int .i64 0)
            have HX := Lib.hid (S3.2 _ _ BW0.out (Nat.le_refl _))
            have HK := Lib.hid S3.1
            clear S3
            go_wp2
            refine bodyPost_ret (results_c3 rfl _ _ _ w.heap.size _ rfl (load37 HK.out rfl)) rfl ?_
            rw [← HF.out]
            exact ⟨rfl, HX.out⟩
      · rw [hdg] at CDX
        have HQ := Lib.hid (show runP dgt (lst s) (k + 1) = m by rw [← runP_yes hkl (by rw [lst_get s k hlt hkl]; exact hdg)]; exact HE.out)
        go_wp2_with fail
        refine (CDX.out _).mono ?_
        rintro e w2 ⟨rfl, hw⟩
        replace hw := hw.symm
        subst hw
        go_wp2
        go_round
        case rel => exact ⟨k + 1, by omega, hlt, by go_num, HQ.out⟩
        case measure => simp [intOf]; omega
    · have hle : ¬ (k : Int) < s.size := by omega
      have HR := Lib.hid (show numAt s[0] k none ((lst s).take k) = res by
        rw [HR0.out, HN.out (runP_end (by rw [HL.out]; omega)), List.getElem?_eq_none (by rw [HL.out]; omega)])
      have hz0 : (0 : Int) < s.size := by omega
      cases h1 : decide ((1 : Int) < k)
      · skip
        cases h10 : decide ((10 : Int) < k)
        · cases e10 : ((k : Int) == 10)
          · have HF := Lib.hid (show (⟨3, (lst s).take k, k, 0⟩ : TR) = res by rw [← HR.out, numAt_eq _ _ _ _ _ _ _ _ _ _ _ _ h1 rfl (show _ = (false && false) from rfl) h10 e10 rfl rfl]; rfl)
            have S3 := store3 ZW0.out (.int .i64 3) (.string (s.extract 0 k)) (.int .i64 0)
            have HX := Lib.hid (S3.2 _ _ BW0.out (Nat.le_refl _))
            have HK := Lib.hid S3.1
            clear S3
            go_wp2
            refine bodyPost_ret (results_c3 rfl _ _ _ w.heap.size _ rfl (load37 HK.out rfl)) rfl ?_
            rw [← HF.out]
            exact ⟨by unfold TR.val; simp only [HEX.out]; rfl, HX.out⟩
          · cases b1 : Op.bytesLess ((lst s).take k) maxT
            · cases b2 : ((lst s).take k == maxT)
              · have HF := Lib.hid (show (⟨0, [], 0, 3⟩ : TR) = res by rw [← HR.out, numAt_eq _ _ _ _ _ _ _ _ _ _ _ _ h1 rfl (show _ = (false && false) from rfl) h10 e10 b1 b2]; rfl)
                rw [← HEL.out] at b1 b2
                unfold maxT at b1 b2
                have S3 := store3 ZW0.out (.int .i64 0) (.string ⟨#[]⟩) (.int .i64 0)
                have HX := Lib.hid (S3.2 _ _ BW0.out (Nat.le_refl _))
                have HK := Lib.hid S3.1
                clear S3
                go_wp2
                refine bodyPost_ret (results_c3 rfl _ _ _ w.heap.size _ rfl (load37 HK.out rfl)) rfl ?_
                rw [← HF.out]
                exact ⟨rfl, HX.out⟩
              · have HF := Lib.hid (show (⟨3, (lst s).take k, k, 0⟩ : TR) = res by rw [← HR.out, numAt_eq _ _ _ _ _ _ _ _ _ _ _ _ h1 rfl (show _ = (false && false) from rfl) h10 e10 b1 b2]; rfl)
                rw [← HEL.out] at b1 b2
                unfold maxT at b1 b2
                have S3 := store3 ZW0.out (.int .i64 3) (.string (s.extract 0 k)) (.int .i64 0)
                have HX := Lib.hid (S3.2 _ _ BW0.out (Nat.le_refl _))
                have HK := Lib.hid S3.1
                clear S3
                go_wp2
                refine bodyPost_ret (results_c3 rfl _ _ _ w.heap.size _ rfl (load37 HK.out rfl)) rfl ?_
                rw [← HF.out]
                exact ⟨by unfold TR.val; simp only [HEX.out]; rfl, HX.out⟩
            · have HF := Lib.hid (show (⟨3, (lst s).take k, k, 0⟩ : TR) = res by rw [← HR.out, numAt_eq _ _ _ _ _ _ _ _ _ _ _ _ h1 rfl (show _ = (false && false) from rfl) h10 e10 b1 rfl]; rfl)
              rw [← HEL.out] at b1
              unfold maxT at b1
              have S3 := store3 ZW0.out (.int .i64 3) (.string (s.extract 0 k)) (.int .i64 0)
              have HX := Lib.hid (S3.2 _ _ BW0.out (Nat.le_refl _))
              have HK := Lib.hid S3.1
              clear S3
              go_wp2
              refine bodyPost_ret (results_c3 rfl _ _ _ w.heap.size _ rfl (load37 HK.out rfl)) rfl ?_
              rw [← HF.out]
              exact ⟨by unfold TR.val; simp only [HEX.out]; rfl, HX.out⟩
        · have HF := Lib.hid (show (⟨0, [], 0, 3⟩ : TR) = res by rw [← HR.out, numAt_eq _ _ _ _ _ _ _ _ _ _ _ _ h1 rfl (show _ = (false && false) from rfl) h10 rfl rfl rfl]; rfl)
          have S3 := store3 ZW0.out (.int .i64 0) (.string ⟨#[]⟩) (.int .i64 0)
          have HX := Lib.hid (S3.2 _ _ BW0.out (Nat.le_refl _))
          have HK := Lib.hid S3.1
          clear S3
          go_wp2
          refine bodyPost_ret (results_c3 rfl _ _ _ w.heap.size _ rfl (load37 HK.out rfl)) rfl ?_
          rw [← HF.out]
          exact ⟨rfl, HX.out⟩
      · cases h2 : ((s[0].toNat : Int) == 48)
        · skip
          cases h10 : decide ((10 : Int) < k)
          · cases e10 : ((k : Int) == 10)
            · have HF := Lib.hid (show (⟨3, (lst s).take k, k, 0⟩ : TR) = res by rw [← HR.out, numAt_eq _ _ _ _ _ _ _ _ _ _ _ _ h1 h2 (show _ = (false && false) from rfl) h10 e10 rfl rfl]; rfl)
              have S3 := store3 ZW0.out (.int .i64 3) (.string (s.extract 0 k)) (.int .i64 0)
              have HX := Lib.hid (S3.2 _ _ BW0.out (Nat.le_refl _))
              have HK := Lib.hid S3.1
              clear S3
              go_wp2
              refine bodyPost_ret (results_c3 rfl _ _ _ w.heap.size _ rfl (load37 HK.out rfl)) rfl ?_
              rw [← HF.out]
              exact ⟨by unfold TR.val; simp only [HEX.out]; rfl, HX.out⟩
            · cases b1 : Op.bytesLess ((lst s).take k) maxT
              · cases b2 : ((lst s).take k == maxT)
                · have HF := Lib.hid (show (⟨0, [], 0, 3⟩ : TR) = res by rw [← HR.out, numAt_eq _ _ _ _ _ _ _ _ _ _ _ _ h1 h2 (show _ = (false && false) from rfl) h10 e10 b1 b2]; rfl)
                  rw [← HEL.out] at b1 b2
                  unfold maxT at b1 b2
                  have S3 := store3 ZW0.out (.int .i64 0) (.string ⟨#[]⟩) (.int .i64 0)
                  have HX := Lib.hid (S3.2 _ _ BW0.out (Nat.le_refl _))
                  have HK := Lib.hid S3.1
                  clear S3
                  go_wp2
                  refine bodyPost_ret (results_c3 rfl _ _ _ w.heap.size _ rfl (load37 HK.out rfl)) rfl ?_
                  rw [← HF.out]
                  exact ⟨rfl, HX.out⟩
                · have HF := Lib.hid (show (⟨3, (lst s).take k, k, 0⟩ : TR) = res by rw [← HR.out, numAt_eq _ _ _ _ _ _ _ _ _ _ _ _ h1 h2 (show _ = (false && false) from rfl) h10 e10 b1 b2]; rfl)
                  rw [← HEL.out] at b1 b2
                  unfold maxT at b1 b2
                  have S3 := store3 ZW0.out (.int .i64 3) (.string (s.extract 0 k)) (.int .i64 0)
                  have HX := Lib.hid (S3.2 _ _ BW0.out (Nat.le_refl _))
                  have HK := Lib.hid S3.1
                  clear S3
                  go_wp2
                  refine bodyPost_ret (results_c3 rfl _ _ _ w.heap.size _ rfl (load37 HK.out rfl)) rfl ?_
                  rw [← HF.out]
                  exact ⟨by unfold TR.val; simp only [HEX.out]; rfl, HX.out⟩
              · have HF := Lib.hid (show (⟨3, (lst s).take k, k, 0⟩ : TR) = res by rw [← HR.out, numAt_eq _ _ _ _ _ _ _ _ _ _ _ _ h1 h2 (show _ = (false && false) from rfl) h10 e10 b1 rfl]; rfl)
                rw [← HEL.out] at b1
                unfold maxT at b1
                have S3 := store3 ZW0.out (.int .i64 3) (.string (s.extract 0 k)) (.int .i64 0)
                have HX := Lib.hid (S3.2 _ _ BW0.out (Nat.le_refl _))
                have HK := Lib.hid S3.1
                clear S3
                go_wp2
                refine bodyPost_ret (results_c3 rfl _ _ _ w.heap.size _ rfl (load37 HK.out rfl)) rfl ?_
                rw [← HF.out]
                exact ⟨by unfold TR.val; simp only [HEX.out]; rfl, HX.out⟩
          · have HF := Lib.hid (show (⟨0, [], 0, 3⟩ : TR) = res by rw [← HR.out, numAt_eq _ _ _ _ _ _ _ _ _ _ _ _ h1 h2 (show _ = (false && false) from rfl) h10 rfl rfl rfl]; rfl)
            have S3 := store3 ZW0.out (.int .i64 0) (.string ⟨#[]⟩) (.int .i64 0)
            have HX := Lib.hid (S3.2 _ _ BW0.out (Nat.le_refl _))
            have HK := Lib.hid S3.1
            clear S3
            go_wp2
            refine bodyPost_ret (results_c3 rfl _ _ _ w.heap.size _ rfl (load37 HK.out rfl)) rfl ?_
            rw [← HF.out]
            exact ⟨rfl, HX.out⟩
        · have HF := Lib.hid (show (⟨0, [], 0, 2⟩ : TR) = res by rw [← HR.out, numAt_eq _ _ _ _ _ _ _ _ _ _ _ _ h1 h2 (show _ = (true && _) from (Bool.true_and _).symm) rfl rfl rfl rfl]; rfl)
          have S3 := store3 ZW0.out (.int .i64 0) (.string ⟨#[]⟩) (.int .i64 0)
          have HX := Lib.hid (S3.2 _ _ BW0.out (Nat.le_refl _))
          have HK := Lib.hid S3.1
          clear S3
          go_wp2
          refine bodyPost_ret (results_c3 rfl _ _ _ w.heap.size _ rfl (load37 HK.out rfl)) rfl ?_
          rw [← HF.out]
          exact ⟨rfl, HX.out⟩
end Go.Proofs.YtdkkflmhpncglaaDoor
