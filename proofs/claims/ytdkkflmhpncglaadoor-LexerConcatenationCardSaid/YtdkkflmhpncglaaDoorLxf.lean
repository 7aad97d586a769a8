/- Unquote of both. -/
import Derived.Test.YtdkkflmhpncglaaDoorLxz
namespace Go.Proofs.YtdkkflmhpncglaaDoor
open Go.ChangeShapes Go.WideShapes Go.ChangeAt Go.RowKit Go.ChangeMaps

/-- The text of a literal. -/
def unqR (s : List UInt8) : Option (List UInt8 × Nat) → Option (List UInt8)
  | none => none
  | some x => if x.2 = s.length then (if 16 < x.1.length then none else some x.1) else none
def unqL (l : List UInt8) : Option (List UInt8) := if l.head? = some 39 then unqR l (litP l 1 []) else none
def unqV : Option (List UInt8) → Value
  | none => .tuple #[.string ⟨#[]⟩, .int .i64 2]
  | some t => .tuple #[.string ⟨t.toArray⟩, .int .i64 0]
def unqW : Option (List UInt8) → Value
  | none => .tuple #[.string ⟨#[]⟩, .bool false]
  | some t => .tuple #[.string ⟨t.toArray⟩, .bool true]
theorem head_of (s : ByteArray) (h : 0 < s.size) : (lst s).head? = some s[0] := by
  have h0 : 0 < (lst s).length := by rw [lst_len]; exact h
  rw [List.head?_eq_getElem?, List.getElem?_eq_getElem h0, lst_get s 0 h h0]
set_option maxRecDepth 100000 in
set_option maxHeartbeats 2000000 in
theorem RUnquote_any (s : ByteArray) (w : World) (hs : s.size ≤ 1000) : Calls Tryd.prog 22 #[.string s] w fun e w' => e = .returned (unqW (unqL (lst s))) ∧ w' = w := by
  have HL := Lib.hid (lst_len s)
  have HR0 := Lib.hid (show unqL (lst s) = if (lst s).head? = some 39 then unqR (lst s) (litP (lst s) 1 []) else none from rfl)
  obtain ⟨r, hr⟩ : ∃ r, unqL (lst s) = r := ⟨_, rfl⟩
  rw [hr] at HR0
  rw [hr]
  clear hr
  obtain ⟨V, hV⟩ : ∃ V, unqW r = V := ⟨_, rfl⟩
  rw [hV]
  have HV := Lib.hid hV
  clear hV
  by_cases h2 : s.size < 2
  · have h2i : (s.size : Int) < 2 := by omega
    have HF := Lib.hid (show none = r by
      rw [HR0.out]
      rw [litP_end _ 1 _ (by rw [HL.out]; omega)]
      split <;> rfl)
    go_enter Tryd.func22, Tryd.ntmps22
    go_wp2
    go_ret2
    rw [← HV.out, ← HF.out]
    exact ⟨rfl, rfl⟩
  · have h2i : ¬ (s.size : Int) < 2 := by omega
    have h0 : 0 < s.size := by omega
    have h0i : (0 : Int) < s.size := by omega
    have HH := Lib.hid (head_of s h0)
    cases hq : ((s[0].toNat : Int) == 39)
    · have HF := Lib.hid (show none = r by
        rw [HR0.out, if_neg (by
          rw [HH.out]
          intro e
          have := (quo_iff _).1 (Option.some.inj e)
          rw [this] at hq
          exact absurd hq (by decide))])
      go_enter Tryd.func22, Tryd.ntmps22
      go_wp2
      go_ret2
      rw [← HV.out, ← HF.out]
      exact ⟨rfl, rfl⟩
    · have HR := Lib.hid (show r = unqR (lst s) (litP (lst s) 1 []) by
        rw [HR0.out, if_pos (by rw [HH.out]; exact congrArg some ((quo_iff _).2 (beq_iff_eq.1 hq)))])
      have CL := Lib.hid (fun W => literal_any s 0 W (by omega) h0)
      rw [show (0 : Nat) + 1 = 1 from rfl] at CL
      generalize litP (lst s) 1 [] = R at *
      rcases R with _ | ⟨t, n⟩
      · have HF := Lib.hid (show none = r by rw [HR.out]; rfl)
        unfold litV at CL
        simp only at CL
        have hne : ((-1 : Int) == (s.size : Int)) = false := beq_false_of_ne (by omega)
        go_enter Tryd.func22, Tryd.ntmps22
        go_wp2_with fail
        refine (CL.out _).mono ?_
        rintro e wa ⟨rfl, hw⟩
        replace hw := hw.symm
        subst hw
        go_wp2
        go_ret2
        rw [← HV.out, ← HF.out]
        exact ⟨rfl, rfl⟩
      · unfold litV at CL
        simp only at CL
        have HUS := Lib.hid (show (⟨t.toArray⟩ : ByteArray).size = t.length from rfl)
        obtain ⟨u, hu⟩ : ∃ u : ByteArray, (⟨t.toArray⟩ : ByteArray) = u := ⟨_, rfl⟩
        rw [hu] at CL HUS
        have HU := Lib.hid hu
        clear hu
        by_cases hn : n = s.size
        · have hne : ((n : Int) == (s.size : Int)) = true := by simp; omega
          by_cases h16 : 16 < t.length
          · have HF := Lib.hid (show none = r by rw [HR.out]; unfold unqR; simp only; rw [if_pos (by rw [HL.out]; exact hn), if_pos h16])
            have h16i : (16 : Int) < u.size := by rw [HUS.out]; omega
            go_enter Tryd.func22, Tryd.ntmps22
            go_wp2_with fail
            refine (CL.out _).mono ?_
            rintro e wa ⟨rfl, hw⟩
            replace hw := hw.symm
            subst hw
            go_wp2
            go_ret2
            rw [← HV.out, ← HF.out]
            exact ⟨rfl, rfl⟩
          · have HF := Lib.hid (show some t = r by rw [HR.out]; unfold unqR; simp only; rw [if_pos (by rw [HL.out]; exact hn), if_neg h16])
            have h16i : ¬ (16 : Int) < u.size := by rw [HUS.out]; omega
            go_enter Tryd.func22, Tryd.ntmps22
            go_wp2_with fail
            refine (CL.out _).mono ?_
            rintro e wa ⟨rfl, hw⟩
            replace hw := hw.symm
            subst hw
            go_wp2
            go_ret2
            rw [← HV.out, ← HF.out]
            exact ⟨by unfold unqW; simp only [HU.out]; rfl, rfl⟩
        · have hne : ((n : Int) == (s.size : Int)) = false := by simp; omega
          have HF := Lib.hid (show none = r by rw [HR.out]; unfold unqR; simp only; rw [if_neg (by rw [HL.out]; exact hn)])
          go_enter Tryd.func22, Tryd.ntmps22
          go_wp2_with fail
          refine (CL.out _).mono ?_
          rintro e wa ⟨rfl, hw⟩
          replace hw := hw.symm
          subst hw
          go_wp2
          go_ret2
          rw [← HV.out, ← HF.out]
          exact ⟨rfl, rfl⟩
set_option maxRecDepth 100000 in
set_option maxHeartbeats 2000000 in
theorem Unquote_any (s : ByteArray) (w : World) (hs : s.size ≤ 1000) (hE : LEnv w) : Calls Tryd.prog 20 #[.string s] w fun e w' => e = .returned (unqV (unqL (lst s))) ∧ Below w.heap.size w w' := by
  have HL := Lib.hid (lst_len s)
  have HE := Lib.hid hE
  clear hE
  have HR0 := Lib.hid (show unqL (lst s) = if (lst s).head? = some 39 then unqR (lst s) (litP (lst s) 1 []) else none from rfl)
  obtain ⟨r, hr⟩ : ∃ r, unqL (lst s) = r := ⟨_, rfl⟩
  rw [hr] at HR0
  rw [hr]
  clear hr
  obtain ⟨V, hV⟩ : ∃ V, unqV r = V := ⟨_, rfl⟩
  rw [hV]
  have HV := Lib.hid hV
  clear hV
  by_cases h0 : s.size = 0
  · have HS0 := Lib.hid h0
    have htl : s.toList = [] := by rw [tol]; exact List.eq_nil_of_length_eq_zero (by rw [HL.out]; exact h0)
    have hte : s.toList.isEmpty = true := by rw [htl]; rfl
    have HF := Lib.hid (show none = r by
      rw [HR0.out]
      rw [litP_end _ 1 _ (by rw [HL.out]; omega)]
      split <;> rfl)
    clear h0
    go_enter Tryd.func20, Tryd.ntmps20
    go_wp2
    go_ret2
    rw [← HV.out, ← HF.out]
    exact ⟨rfl, Below.refl _ _⟩
  · have h0 : 0 < s.size := by omega
    have h0i : (0 : Int) < s.size := by omega
    have htl : ¬ s.toList = [] := by rw [tol]; intro e; have := HL.out; rw [e] at this; simp at this; omega
    have hte : s.toList.isEmpty = false := by simpa using htl
    have HH := Lib.hid (head_of s h0)
    cases hq : ((s[0].toNat : Int) == 39)
    · have HF := Lib.hid (show none = r by
        rw [HR0.out, if_neg (by
          rw [HH.out]
          intro e
          have := (quo_iff _).1 (Option.some.inj e)
          rw [this] at hq
          exact absurd hq (by decide))])
      go_enter Tryd.func20, Tryd.ntmps20
      go_wp2
      go_ret2
      rw [← HV.out, ← HF.out]
      exact ⟨rfl, Below.refl _ _⟩
    · have HR := Lib.hid (show r = unqR (lst s) (litP (lst s) 1 []) by
        rw [HR0.out, if_pos (by rw [HH.out]; exact congrArg some ((quo_iff _).2 (beq_iff_eq.1 hq)))])
      have CL := Lib.hid (fun W hW => text_any s W (by omega) h0 hW)
      unfold textR at CL
      generalize litP (lst s) 1 [] = R at *
      clear HR0
      have HTX : ∃ (xk : Int) (xt : List UInt8) (xn : Nat) (xe : Int), textAt R = ⟨xk, xt, xn, xe⟩ ∧ ((xe ≠ 0 ∧ none = r) ∨ (xe = 0 ∧ xn ≠ s.size ∧ none = r) ∨ (xe = 0 ∧ xn = s.size ∧ some xt = r)) := by
        rcases R with _ | ⟨t, n⟩
        · exact ⟨_, _, _, _, rfl, .inl ⟨by decide, by rw [HR.out]; rfl⟩⟩
        · by_cases h16 : 16 < t.length
          · exact ⟨0, [], 0, 3, if_pos h16, .inl ⟨by decide, by
              rw [HR.out]; unfold unqR; simp only
              split
              · rfl
              · rfl⟩⟩
          · by_cases hn : n = s.size
            · exact ⟨4, t, n, 0, if_neg h16, .inr (.inr ⟨rfl, hn, by rw [HR.out]; unfold unqR; simp only; rw [if_pos (by rw [HL.out]; exact hn), if_neg h16]⟩)⟩
            · exact ⟨4, t, n, 0, if_neg h16, .inr (.inl ⟨rfl, hn, by rw [HR.out]; unfold unqR; simp only; rw [if_neg (by rw [HL.out]; exact hn)]⟩)⟩
      obtain ⟨xk, xt, xn, xe, hX, hcase⟩ := HTX
      rw [hX] at CL
      unfold TR.val at CL
      simp only at CL
      clear hX HR
      obtain ⟨u, hu⟩ : ∃ u : ByteArray, (⟨xt.toArray⟩ : ByteArray) = u := ⟨_, rfl⟩
      rw [hu] at CL
      have HU := Lib.hid hu
      clear hu
      rcases hcase with ⟨he, hf⟩ | ⟨rfl, hn, hf⟩ | ⟨rfl, hn, hf⟩
      · have HF := Lib.hid hf
        clear hf
        have hee : (xe == 0) = false := by simpa using he
        have hen : (xe != 0) = true := by simpa using he
        go_enter Tryd.func20, Tryd.ntmps20
        go_wp2_with fail
        refine (CL.out _ HE.out).mono ?_
        rintro e w1 ⟨rfl, hb⟩
        have HB := Lib.hid hb
        clear hb
        obtain ⟨W3, hW3⟩ : ∃ W, W = w1.alloc (.cells #[.int .i64 xk, .string u, .int .i64 0] 37) := ⟨_, rfl⟩
        have K3 := Lib.hid (show Blk W3 w1.heap.size 37 #[.int .i64 xk, .string u, .int .i64 0] by rw [hW3]; exact Blk.new _ _ _)
        have B3 := Lib.hid (show Below w.heap.size w W3 by rw [hW3]; exact HB.out.alloc HB.out.size _)
        have c1 : W3.cell? ⟨w1.heap.size, 1, none⟩ = some (.string u) := K3.out.cell 1
        go_upto_region 4 with fail
        rw [← hW3]
        clear hW3
        go_wp2
        go_ret2
        rw [← HV.out, ← HF.out]
        exact ⟨by first | rfl | (unfold unqV; simp only [HU.out]; rfl), B3.out⟩
      · have HF := Lib.hid hf
        clear hf
        have hnn : ((xn : Int) == (s.size : Int)) = false := by simp; omega
        have hnb : ((xn : Int) != (s.size : Int)) = true := by simp; omega
        clear hn
        go_enter Tryd.func20, Tryd.ntmps20
        go_wp2_with fail
        refine (CL.out _ HE.out).mono ?_
        rintro e w1 ⟨rfl, hb⟩
        have HB := Lib.hid hb
        clear hb
        obtain ⟨W3, hW3⟩ : ∃ W, W = w1.alloc (.cells #[.int .i64 xk, .string u, .int .i64 0] 37) := ⟨_, rfl⟩
        have K3 := Lib.hid (show Blk W3 w1.heap.size 37 #[.int .i64 xk, .string u, .int .i64 0] by rw [hW3]; exact Blk.new _ _ _)
        have B3 := Lib.hid (show Below w.heap.size w W3 by rw [hW3]; exact HB.out.alloc HB.out.size _)
        have c1 : W3.cell? ⟨w1.heap.size, 1, none⟩ = some (.string u) := K3.out.cell 1
        go_upto_region 4 with fail
        rw [← hW3]
        clear hW3
        go_wp2
        go_ret2
        rw [← HV.out, ← HF.out]
        exact ⟨by first | rfl | (unfold unqV; simp only [HU.out]; rfl), B3.out⟩
      · have HF := Lib.hid hf
        clear hf
        have hnn : ((xn : Int) == (s.size : Int)) = true := by simp; omega
        have hnb : ((xn : Int) != (s.size : Int)) = false := by simp; omega
        clear hn
        go_enter Tryd.func20, Tryd.ntmps20
        go_wp2_with fail
        refine (CL.out _ HE.out).mono ?_
        rintro e w1 ⟨rfl, hb⟩
        have HB := Lib.hid hb
        clear hb
        obtain ⟨W3, hW3⟩ : ∃ W, W = w1.alloc (.cells #[.int .i64 xk, .string u, .int .i64 0] 37) := ⟨_, rfl⟩
        have K3 := Lib.hid (show Blk W3 w1.heap.size 37 #[.int .i64 xk, .string u, .int .i64 0] by rw [hW3]; exact Blk.new _ _ _)
        have B3 := Lib.hid (show Below w.heap.size w W3 by rw [hW3]; exact HB.out.alloc HB.out.size _)
        have c1 : W3.cell? ⟨w1.heap.size, 1, none⟩ = some (.string u) := K3.out.cell 1
        go_upto_region 4 with fail
        rw [← hW3]
        clear hW3
        go_wp2
        go_ret2
        rw [← HV.out, ← HF.out]
        exact ⟨by first | rfl | (unfold unqV; simp only [HU.out]; rfl), B3.out⟩
end Go.Proofs.YtdkkflmhpncglaaDoor
