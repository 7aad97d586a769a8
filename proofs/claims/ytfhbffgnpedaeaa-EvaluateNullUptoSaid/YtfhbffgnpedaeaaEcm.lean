/- The columns of an expression. -/
import Derived.Test.YtfhbffgnpedaeaaEcl
namespace Go.Proofs.Ytfhbffgnpedaeaa
open Go.ChangeShapes Go.WideShapes Go.ChangeAt Go.RowKit Go.ChangeMaps

mutual
def colsM : Ex → List Ex
  | .mk op tb nm ix v A c args => if op = 2 then [.mk op tb nm ix v A c args] else colsL args
def colsL : List Ex → List Ex
  | [] => []
  | a :: l => colsM a ++ colsL l
end
theorem colsM_eq (x : Ex) : colsM x = if x.op = 2 then [x] else colsL x.args := by cases x; rw [colsM]; rfl
theorem colsL_take (l : List Ex) (i : Nat) (h : i < l.length) : colsL (l.take (i + 1)) = colsL (l.take i) ++ colsM l[i] := by
  induction l generalizing i with
  | nil => simp at h
  | cons a l ih =>
    cases i with
    | zero => simp [colsL]
    | succ i => simp only [List.take_succ_cons, colsL, List.append_assoc, List.getElem_cons_succ]; rw [ih i (by simpa using h)]
theorem colsL_len (l : List Ex) (i : Nat) : (colsL (l.take i)).length ≤ (colsL l).length := by
  induction l generalizing i with
  | nil => simp [colsL]
  | cons a l ih =>
    cases i with
    | zero => simp [colsL]
    | succ i => simp only [List.take_succ_cons, colsL, List.length_append]; have := ih i; omega
theorem ex_one (l : List Ex) : ∀ u ∈ l.flatMap Ex.cells, u.oneCell' = true := by
  intro u hu
  obtain ⟨x, _, hx⟩ := List.mem_flatMap.1 hu
  simp only [Ex.cells, List.mem_cons, List.not_mem_nil, or_false] at hx
  rcases hx with rfl | rfl | rfl | rfl | rfl | rfl | rfl | rfl <;> rfl
set_option maxRecDepth 100000 in
set_option maxHeartbeats 2000000 in
theorem cols_any (x : Ex) : ∀ w, ExAt w x → (colsM x).length ≤ 1048576 → Calls Try.prog 23 #[x.agg] w fun e w' => ∃ A c, e = .returned (.slice A (colsM x).length c) ∧ At w' A (colsM x).length 8 ((colsM x).flatMap Ex.cells) ∧ Below w.heap.size w w' := by
  refine Ex.ind (p := fun x => ∀ w, ExAt w x → (colsM x).length ≤ 1048576 → Calls Try.prog 23 #[x.agg] w fun e w' => ∃ A c, e = .returned (.slice A (colsM x).length c) ∧ At w' A (colsM x).length 8 ((colsM x).flatMap Ex.cells) ∧ Below w.heap.size w w') (fun x ih => ?_) x
  intro w h hlen
  obtain ⟨i0, hi, hz0, hz1, hz2⟩ := info_parts (show (Try.prog.info? 26).map (fun i => (i.zero, i.size, i.bytes)) = some (some (.agg #[.int .i64 0, .string ⟨#[]⟩, .string ⟨#[]⟩, .int .i64 0, .int .i64 0, .int .i64 0, .string ⟨#[]⟩, .slice none 0 0]), 8, 104) by kernel_rfl)
  obtain ⟨C, hC⟩ : ∃ C, colsM x = C := ⟨_, rfl⟩
  rw [hC] at hlen ⊢
  rw [colsM_eq] at hC
  have HC := Lib.hid hC
  have HA := Lib.hid h.at
  have HIH := Lib.hid (fun y hy W (hW : Below w.heap.size w W) => ih y hy W ((h.arg y hy).keep hW))
  have HX := Lib.hid (show x.cells.toArray = #[.int .i64 x.op, .string x.tb, .string x.nm, .int .i64 x.ix, .int .i64 x.v.k, .int .i64 x.v.n, .string x.v.s, .slice x.A x.args.length x.c] from rfl)
  have HXc := Lib.hid (show x.cells = [.int .i64 x.op, .string x.tb, .string x.nm, .int .i64 x.ix, .int .i64 x.v.k, .int .i64 x.v.n, .string x.v.s, .slice x.A x.args.length x.c] from rfl)
  have hxl := h.len
  clear hC ih h
  unfold Ex.agg at *
  obtain ⟨op, hop⟩ : ∃ op, x.op = op := ⟨_, rfl⟩
  rw [hop] at HC HXc ⊢
  clear HX
  by_cases h2 : op = 2
  · subst h2
    have HC2 := Lib.hid (show [x] = C by rw [← HC.out]; rfl)
    obtain rfl := HC2.out
    clear HC HC2 hop
    go_enter Try.func23, Try.ntmps23
    go_wp2
    go_ret
    refine ⟨_, _, rfl, ?_, ((Below.refl _ w).alloc (Nat.le_refl _) _).alloc (by simp) _⟩
    refine ⟨by simp [Ex.cells], fun _ => ⟨w.heap.size + 1, 0, rfl, by simp, fun j u hj => ?_⟩⟩
    simp only [List.flatMap_cons, List.flatMap_nil, List.append_nil] at hj
    rw [HXc.out] at hj
    refine newcell _ _ (by simp) ?_
    simpa using hj
  have e2 : (op == 2) = false := by simpa using h2
  have HC2 := Lib.hid (show colsL x.args = C by rw [← HC.out, if_neg h2])
  have HCl := Lib.hid (show ∀ i, (colsL (x.args.take i)).length ≤ C.length from fun i => by rw [← HC2.out]; exact colsL_len _ _)
  clear HC hop h2 HXc
  obtain ⟨W0, hW0⟩ : ∃ W, W = w.alloc (.cells #[.int .i64 op, .string x.tb, .string x.nm, .int .i64 x.ix, .int .i64 x.v.k, .int .i64 x.v.n, .string x.v.s, .slice x.A x.args.length x.c] 26) := ⟨_, rfl⟩
  have HB0 := Lib.hid (show Below w.heap.size w W0 by rw [hW0]; exact (Below.refl _ w).alloc (Nat.le_refl _) _)
  have HS0 := Lib.hid (show W0.heap.size = w.heap.size + 1 by rw [hW0]; simp)
  go_enter Try.func23, Try.ntmps23
  go_wp2
  rw [← hW0]
  clear hW0
  go_loopw [3, 14] (fun s3 iv wr => ∃ (k : Nat) (v : Value), v = s3 ∧ iv = .int .i64 (k : Int) ∧ k ≤ x.args.length ∧ wr.ownsRow (w.heap.size + 1) 26 8 v (colsL (x.args.take k)).length ((colsL (x.args.take k)).flatMap Ex.cells) ∧ Below w.heap.size w wr ∧ w.heap.size + 1 ≤ wr.heap.size) (fun _ iv _ => x.args.length - (intOf iv).toNat)
  case atStart => exact ⟨0, _, rfl, rfl, Nat.zero_le _, World.ownsRow_nil _ _ _ _, HB0.out, by rw [HS0.out]; exact Nat.le_refl _⟩
  case round =>
    obtain ⟨k, s3, rfl, rfl, hkn, hO, hB, hsz⟩ := hrel
    have HO := Lib.hid hO
    have HB := Lib.hid hB
    have HSZ := Lib.hid hsz
    clear hO hB hsz HB0 HS0
    by_cases hlt : k < x.args.length
    · have hlti : (k : Int) < x.args.length := by omega
      obtain ⟨b, off, hA, hbl, hc⟩ := HA.out (by omega)
      obtain ⟨c0, c1, c2, c3, c4, c5, c6, c7⟩ := hc wr HB.out k hlt
      have CV := Lib.hid (HIH.out x.args[k] (List.getElem_mem hlt))
      have HT := Lib.hid (colsL_take x.args k hlt)
      have HL1 := Lib.hid (show (colsL (x.args.take k)).length + (colsM x.args[k]).length ≤ 1048576 by
        have := HCl.out (k + 1); rw [HT.out, List.length_append] at this; omega)
      clear hc hbl
      rw [hA]
      generalize x.args[k] = y at *
      obtain ⟨D, hD⟩ : ∃ D, colsL (x.args.take k) = D := ⟨_, rfl⟩
      obtain ⟨E, hE⟩ : ∃ E, colsM y = E := ⟨_, rfl⟩
      rw [hD, hE] at HL1 HT
      rw [hD] at HO
      simp only [hE] at CV
      clear hD hE
      obtain ⟨W3, hW3⟩ : ∃ W3, W3 = wr.alloc (.cells #[.int .i64 y.op, .string y.tb, .string y.nm, .int .i64 y.ix, .int .i64 y.v.k, .int .i64 y.v.n, .string y.v.s, .slice y.A y.args.length y.c] 26) := ⟨_, rfl⟩
      have hba := Lib.hid (show Below w.heap.size w W3 by rw [hW3]; exact HB.out.alloc HB.out.size _)
      have HO3 := Lib.hid (show W3.ownsRow (w.heap.size + 1) 26 8 s3 D.length (D.flatMap Ex.cells) by rw [hW3]; exact HO.out.alloc _)
      have HS3 := Lib.hid (show w.heap.size + 1 ≤ W3.heap.size by rw [hW3]; have := HSZ.out; simp; omega)
      go_wp2_with fail
      rw [← hW3]
      clear hW3 c0 c1 c2 c3 c4 c5 c6 c7 HO HB
      refine (CV.out _ hba.out (by have := HL1.out; omega)).mono ?_
      rintro e w2 ⟨A2, a2, rfl, hat, hb⟩
      have HAT := Lib.hid hat
      have HO4 := Lib.hid (own_below HO3.out hb)
      have HB4 := Lib.hid (hba.out.trans (hb.mono hba.out.size))
      have HS4 := Lib.hid (Nat.le_trans HS3.out hb.size)
      clear hb hat hba HO3 HS3
      go_wp2_with (at_builtin; go_loud (refine wpList_append_src _ rfl _ _ 24 24 rfl (w.heap.size + 1) 26 i0 _ 8 104 Try.underlying24 hi hz0 hz1 hz2 rfl s3 _ _ rfl HO4.out _ _ _ rfl (At.src Try.underlying24 HAT.out (ex_one E) (by decide)) ?c1 ?c2 HS4.out ?_))
      case c1 => have := HL1.out; unfold maxLen; omega
      case c2 => have := HL1.out; omega
      intro v' w5 own' hg _
      have HO5 := Lib.hid (show w5.ownsRow (w.heap.size + 1) 26 8 v' (colsL (x.args.take (k + 1))).length ((colsL (x.args.take (k + 1))).flatMap Ex.cells) by
        rw [HT.out, List.length_append, List.flatMap_append]; exact own')
      have HB5 := Lib.hid (show Below w.heap.size w w5 from HB4.out.grown hg (Nat.le_trans (Nat.le_succ _) HS4.out) (fun j hj => Nat.le_trans (Nat.le_succ _) (HO4.out.lt j hj).1))
      have HS5 := Lib.hid (Nat.le_trans HS4.out hg.size)
      clear own' hg
      go_wp2
      go_roundw
      case rel => exact ⟨k + 1, _, rfl, by go_num, hlt, HO5.out, HB5.out, HS5.out⟩
      case measure => simp only [intOf]; rw [show ((k : Int) + 1).toNat = k + 1 by omega]; omega
    · have hlti : ¬ (k : Int) < x.args.length := by omega
      obtain rfl : k = x.args.length := by omega
      have HF := Lib.hid (show colsL (x.args.take x.args.length) = C by rw [List.take_length]; exact HC2.out)
      obtain ⟨A3, a3, rfl, hat, -⟩ := At.of_own HO.out
      have HAT := Lib.hid hat
      rw [HF.out] at HAT ⊢
      clear hat
      go_wp2
      go_ret
      first | exact ⟨A3, ⟨a3, rfl⟩, HAT.out, HB.out⟩ | exact ⟨A3, a3, rfl, HAT.out, HB.out⟩
end Go.Proofs.Ytfhbffgnpedaeaa
