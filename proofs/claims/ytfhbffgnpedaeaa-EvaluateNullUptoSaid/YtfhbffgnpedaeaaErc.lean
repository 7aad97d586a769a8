/- The reference: whether an expression holds a column, or a test for the absent value; how many nodes it has. -/
import Derived.Test.YtfhbffgnpedaeaaEcl
namespace Go.Proofs.Ytfhbffgnpedaeaa
open Go.ChangeShapes Go.WideShapes Go.ChangeAt Go.RowKit Go.ChangeMaps

mutual
def nlM : Ex → Bool
  | .mk op _ _ _ _ _ _ args => decide (op = 17) || nlL args
def nlL : List Ex → Bool
  | [] => false
  | a :: l => nlM a || nlL l
end
theorem nlM_eq (x : Ex) : nlM x = (decide (x.op = 17) || nlL x.args) := by cases x; rw [nlM]; rfl
theorem nlL_drop (l : List Ex) (i : Nat) (h : i < l.length) : nlL (l.drop i) = (nlM l[i] || nlL (l.drop (i + 1))) := by
  rw [List.drop_eq_getElem_cons h]; simp [nlL]
set_option maxRecDepth 100000 in
set_option maxHeartbeats 2000000 in
theorem Columns_any (x : Ex) : ∀ w, ExAt w x → Calls Try.prog 46 #[x.agg] w fun e w' => e = .returned (.bool (colM x)) ∧ Below w.heap.size w w' := by
  refine Ex.ind (p := fun x => ∀ w, ExAt w x → Calls Try.prog 46 #[x.agg] w fun e w' => e = .returned (.bool (colM x)) ∧ Below w.heap.size w w') (fun x ih => ?_) x
  intro w h
  have HIH := Lib.hid (fun y hy W (hW : Below w.heap.size w W) => ih y hy W ((h.arg y hy).keep hW))
  have HA := Lib.hid h.at
  have hlen := h.len
  obtain ⟨r, hr⟩ : ∃ r, colM x = r := ⟨_, rfl⟩
  rw [hr]
  rw [colM_eq] at hr
  have HR := Lib.hid hr
  clear hr ih h
  unfold Ex.agg at *
  obtain ⟨op, hop⟩ : ∃ op, x.op = op := ⟨_, rfl⟩
  rw [hop] at HR ⊢
  clear hop
  have HB0 := Lib.hid (show Below w.heap.size w (w.alloc (.cells #[.int .i64 op, .string x.tb, .string x.nm, .int .i64 x.ix, .int .i64 x.v.k, .int .i64 x.v.n, .string x.v.s, .slice x.A x.args.length x.c] 26)) from (Below.refl _ w).alloc (Nat.le_refl _) _)
  have K := Lib.hid (show Blk (w.alloc (.cells #[.int .i64 op, .string x.tb, .string x.nm, .int .i64 x.ix, .int .i64 x.v.k, .int .i64 x.v.n, .string x.v.s, .slice x.A x.args.length x.c] 26)) w.heap.size 26 #[.int .i64 op, .string x.tb, .string x.nm, .int .i64 x.ix, .int .i64 x.v.k, .int .i64 x.v.n, .string x.v.s, .slice x.A x.args.length x.c] from Blk.new _ _ _)
  go_enter Try.func46, Try.ntmps46
  go_wp2
  go_loopw [3] (fun iv wr => ∃ i : Nat, iv = .int .i64 (i : Int) ∧ i ≤ x.args.length ∧ colL x.args = colL (x.args.drop i) ∧ Blk wr w.heap.size 26 #[.int .i64 op, .string x.tb, .string x.nm, .int .i64 x.ix, .int .i64 x.v.k, .int .i64 x.v.n, .string x.v.s, .slice x.A x.args.length x.c] ∧ Below w.heap.size w wr) (fun iv _ => x.args.length - (intOf iv).toNat)
  case atStart => exact ⟨0, rfl, Nat.zero_le _, rfl, K.out, HB0.out⟩
  case round =>
    obtain ⟨i, rfl, hin, hall, hk, hb⟩ := hrel
    have HB := Lib.hid hb
    have HALL := Lib.hid hall
    have HK := Lib.hid hk
    have k0 : wr.cell? ⟨w.heap.size, 0, none⟩ = some (.int .i64 op) := hk.cell 0
    clear hb hall
    by_cases hlt : i < x.args.length
    · have hlti : (i : Int) < x.args.length := by omega
      obtain ⟨b, off, hA, hbl, hc⟩ := HA.out (by omega)
      obtain ⟨c0, c1, c2, c3, c4, c5, c6, c7⟩ := hc wr HB.out i hlt
      have HD := Lib.hid (HALL.out.trans (colL_drop x.args i hlt))
      have CV := Lib.hid (HIH.out x.args[i] (List.getElem_mem hlt))
      have k7 : wr.cell? ⟨w.heap.size, 7, none⟩ = some (.slice (some ⟨b, off, none⟩) x.args.length x.c) := by rw [← hA]; exact hk.cell 7
      clear hc hbl hk
      have hA2 := Lib.hid hA
      rw [hA]
      clear hA
      generalize x.args[i] = y at *
      obtain ⟨vb, hvb⟩ : ∃ b, colM y = b := ⟨_, rfl⟩
      rw [hvb] at HD
      simp only [hvb] at CV
      clear hvb
      go_wp2_with fail
      refine (CV.out _ HB.out).mono ?_
      rintro e w2 ⟨rfl, hb⟩
      have HB2 := Lib.hid (HB.out.trans (hb.mono HB.out.size))
      have HK2 := Lib.hid (HK.out.below hb)
      clear hb
      cases vb
      · go_wp2
        go_roundw
        case rel => exact ⟨i + 1, by go_num, hlt, by rw [HD.out]; rfl, (by rw [← hA2.out]; exact HK2.out), HB2.out⟩
        case measure => simp [intOf]; omega
      · go_wp2
        go_ret
        exact ⟨ret_bool (by rw [← HR.out, HD.out]; simp), HB2.out⟩
    · have hi : i = x.args.length := by omega
      have k7 : wr.cell? ⟨w.heap.size, 7, none⟩ = some (.slice x.A x.args.length x.c) := hk.cell 7
      have HF := Lib.hid (show r = decide (op = 2) by rw [← HR.out, HALL.out, List.drop_of_length_le (by omega)]; simp [colL])
      subst hi
      clear hk
      by_cases h2 : op = 2
      · subst h2
        go_wp2
        go_ret
        exact ⟨ret_bool (by rw [HF.out]; rfl), HB.out⟩
      · have e2 : (op == 2) = false := by simpa using h2
        have HF2 := Lib.hid (show r = false by rw [HF.out]; simpa using h2)
        clear h2
        go_wp2
        go_ret
        exact ⟨ret_bool HF2.out.symm, HB.out⟩
set_option maxRecDepth 100000 in
set_option maxHeartbeats 2000000 in
theorem Nulls_any (x : Ex) : ∀ w, ExAt w x → Calls Try.prog 26 #[x.agg] w fun e w' => e = .returned (.bool (nlM x)) ∧ Below w.heap.size w w' := by
  refine Ex.ind (p := fun x => ∀ w, ExAt w x → Calls Try.prog 26 #[x.agg] w fun e w' => e = .returned (.bool (nlM x)) ∧ Below w.heap.size w w') (fun x ih => ?_) x
  intro w h
  have HIH := Lib.hid (fun y hy W (hW : Below w.heap.size w W) => ih y hy W ((h.arg y hy).keep hW))
  have HA := Lib.hid h.at
  have hlen := h.len
  obtain ⟨r, hr⟩ : ∃ r, nlM x = r := ⟨_, rfl⟩
  rw [hr]
  rw [nlM_eq] at hr
  have HR := Lib.hid hr
  clear hr ih h
  unfold Ex.agg at *
  obtain ⟨op, hop⟩ : ∃ op, x.op = op := ⟨_, rfl⟩
  rw [hop] at HR ⊢
  clear hop
  have HB0 := Lib.hid (show Below w.heap.size w (w.alloc (.cells #[.int .i64 op, .string x.tb, .string x.nm, .int .i64 x.ix, .int .i64 x.v.k, .int .i64 x.v.n, .string x.v.s, .slice x.A x.args.length x.c] 26)) from (Below.refl _ w).alloc (Nat.le_refl _) _)
  have K := Lib.hid (show Blk (w.alloc (.cells #[.int .i64 op, .string x.tb, .string x.nm, .int .i64 x.ix, .int .i64 x.v.k, .int .i64 x.v.n, .string x.v.s, .slice x.A x.args.length x.c] 26)) w.heap.size 26 #[.int .i64 op, .string x.tb, .string x.nm, .int .i64 x.ix, .int .i64 x.v.k, .int .i64 x.v.n, .string x.v.s, .slice x.A x.args.length x.c] from Blk.new _ _ _)
  go_enter Try.func26, Try.ntmps26
  go_wp2
  go_loopw [3] (fun iv wr => ∃ i : Nat, iv = .int .i64 (i : Int) ∧ i ≤ x.args.length ∧ nlL x.args = nlL (x.args.drop i) ∧ Blk wr w.heap.size 26 #[.int .i64 op, .string x.tb, .string x.nm, .int .i64 x.ix, .int .i64 x.v.k, .int .i64 x.v.n, .string x.v.s, .slice x.A x.args.length x.c] ∧ Below w.heap.size w wr) (fun iv _ => x.args.length - (intOf iv).toNat)
  case atStart => exact ⟨0, rfl, Nat.zero_le _, rfl, K.out, HB0.out⟩
  case round =>
    obtain ⟨i, rfl, hin, hall, hk, hb⟩ := hrel
    have HB := Lib.hid hb
    have HALL := Lib.hid hall
    have HK := Lib.hid hk
    have k0 : wr.cell? ⟨w.heap.size, 0, none⟩ = some (.int .i64 op) := hk.cell 0
    clear hb hall
    by_cases hlt : i < x.args.length
    · have hlti : (i : Int) < x.args.length := by omega
      obtain ⟨b, off, hA, hbl, hc⟩ := HA.out (by omega)
      obtain ⟨c0, c1, c2, c3, c4, c5, c6, c7⟩ := hc wr HB.out i hlt
      have HD := Lib.hid (HALL.out.trans (nlL_drop x.args i hlt))
      have CV := Lib.hid (HIH.out x.args[i] (List.getElem_mem hlt))
      have k7 : wr.cell? ⟨w.heap.size, 7, none⟩ = some (.slice (some ⟨b, off, none⟩) x.args.length x.c) := by rw [← hA]; exact hk.cell 7
      clear hc hbl hk
      have hA2 := Lib.hid hA
      rw [hA]
      clear hA
      generalize x.args[i] = y at *
      obtain ⟨vb, hvb⟩ : ∃ b, nlM y = b := ⟨_, rfl⟩
      rw [hvb] at HD
      simp only [hvb] at CV
      clear hvb
      go_wp2_with fail
      refine (CV.out _ HB.out).mono ?_
      rintro e w2 ⟨rfl, hb⟩
      have HB2 := Lib.hid (HB.out.trans (hb.mono HB.out.size))
      have HK2 := Lib.hid (HK.out.below hb)
      clear hb
      cases vb
      · go_wp2
        go_roundw
        case rel => exact ⟨i + 1, by go_num, hlt, by rw [HD.out]; rfl, (by rw [← hA2.out]; exact HK2.out), HB2.out⟩
        case measure => simp [intOf]; omega
      · go_wp2
        go_ret
        exact ⟨ret_bool (by rw [← HR.out, HD.out]; simp), HB2.out⟩
    · have hi : i = x.args.length := by omega
      have k7 : wr.cell? ⟨w.heap.size, 7, none⟩ = some (.slice x.A x.args.length x.c) := hk.cell 7
      have HF := Lib.hid (show r = decide (op = 17) by rw [← HR.out, HALL.out, List.drop_of_length_le (by omega)]; simp [nlL])
      subst hi
      clear hk
      by_cases h2 : op = 17
      · subst h2
        go_wp2
        go_ret
        exact ⟨ret_bool (by rw [HF.out]; rfl), HB.out⟩
      · have e2 : (op == 17) = false := by simpa using h2
        have HF2 := Lib.hid (show r = false by rw [HF.out]; simpa using h2)
        clear h2
        go_wp2
        go_ret
        exact ⟨ret_bool HF2.out.symm, HB.out⟩
end Go.Proofs.Ytfhbffgnpedaeaa
