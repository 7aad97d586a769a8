/- Whether an expression holds a column; the expressions that the law makes. -/
import Derived.Test.YtfhbffgnpedaeaaEtm
import Derived.Test.YtfhbffgnpedaeaaEvd
namespace Go.Proofs.Ytfhbffgnpedaeaa
open Go.ChangeShapes Go.WideShapes Go.ChangeAt Go.RowKit Go.ChangeMaps

mutual
def colM : Ex → Bool
  | .mk op _ _ _ _ _ _ args => decide (op = 2) || colL args
def colL : List Ex → Bool
  | [] => false
  | a :: l => colM a || colL l
end
theorem colM_eq (x : Ex) : colM x = (decide (x.op = 2) || colL x.args) := by cases x; rw [colM]; rfl
theorem colL_drop (l : List Ex) (i : Nat) (h : i < l.length) : colL (l.drop i) = (colM l[i] || colL (l.drop (i + 1))) := by
  rw [List.drop_eq_getElem_cons h]; simp [colL]
set_option maxRecDepth 100000 in
set_option maxHeartbeats 2000000 in
theorem hasColumn_any (x : Ex) : ∀ w, ExAt w x → Calls Try.prog 45 #[x.agg] w fun e w' => e = .returned (.bool (colM x)) ∧ Below w.heap.size w w' := by
  refine Ex.ind (p := fun x => ∀ w, ExAt w x → Calls Try.prog 45 #[x.agg] w fun e w' => e = .returned (.bool (colM x)) ∧ Below w.heap.size w w') (fun x ih => ?_) x
  intro w h
  have HIH := Lib.hid (fun y hy W (hW : Below w.heap.size w W) => ih y hy W ((h.arg y hy).keep hW))
  have HA := Lib.hid h.at
  have hlen := h.len
  obtain ⟨r, hr⟩ : ∃ r, colM x = r := ⟨_, rfl⟩
  rw [hr]
  rw [colM_eq] at hr
  have HR := Lib.hid hr
  clear hr ih h
  unfold Ex.agg at *
  obtain ⟨op, hop⟩ : ∃ op, x.op = op := ⟨_, rfl⟩
  rw [hop] at HR ⊢
  clear hop
  have HB0 := Lib.hid (show Below w.heap.size w (w.alloc (.cells #[.int .i64 op, .string x.tb, .string x.nm, .int .i64 x.ix, .int .i64 x.v.k, .int .i64 x.v.n, .string x.v.s, .slice x.A x.args.length x.c] 26)) from (Below.refl _ w).alloc (Nat.le_refl _) _)
  by_cases h2 : op = 2
  · subst h2
    go_enter Try.func45, Try.ntmps45
    go_wp2
    go_ret
    exact ⟨ret_bool (by rw [← HR.out]; simp), HB0.out⟩
  have e2 : (op == 2) = false := by simpa using h2
  have HR2 := Lib.hid (show colL x.args = r by rw [← HR.out]; simp [h2])
  clear HR h2
  go_enter Try.func45, Try.ntmps45
  go_wp2
  go_loopw [11] (fun iv wr => ∃ i : Nat, iv = .int .i64 (i : Int) ∧ i ≤ x.args.length ∧ colL x.args = colL (x.args.drop i) ∧ Below w.heap.size w wr) (fun iv _ => x.args.length - (intOf iv).toNat)
  case atStart => exact ⟨0, rfl, Nat.zero_le _, rfl, HB0.out⟩
  case round =>
    obtain ⟨i, rfl, hin, hall, hb⟩ := hrel
    have HB := Lib.hid hb
    have HALL := Lib.hid hall
    clear hb hall
    by_cases hlt : i < x.args.length
    · have hlti : (i : Int) < x.args.length := by omega
      obtain ⟨b, off, hA, hbl, hc⟩ := HA.out (by omega)
      obtain ⟨c0, c1, c2, c3, c4, c5, c6, c7⟩ := hc wr HB.out i hlt
      have HD := Lib.hid (HALL.out.trans (colL_drop x.args i hlt))
      have CV := Lib.hid (HIH.out x.args[i] (List.getElem_mem hlt))
      rw [hA]
      clear hc hbl hA
      generalize x.args[i] = y at *
      obtain ⟨vb, hvb⟩ : ∃ b, colM y = b := ⟨_, rfl⟩
      rw [hvb] at HD
      simp only [hvb] at CV
      clear hvb
      go_wp2_with fail
      refine (CV.out _ (HB.out.alloc HB.out.size _)).mono ?_
      rintro e w2 ⟨rfl, hb⟩
      have HB2 := Lib.hid ((HB.out.alloc HB.out.size _).trans (hb.mono (HB.out.alloc HB.out.size _).size))
      clear hb
      cases vb
      · go_wp2
        go_roundw
        case rel => exact ⟨i + 1, by go_num, hlt, by rw [HD.out]; rfl, HB2.out⟩
        case measure => simp [intOf]; omega
      · go_wp2
        go_ret
        exact ⟨ret_bool (by rw [← HR2.out, HD.out]; rfl), HB2.out⟩
    · have hi : i = x.args.length := by omega
      have HF := Lib.hid (show r = false by rw [← HR2.out, HALL.out, List.drop_of_length_le (by omega)]; rfl)
      subst hi
      go_wp2
      go_ret
      exact ⟨ret_bool HF.out.symm, HB.out⟩
theorem node_any (op : Int) (A : Option Addr) (n c : Nat) (w : World) : Calls Try.prog 24 #[.int .i64 op, .slice A n c] w fun e w' => e = .returned (.agg #[.int .i64 op, .string ⟨#[]⟩, .string ⟨#[]⟩, .int .i64 0, .int .i64 0, .int .i64 0, .string ⟨#[]⟩, .slice A n c]) ∧ Below w.heap.size w w' := by
  go_enter Try.func24, Try.ntmps24
  go_wp2
  go_returns
  exact ⟨rfl, (Below.refl _ w).alloc (Nat.le_refl _) _⟩
theorem number_any (n : Int) (w : World) : Calls Try.prog 25 #[.int .i64 n] w fun e w' => e = .returned (.agg #[.int .i64 1, .string ⟨#[]⟩, .string ⟨#[]⟩, .int .i64 0, .int .i64 1, .int .i64 n, .string ⟨#[]⟩, .slice none 0 0]) ∧ Below w.heap.size w w' := by
  go_enter Try.func25, Try.ntmps25
  go_wp2
  go_returns
  exact ⟨rfl, (Below.refl _ w).alloc (Nat.le_refl _) _⟩
theorem column_any (n : Int) (w : World) : Calls Try.prog 29 #[.int .i64 n] w fun e w' => e = .returned (.agg #[.int .i64 2, .string ⟨#[]⟩, .string ⟨#[]⟩, .int .i64 n, .int .i64 0, .int .i64 0, .string ⟨#[]⟩, .slice none 0 0]) ∧ Below w.heap.size w w' := by
  go_enter Try.func29, Try.ntmps29
  go_wp2
  go_returns
  exact ⟨rfl, (Below.refl _ w).alloc (Nat.le_refl _) _⟩
end Go.Proofs.Ytfhbffgnpedaeaa
