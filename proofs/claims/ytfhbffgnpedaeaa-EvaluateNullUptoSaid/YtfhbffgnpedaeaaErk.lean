/- The reference: the size of an expression, as far as a hundred. -/
import Derived.Test.YtfhbffgnpedaeaaEru
namespace Go.Proofs.Ytfhbffgnpedaeaa
open Go.ChangeShapes Go.WideShapes Go.ChangeAt Go.RowKit Go.ChangeMaps

mutual
def cntM : Ex → Int
  | .mk _ _ _ _ _ _ _ args => cntL args 1
def cntL : List Ex → Int → Int
  | [], acc => acc
  | a :: l, acc => if acc < 100 then cntL l (wrap64 (acc + cntM a)) else acc
end
theorem cntM_eq (x : Ex) : cntM x = cntL x.args 1 := by cases x; rw [cntM]; rfl
theorem cntL_drop (l : List Ex) (i : Nat) (h : i < l.length) (acc : Int) : cntL (l.drop i) acc = if acc < 100 then cntL (l.drop (i + 1)) (wrap64 (acc + cntM l[i])) else acc := by
  rw [List.drop_eq_getElem_cons h, cntL]
set_option maxRecDepth 100000 in
set_option maxHeartbeats 2000000 in
theorem count_any (x : Ex) : ∀ w, ExAt w x → Calls Try.prog 42 #[x.agg] w fun e w' => e = .returned (.int .i64 (cntM x)) ∧ Below w.heap.size w w' := by
  refine Ex.ind (p := fun x => ∀ w, ExAt w x → Calls Try.prog 42 #[x.agg] w fun e w' => e = .returned (.int .i64 (cntM x)) ∧ Below w.heap.size w w') (fun x ih => ?_) x
  intro w h
  have HIH := Lib.hid (fun y hy W (hW : Below w.heap.size w W) => ih y hy W ((h.arg y hy).keep hW))
  have HA := Lib.hid h.at
  have hlen := h.len
  obtain ⟨r, hr⟩ : ∃ r, cntM x = r := ⟨_, rfl⟩
  rw [hr]
  rw [cntM_eq] at hr
  have HR := Lib.hid hr
  clear hr ih h
  unfold Ex.agg at *
  have HB0 := Lib.hid (show Below w.heap.size w (w.alloc (.cells #[.int .i64 x.op, .string x.tb, .string x.nm, .int .i64 x.ix, .int .i64 x.v.k, .int .i64 x.v.n, .string x.v.s, .slice x.A x.args.length x.c] 26)) from (Below.refl _ w).alloc (Nat.le_refl _) _)
  have K := Lib.hid (show Blk (w.alloc (.cells #[.int .i64 x.op, .string x.tb, .string x.nm, .int .i64 x.ix, .int .i64 x.v.k, .int .i64 x.v.n, .string x.v.s, .slice x.A x.args.length x.c] 26)) w.heap.size 26 #[.int .i64 x.op, .string x.tb, .string x.nm, .int .i64 x.ix, .int .i64 x.v.k, .int .i64 x.v.n, .string x.v.s, .slice x.A x.args.length x.c] from Blk.new _ _ _)
  go_enter Try.func42, Try.ntmps42
  go_wp2
  go_loopw [3, 4] (fun nv iv wr => ∃ (i : Nat) (acc : Int), nv = .int .i64 acc ∧ iv = .int .i64 (i : Int) ∧ i ≤ x.args.length ∧ cntL x.args 1 = cntL (x.args.drop i) acc ∧ Blk wr w.heap.size 26 #[.int .i64 x.op, .string x.tb, .string x.nm, .int .i64 x.ix, .int .i64 x.v.k, .int .i64 x.v.n, .string x.v.s, .slice x.A x.args.length x.c] ∧ Below w.heap.size w wr) (fun _ iv _ => x.args.length - (intOf iv).toNat)
  case atStart => exact ⟨0, 1, rfl, rfl, Nat.zero_le _, rfl, K.out, HB0.out⟩
  case round =>
    obtain ⟨i, acc, rfl, rfl, hin, hall, hk, hb⟩ := hrel
    have HB := Lib.hid hb
    have HALL := Lib.hid hall
    have HK := Lib.hid hk
    clear hb hall
    by_cases hlt : i < x.args.length
    case neg =>
      have hi : i = x.args.length := by omega
      have k7 : wr.cell? ⟨w.heap.size, 7, none⟩ = some (.slice x.A x.args.length x.c) := hk.cell 7
      have HF := Lib.hid (show acc = r by rw [← HR.out, HALL.out, List.drop_of_length_le (by omega)]; simp [cntL])
      subst hi
      clear hk
      go_wp2
      go_ret
      exact ⟨ret_int HF.out, HB.out⟩
    have hlti : (i : Int) < x.args.length := by omega
    obtain ⟨b, off, hA, hbl, hc⟩ := HA.out (by omega)
    obtain ⟨c0, c1, c2, c3, c4, c5, c6, c7⟩ := hc wr HB.out i hlt
    have HD := Lib.hid (HALL.out.trans (cntL_drop x.args i hlt acc))
    have CV := Lib.hid (HIH.out x.args[i] (List.getElem_mem hlt))
    have k7 : wr.cell? ⟨w.heap.size, 7, none⟩ = some (.slice (some ⟨b, off, none⟩) x.args.length x.c) := by rw [← hA]; exact hk.cell 7
    clear hc hbl hk
    have hA2 := Lib.hid hA
    rw [hA]
    clear hA
    generalize x.args[i] = y at *
    obtain ⟨vb, hvb⟩ : ∃ b, cntM y = b := ⟨_, rfl⟩
    rw [hvb] at HD
    simp only [hvb] at CV
    clear hvb
    by_cases hac : acc < 100
    · have HD2 := Lib.hid (HD.out.trans (if_pos hac))
      go_wp2_with fail
      refine (CV.out _ HB.out).mono ?_
      rintro e w2 ⟨rfl, hb⟩
      have HB2 := Lib.hid (HB.out.trans (hb.mono HB.out.size))
      have HK2 := Lib.hid (HK.out.below hb)
      clear hb
      go_wp2
      go_roundw
      case rel => exact ⟨i + 1, wrap64 (acc + vb), rfl, by go_num, hlt, HD2.out, (by rw [← hA2.out]; exact HK2.out), HB2.out⟩
      case measure => simp [intOf]; omega
    · have HF := Lib.hid (show acc = r by rw [← HR.out, HD.out, if_neg hac])
      go_wp2
      go_ret
      exact ⟨ret_int HF.out, HB.out⟩
end Go.Proofs.Ytfhbffgnpedaeaa
