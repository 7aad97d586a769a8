/- The text of a schedule. -/
import Derived.Test.YthageombfifffaaDoorLin
namespace Go.Proofs.YthageombfifffaaDoor
open Go.ChangeShapes Go.WideShapes Go.ChangeAt Go.RowKit Go.ChangeMaps

theorem below_grownBy {w w' : World} (h : Below w.heap.size w w') : w.grownBy w' none := ⟨h.os, h.tape, h.output, h.size, fun k hk _ => h.block k hk⟩
theorem own_below {B e size n : Nat} {v : Value} {xs : List Value} {w w' : World} (h : w.ownsRow B e size v n xs) (hb : Below w.heap.size w w') : w'.ownsRow B e size v n xs :=
  h.kept (row := none) (below_grownBy hb) (by cases v.ownBlock <;> simp)
theorem builderAt_below {T e B b : Nat} {p : Value} {bs : List Value} {w w' : World} (h : Lib.BuilderAt T e B b p bs w) (hb : Below w.heap.size w w') : Lib.BuilderAt T e B b p bs w' := by
  have hlt := h.lt
  obtain ⟨h1, v, h2, h3, h4⟩ := h
  exact ⟨h1, v, by rw [hb.block _ hlt]; exact h2, own_below h3 hb, h4⟩
theorem isBuilder_below {T e B b : Nat} {bs : List Value} {w w' : World} (h : Lib.IsBuilder T e B b bs w) (hb : Below w.heap.size w w') : Lib.IsBuilder T e B b bs w' :=
  h.imp (fun h => builderAt_below h hb) (fun h => builderAt_below h hb)
def fmtL (R : List Act) : List UInt8 := R.flatMap fun a => lineS a ++ [10]
theorem fmtL_step (R : List Act) (k : Nat) (h : k < R.length) : fmtL (R.take (k + 1)) = fmtL (R.take k) ++ lineS R[k] ++ [10] := by
  unfold fmtL
  rw [List.take_succ_eq_append_getElem h, List.flatMap_append]; simp
theorem lineS_len (a : Act) (h : a.ok) : (lineS a).length ≤ 49 := by
  obtain ⟨h1, h2, h3, h4, h5, h6, h7, h8⟩ := h
  have e1 := Lib.itoa_length_le a.s h3 h4
  have e2 := Lib.itoa_length_le a.w h5 h6
  have e3 := Lib.itoa_length_le a.b h7 h8
  unfold lineS
  repeat' split
  all_goals simp only [List.length_append, List.length_cons, List.length_nil] ; omega
theorem fmtL_len (R : List Act) (h : ∀ x ∈ R, x.ok) : (fmtL R).length ≤ 50 * R.length := by
  unfold fmtL
  induction R with
  | nil => simp
  | cons a R ih =>
    have := lineS_len a (h a (List.mem_cons_self ..))
    have := ih fun x hx => h x (List.mem_cons_of_mem _ hx)
    rw [List.flatMap_cons, List.length_append, List.length_append, List.length_cons]
    simp only [List.length_cons, List.length_nil]; omega
theorem bc_app (l : List UInt8) (s : ByteArray) (m : List UInt8) (h : s.data.toList = m) : Lib.byteCells l ++ Lib.strCells s = Lib.byteCells (l ++ m) := by
  subst h; simp [Lib.byteCells, Lib.strCells]
theorem bc_ten (l : List UInt8) : Lib.byteCells l ++ [.int .u8 10] = Lib.byteCells (l ++ [10]) := by simp [Lib.byteCells]
set_option maxRecDepth 100000 in
set_option maxHeartbeats 1000000 in
theorem Format_no (A : Option Addr) (n c : Nat) (R : List Act) (w : World) (hr : Acts w A n R) (hn : n ≤ 9223372036854775807) (hv : (R.all fun a => vA a 8) = false) :
    Calls Tryd.prog 19 #[.slice A n c] w fun e w' => e = .returned (.tuple #[.string ⟨#[]⟩, .int .i64 1]) ∧ Below w.heap.size w w' := by
  have C := Valid_any A n c R 8 w hr hn
  rw [hv] at C
  have C := Lib.hid C
  clear hr
  go_enter Tryd.func19, Tryd.ntmps19
  go_wp2_with (go_at_call 15; refine C.out.mono ?_; rintro e w1 ⟨rfl, hb⟩)
  go_ret2
  exact ⟨rfl, hb⟩
set_option maxRecDepth 100000 in
set_option maxHeartbeats 2000000 in
theorem Format_yes (A : Option Addr) (n c : Nat) (R : List Act) (w : World) (hE : Env w) (hr : Acts w A n R) (hn : n ≤ 1000000) (hR : ∀ x ∈ R, x.ok) (hv : (R.all fun a => vA a 8) = true) :
    Calls Tryd.prog 19 #[.slice A n c] w fun e w' => e = .returned (.tuple #[.string ⟨(fmtL R).toArray⟩, .int .i64 0]) ∧ Below w.heap.size w w' := by
  have C := Valid_any A n c R 8 w hr (by omega)
  rw [hv] at C
  have C := Lib.hid C
  have HE := Lib.hid hE
  have HL := Lib.hid hr.1
  have HR := Lib.hid hr
  have HF : Hid (n = 0 → fmtL R = []) := Lib.hid (fun h => by
    have : R = [] := List.eq_nil_of_length_eq_zero (by rw [hr.1, h])
    subst this; rfl)
  clear hr hE hv
  go_enter Tryd.func19, Tryd.ntmps19
  go_wp2_with (go_at_call 15; refine C.out.mono ?_; rintro e w1 ⟨rfl, hb⟩; refine Hid.out ?_)
  refine Lib.hid ?_
  have HB := Lib.hid hb
  have fresh := Lib.hid (Lib.fresh_isBuilder 58 5 w1)
  have BF := Lib.hid ((Below.refl w1.heap.size w1).alloc (Nat.le_refl _) (.cells #[.pointer none, .slice none 0 0] 58))
  clear hb
  go_wp2
  go_loopw [12] (fun i wr => ∃ k : Nat, k ≤ n ∧ i = .int .i64 k ∧ Lib.IsBuilder 58 5 w1.heap.size w1.heap.size (Lib.byteCells (fmtL (R.take k))) wr ∧ Below w1.heap.size w1 wr) (fun i _ => n - (intOf i).toNat)
  case atStart => exact ⟨0, Nat.zero_le _, rfl, fresh.out, BF.out⟩
  case round =>
    obtain ⟨k, hk, rfl, hbd, hB⟩ := hrel
    have hBw := HB.out.trans (hB.mono HB.out.size)
    by_cases hlt : k < n
    · obtain ⟨b, off, rfl, hb, hc⟩ := HR.out.2 (by omega)
      have hkR : k < R.length := by rw [HL.out]; exact hlt
      obtain ⟨c0, c1, c2, c3⟩ := hc k hkR
      have c0 := (hBw.cell (p := ⟨b, off + k * 4, none⟩) hb).trans c0
      have c1 := (hBw.cell (p := ⟨b, off + k * 4 + 1, none⟩) hb).trans c1
      have c2 := (hBw.cell (p := ⟨b, off + k * 4 + 2, none⟩) hb).trans c2
      have c3 := (hBw.cell (p := ⟨b, off + k * 4 + 3, none⟩) hb).trans c3
      have H1 := Lib.hid (fmtL_step R k hkR)
      have hx := hR R[k] (List.getElem_mem _)
      have hll := lineS_len R[k] hx
      have hfl := fmtL_len (R.take k) (fun x hx => hR x (List.mem_of_mem_take hx))
      rw [List.length_take] at hfl
      have HB2 := Lib.hid hB
      have HBD := Lib.hid hbd
      have HEr := Lib.hid (HE.out.below hBw)
      clear hBw hB hbd hc
      generalize R[k] = x at *
      generalize fmtL (R.take k) = m at *
      rcases x with ⟨xk, xs, xw, xb⟩
      simp only at c0 c1 c2 c3
      obtain ⟨l, hl⟩ : ∃ l : ByteArray, (⟨(lineS ⟨xk, xs, xw, xb⟩).toArray⟩ : ByteArray) = l := ⟨_, rfl⟩
      have hld : l.data.toList = lineS ⟨xk, xs, xw, xb⟩ := by rw [← hl]
      have hls : l.size ≤ 49 := by
        have e : l.data.toList.length = l.size := by simp
        rw [← e, hld]; exact hll
      have LC := fun w hE => line_any xk xs xw xb w hE hx
      rw [hl] at LC
      have LC := Lib.hid LC
      have HLD := Lib.hid hld
      clear hl hld hll hx
      have HA := Lib.hid ((Below.refl wr.heap.size wr).alloc (Nat.le_refl _) (.cells #[.int .i64 xk, .int .i64 xs, .int .i64 xw, .int .i64 xb] 29))
      go_wp2_with fail
      refine (LC.out _ (HEr.out.below HA.out)).mono ?_
      rintro e w2 ⟨rfl, hb2⟩
      have H2 := Lib.hid (HA.out.trans (hb2.mono HA.out.size))
      have D2 := Lib.hid (isBuilder_below HBD.out H2.out)
      have B2 := Lib.hid (HB2.out.trans (H2.out.mono HB2.out.size))
      clear hb2
      go_wp2_with fail
      refine (Tryd.Builder_WriteString w1.heap.size w1.heap.size _ l w2 D2.out (by rw [Lib.byteCells_length]; omega) B2.out.size).mono ?_
      rintro e w3 ⟨rfl, hD3, hb3⟩
      have D3 := Lib.hid hD3
      have B3 := Lib.hid (B2.out.trans hb3)
      clear hD3 hb3
      go_wp2_with fail
      refine (Tryd.Builder_WriteByte w1.heap.size w1.heap.size _ 10 w3 (.inr D3.out) (by rw [List.length_append, Lib.byteCells_length, Lib.strCells_length]; omega) B3.out.size).mono ?_
      rintro e w4 ⟨rfl, hD4, hb4⟩
      have D4 := Lib.hid (show Lib.IsBuilder 58 5 w1.heap.size w1.heap.size (Lib.byteCells (fmtL (R.take (k + 1)))) w4 by
        rw [H1.out, ← HLD.out, ← bc_ten, ← bc_app _ l _ rfl]; exact .inr hD4)
      have B4 := Lib.hid (B3.out.trans hb4)
      clear hD4 hb4
      go_wp2
      go_roundw
      case rel => exact ⟨k + 1, by omega, by go_num, D4.out, B4.out⟩
      case measure => simp [intOf]; omega
    · obtain rfl : k = n := by omega
      have e : R.take k = R := List.take_of_length_le (by rw [HL.out]; exact Nat.le_refl _)
      rw [e] at hbd
      have HBD := Lib.hid hbd
      have HBw := Lib.hid hBw
      have HB2 := Lib.hid hB
      clear hbd hB hBw e
      go_wp2_with (go_at_call 32; refine (Tryd.Builder_String_any w1.heap.size w1.heap.size (fmtL R) wr HBD.out HB2.out.size).mono ?_; rintro e w2 ⟨rfl, hb2⟩)
      go_ret2
      exact ⟨rfl, HB.out.trans ((HB2.out.trans hb2).mono HB.out.size)⟩
end Go.Proofs.YthageombfifffaaDoor
