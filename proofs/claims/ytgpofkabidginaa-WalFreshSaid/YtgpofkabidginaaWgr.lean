/- Clone, Grow, Concat on bytes. -/
import Derived.Test.YtgpofkabidginaaWnw
import Derived.Lib.SliceRun
namespace Go.Proofs.Ytgpofkabidginaa
open Go.ChangeShapes Go.WideShapes Go.ChangeAt Go.RowKit Go.ChangeMaps

/-- 'append(nil, make([]T, m)...)'. -/
theorem run_append_make {P : Program} (w : World) (t tx ty e : TypeId) (i : TypeInfo) (z : Value) (ht : P.underlying t = some (.slice e)) (hx : P.underlying tx = some (.int .i64)) (hi : P.info? e = some i) (hz : i.zero = some z) (hs : i.size = 1) (hb : i.bytes = 1) (m : Nat) (hm0 : 0 < m) (hm : m ≤ 140737488355328) :
    (Builtin.append_ #[t, tx] ty #[.slice none 0 0, .int .i64 (m : Int)]).run P w =
      .ok (.slice (some ⟨w.heap.size, 0, none⟩) m (grownCap w m 0 e)) (w.drew.alloc (.cells (Builtin.zeroCells z.cells m ++ Builtin.zeroCells z.cells (grownCap w m 0 e - m)) e)) := by
  have h1 : IntKind.i64.wrap (m : Int) = m := IntWalk.i64_in _ (by omega)
  have h2 : ¬ ((m : Int) < 0) := by omega
  have h3 : ¬ ((281474976710656 : Int) < (m : Int)) := by omega
  have h4 : ¬ m ≤ 0 := by omega
  have h5 : ¬ (9223372036854775807 < (m : Int)) := by omega
  have h6 : Builtin.nextslicecap m 0 = m := by unfold Builtin.nextslicecap; rw [if_pos (by omega)]
  have h7 : ¬ (281474976710656 < m) := by omega
  have h8 : ¬ m = 0 := by omega
  simp [Builtin.append_, run_underlying ht, run_underlying hx, sizeOf, typeInfo, zeroValue, hi, hz, hs, hb, asInt, asIntOf, h1, h2, h3, h4, h5, h6, h7, h8, Question.forced, newRow, grownCap, Builtin.firstCells]
theorem wpList_append_run {P : Program} {w : World} {ops : Array Oper} {rest : List Oper} {o : Oper} {a : Act} {Q : Exit → Act → World → Prop} (hgd : o.guard = none) (s x : Operand) (t tx : TypeId)
    (ho : o.op = .call { callee := .builtin .append, args := #[s, x], argTypes := #[t, tx] }) (v y : Value) (hv : a.eval s = v) (hy : a.eval x = y) (v' : Value) (W : World)
    (hr : (Builtin.append_ #[t, tx] o.type #[v, y]).run P w = .ok v' W) (h : wpList P ops Q rest (a.put o.dst v') W) : wpList P ops Q (o :: rest) a w :=
  wpList_plain hgd fun K hK => by
    unfold Oper.wp execOp
    simp only [ho, resolve, invoke, builtin, Sem.run_bind, Sem.run_pure, Result.andThen_ok, List.map_toArray, List.map_cons, List.map_nil, hv, hy, hr]
    exact hK _ _ h
theorem zc_size (z : Value) (h : z.cells.size = 1) (m : Nat) : (Builtin.zeroCells z.cells m).size = m := by rw [size_zeroCells, h, Nat.mul_one]
theorem own_make {w : World} {e : TypeId} {z : Value} (hz : z.cells.size = 1) (m : Nat) (hm : m ≤ maxLen) :
    (w.drew.alloc (.cells (Builtin.zeroCells z.cells m ++ Builtin.zeroCells z.cells (grownCap w m 0 e - m)) e)).ownsRow w.heap.size e 1 (.slice (some ⟨w.heap.size, 0, none⟩) 0 (grownCap w m 0 e)) 0 [] := by
  refine ⟨rfl, .inr ⟨w.heap.size, _, _, rfl, Nat.le_refl _, heap_alloc_new w.drew _, Nat.zero_le _, grownCap_le_maxLen w m 0 e hm, ?_, by simp⟩⟩
  have := grownCap_ge w m 0 e
  rw [Array.size_append, zc_size z hz, zc_size z hz]
  omega
set_option maxRecDepth 100000 in
theorem Grow_any (w : World) (m : Nat) (hm : m ≤ 140737488355328) : Calls Try.prog 58 #[.slice none 0 0, .int .i64 (m : Int)] w fun e w' => ∃ v, e = .returned v ∧ w'.ownsRow w.heap.size 5 1 v 0 [] ∧ Below w.heap.size w w' := by
  obtain ⟨i0, hi, hz0, hz1, hz2⟩ := info_parts Try.info5
  by_cases h0 : m = 0
  · subst h0
    go_enter Try.func58, Try.ntmps58
    go_wp2
    go_ret
    exact ⟨_, rfl, World.ownsRow_nil _ _ _ _, Below.refl _ _⟩
  · have hq : (0 : Int) < (m : Int) := by omega
    have hr := run_append_make (P := Try.prog) w 38 3 38 5 i0 _ Try.underlying38 Try.underlying3 hi hz0 hz1 hz2 m (by omega) hm
    have HO := Lib.hid (own_make (w := w) (e := 5) (z := .int .u8 0) rfl m (by unfold maxLen; omega))
    have HB := Lib.hid (show Below w.heap.size w (w.drew.alloc (.cells (Builtin.zeroCells (Value.int .u8 0).cells m ++ Builtin.zeroCells (Value.int .u8 0).cells (grownCap w m 0 5 - m)) 5)) from (below_drew (Below.refl _ w)).alloc (Nat.le_refl _) _)
    clear h0
    generalize w.drew.alloc (.cells (Builtin.zeroCells (Value.int .u8 0).cells m ++ Builtin.zeroCells (Value.int .u8 0).cells (grownCap w m 0 5 - m)) 5) = W at *
    generalize grownCap w m 0 5 = cap at *
    have HR := Lib.hid hr
    clear hr
    go_enter Try.func58, Try.ntmps58
    go_wp2_with (at_builtin; refine wpList_append_run rfl (.tmp 20) (.tmp 21) 38 3 rfl _ _ rfl rfl _ _ HR.out ?_)
    go_ret
    exact ⟨_, rfl, HO.out, HB.out⟩
set_option maxRecDepth 100000 in
theorem Clone_any (F : Nat → Prop) (w : World) (hFB : ∀ k, F k → k < w.heap.size) (a : Addr) (n c : Nat) (l : List UInt8) (h : BytesAt w (some a) n l) (hn : n ≤ 140737488355328) : Calls Try.prog 48 #[.slice (some a) n c] w fun e w' => ∃ A c', e = .returned (.slice A n c') ∧ BA F w' A n l ∧ n ≤ c' ∧ c' ≤ 9223372036854775807 ∧ Below w.heap.size w w' := by
  obtain ⟨i0, hi, hz0, hz1, hz2⟩ := info_parts Try.info5
  have HL := Lib.hid h.1
  have HFB := Lib.hid hFB
  have HSRC := Lib.hid (src_at (n := n) (c := c) (h.below ((Below.refl _ w).alloc (Nat.le_refl _) (.cells #[] 5))))
  have qn : ∀ (w : World) (a : Option Addr) (n c n' c' : Nat), (binOp .eql 38 (.slice a n c) (.slice none n' c')).run Try.prog w = .ok (.bool a.isNone) w := fun w a n c n' c' => Lib.run_eql_slice_nil w _ _ a n c n' c' Try.underlying38
  clear h hFB
  go_enter Try.func48, Try.ntmps48
  go_wp2_with (at_builtin; refine wpList_app rfl (.tmp 5) (.tmp 6) 38 38 rfl w.heap.size _ _ 5 i0 Try.underlying38 hi hz0 hz1 hz2 _ [] rfl (Grows.refl (E := 5) (l := []) (own_empty w) (by simp)) _ n l rfl HSRC.out (by simp; omega) ?_; intro v2 w2 G2 z2 k2; obtain ⟨A2, c2', rfl, hb2, hc2, hc3⟩ := own_bytes3 G2.1 HFB.out)
  have HB2 := Lib.hid (((Below.refl w.heap.size w).alloc (Nat.le_refl _) (.cells #[] 5)).trans (G2.below_of (own_empty w) (by simp)))
  simp only [List.nil_append, HL.out] at hb2 hc2
  go_ret
  exact ⟨A2, c2', by simp [HL.out], hb2, hc2, hc3, HB2.out⟩
/-- Some rows of bytes in a block. -/
def rowsC (A : Nat → Option Addr) (n c : Nat → Nat) : List Value := [.slice (A 0) (n 0) (c 0), .slice (A 1) (n 1) (c 1), .slice (A 2) (n 2) (c 2)]
theorem rowsC_at (A : Nat → Option Addr) (n c : Nat → Nat) (k : Nat) (hk : k < 3) : (rowsC A n c).toArray[k]? = some (.slice (A k) (n k) (c k)) := by
  match k, hk with
  | 0, _ => rfl
  | 1, _ => rfl
  | 2, _ => rfl
def sumN (n : Nat → Nat) : Nat → Nat
  | 0 => 0
  | k + 1 => sumN n k + n k
def catN (l : Nat → List UInt8) : Nat → List UInt8
  | 0 => []
  | k + 1 => catN l k ++ l k
theorem sumN_le (n : Nat → Nat) (k : Nat) (hk : k ≤ 3) : sumN n k ≤ sumN n 3 := by
  have : k = 0 ∨ k = 1 ∨ k = 2 ∨ k = 3 := by omega
  rcases this with rfl | rfl | rfl | rfl <;> simp [sumN] <;> omega
set_option maxRecDepth 100000 in
set_option maxHeartbeats 1000000 in
theorem Concat_any (F : Nat → Prop) (w : World) (hFB : ∀ k, F k → k < w.heap.size) (g : Nat) (A : Nat → Option Addr) (n c : Nat → Nat) (l : Nat → List UInt8) (hg : Blk w g 38 (rowsC A n c).toArray) (hb : ∀ k, k < 3 → BytesAt w (A k) (n k) (l k)) (hn : sumN n 3 ≤ 140737488355328) :
    Calls Try.prog 45 #[.slice (some ⟨g, 0, none⟩) 3 3] w fun e w' => ∃ B c', e = .returned (.slice B (sumN n 3) c') ∧ BA F w' B (sumN n 3) (l 0 ++ l 1 ++ l 2) ∧ sumN n 3 ≤ c' ∧ c' ≤ 9223372036854775807 ∧ Below w.heap.size w w' := by
  obtain ⟨i0, hi, hz0, hz1, hz2⟩ := info_parts Try.info5
  have HG := Lib.hid hg
  have HB := Lib.hid hb
  have HFB := Lib.hid hFB
  have HS := Lib.hid (sumN_le n)
  have HSS := Lib.hid (fun k => show sumN n (k + 1) = sumN n k + n k from rfl)
  have hS0 := Lib.hid (show sumN n 0 = 0 from rfl)
  have HCL : Hid (∀ k, k ≤ 3 → (catN l k).length = sumN n k) := Lib.hid (by
    intro k
    induction k with
    | zero => intro _; rfl
    | succ k ih => intro hk; rw [catN, sumN, List.length_append, ih (by omega), (hb k (by omega)).1])
  have HC3 : Hid (catN l 3 = l 0 ++ l 1 ++ l 2) := Lib.hid (by simp [catN])
  clear hg hb hFB
  generalize sumN n = S at *
  go_enter Try.func45, Try.ntmps45
  go_wp2
  go_loop [3, 5, 11] (fun s _ i => ∃ k : Nat, k ≤ 3 ∧ i = .int .i64 (k : Int) ∧ s = .int .i64 ((S k : Nat) : Int)) (fun _ _ i => 3 - (intOf i).toNat)
  case atStart => exact ⟨0, by omega, rfl, by rw [hS0.out]; rfl⟩
  case round =>
    obtain ⟨k, hk, rfl, rfl⟩ := hrel
    by_cases hlt : k < 3
    · have hki : (k : Int) < 3 := by omega
      have cc : w.cell? ⟨g, k, none⟩ = some (.slice (A k) (n k) (c k)) := (HG.out.cell k).trans (rowsC_at A n c k hlt)
      have h1 := HS.out (k + 1) (by omega)
      rw [HSS.out] at h1
      go_wp2
      go_round
      case rel => exact ⟨k + 1, by omega, by go_num, by rw [HSS.out]; go_num⟩
      case measure => simp [intOf]; omega
    · obtain rfl : k = 3 := by omega
      go_wp2_with fail
      refine (Grow_any w (S 3) hn).mono ?_
      rintro e w2 ⟨v0, rfl, ho, hb2⟩
      have HB2 := Lib.hid hb2
      have HO2 := Lib.hid ho
      have HG0 := Lib.hid (show Grows 5 w.heap.size w2 v0 [] v0 w2 from Grows.refl ho hb2.size)
      clear ho hb2
      go_wp2
      go_loopw [6, 8, 27] (fun v _ i wr => ∃ k : Nat, k ≤ 3 ∧ i = .int .i64 (k : Int) ∧ Grows 5 w.heap.size w2 v0 (catN l k) v wr ∧ Below w.heap.size w wr) (fun _ _ i _ => 3 - (intOf i).toNat)
      case atStart => exact ⟨0, by omega, rfl, HG0.out, HB2.out⟩
      case round =>
        clear HG0
        obtain ⟨k, hk, rfl, hG, hB⟩ := hrel
        have HG1 := Lib.hid hG
        have HB3 := Lib.hid hB
        clear hG hB
        by_cases hlt : k < 3
        · have hki : (k : Int) < 3 := by omega
          have cc : wr.cell? ⟨g, k, none⟩ = some (.slice (A k) (n k) (c k)) := keepcell HB3.out ((HG.out.cell k).trans (rowsC_at A n c k hlt))
          have HSRC := Lib.hid (src_at (n := n k) (c := c k) ((HB.out k hlt).below HB3.out))
          have h1 := HS.out (k + 1) (by omega)
          rw [HSS.out] at h1
          go_wp2_with (at_builtin; refine wpList_app rfl (.tmp 31) (.tmp 32) 38 38 rfl w.heap.size w2 v0 5 i0 Try.underlying38 hi hz0 hz1 hz2 _ (catN l k) rfl HG1.out _ (n k) (l k) rfl HSRC.out (by rw [HCL.out k (by omega)]; omega) ?_; intro v2 w3 G2 z2 k2)
          have HG2 := Lib.hid G2
          have HB4 := Lib.hid (show Below w.heap.size w w3 from HB2.out.trans (G2.below_of HO2.out HB2.out.size))
          clear G2 z2 k2
          go_roundw
          case rel => exact ⟨k + 1, by omega, by go_num, HG2.out, HB4.out⟩
          case measure => simp [intOf]; omega
        · obtain rfl : k = 3 := by omega
          obtain ⟨A2, c2', rfl, hb2, hc2, hc3⟩ := own_bytes3 HG1.out.1 HFB.out
          go_wp2
          go_ret
          rw [HCL.out 3 (by omega)] at hb2 hc2 ⊢
          exact ⟨A2, c2', rfl, by rw [← HC3.out]; exact hb2, hc2, hc3, HB3.out⟩
end Go.Proofs.Ytgpofkabidginaa
