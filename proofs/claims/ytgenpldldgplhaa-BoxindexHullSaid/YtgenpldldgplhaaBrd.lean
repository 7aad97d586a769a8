/- The reference's items; its Delete. -/
import Derived.Test.YtgenpldldgplhaaBpu
import Derived.Deep.Cut
import Derived.BigQuiet
namespace Go.Proofs.Ytgenpldldgplhaa
open Go.ChangeShapes Go.WideShapes Go.ChangeAt Go.RowKit Go.ChangeMaps

def It.cells (x : It) : List Value := [.int .i64 x.id, .int .i64 x.t, .slice x.A x.n x.c]
def Irs (w : World) (A : Option Addr) (n : Nat) (L : List It) : Prop := At w A n 3 (L.flatMap It.cells)
theorem Irs.len {w : World} {A : Option Addr} {n : Nat} {R : List It} (h : Irs w A n R) : R.length = n := by
  have h1 := h.1
  rw [flat_len It.cells 3 (fun _ => rfl)] at h1
  omega
theorem Irs.below {w w' : World} {A : Option Addr} {n : Nat} {R : List It} (h : Irs w A n R) (hb : Below w.heap.size w w') : Irs w' A n R := At.below h hb
theorem Irs.at {w : World} {A : Option Addr} {n : Nat} {R : List It} (h : Irs w A n R) (hn : 0 < n) : ∃ b off, A = some ⟨b, off, none⟩ ∧ b < w.heap.size ∧ ∀ (W : World), Below w.heap.size w W → ∀ i (hi : i < R.length),
    W.cell? ⟨b, off + i * 3, none⟩ = some (.int .i64 R[i].id) ∧ W.cell? ⟨b, off + i * 3 + 1, none⟩ = some (.int .i64 R[i].t) ∧ W.cell? ⟨b, off + i * 3 + 2, none⟩ = some (.slice R[i].A R[i].n R[i].c) := by
  obtain ⟨b, off, e, hb, hc⟩ := h.2 hn
  refine ⟨b, off, e, hb, fun W hW i hi => ?_⟩
  have g : ∀ j u, j < 3 → (R[i].cells)[j]? = some u → W.cell? ⟨b, off + i * 3 + j, none⟩ = some u := fun j u hj hu => by
    rw [Nat.add_assoc]
    exact keepcell hW (hc _ _ ((flat_get It.cells 3 (fun _ => rfl) R i j hi hj).trans hu))
  exact ⟨g 0 _ (by decide) rfl, g 1 _ (by decide) rfl, g 2 _ (by decide) rfl⟩
theorem Irs.own {w : World} {B L n c : Nat} {A : Option Addr} {R : List It} (h : w.ownsRow B L 3 (.slice A n c) n (R.flatMap It.cells)) : Irs w A n R := by
  obtain ⟨A', c', e, h1, -⟩ := At.of_own h
  injection e with e1 e2 e3
  subst e1
  exact h1
def zIt : Value := .agg #[.int .i64 0, .int .i64 0, .slice none 0 0]
theorem Try.info47 : (Try.prog.info? 47).map (fun i => (i.zero, i.size, i.bytes)) = some (some zIt, 3, 40) := by kernel_rfl
theorem it_one (s : It) : ∀ u ∈ s.cells, u.oneCell' = true := by
  intro u hu
  simp only [It.cells, List.mem_cons, List.not_mem_nil, or_false] at hu
  rcases hu with rfl | rfl | rfl <;> rfl
theorem del_take (L : List It) (a : Int) (k : Nat) (h : k < L.length) : delL (L.take (k + 1)) a = delL (L.take k) a ++ (if L[k].id = a then [] else [L[k]]) := by
  unfold delL
  rw [List.take_succ_eq_append_getElem h, List.filter_append]
  by_cases e : L[k].id = a
  · rw [if_pos e, List.filter_cons_of_neg (by simp [e])]; rfl
  · rw [if_neg e, List.filter_cons_of_pos (by simp [e])]; rfl
theorem any_take (L : List It) (a : Int) (k : Nat) (h : k < L.length) : (L.take (k + 1)).any (fun x => x.id == a) = ((L.take k).any (fun x => x.id == a) || L[k].id == a) := by
  rw [List.take_succ_eq_append_getElem h, List.any_append]; simp
set_option maxRecDepth 100000 in
set_option maxHeartbeats 2000000 in
theorem RDelete_any (A : Option Addr) (n c : Nat) (L : List It) (a : Int) (w : World) (h : Irs w A n L) (hn : n ≤ 100000) :
    Calls Try.prog 20 #[.slice A n c, .int .i64 a] w fun e w' => ∃ A' n' c', e = .returned (.tuple #[.slice A' n' c', .bool (L.any (fun x => x.id == a))]) ∧ w'.ownsRow w.heap.size 47 3 (.slice A' n' c') n' ((delL L a).flatMap It.cells) ∧ Below w.heap.size w w' := by
  obtain ⟨i0, hi, hz0, hz1, hz2⟩ := info_parts Try.info47
  have HL := Lib.hid h.len
  have HA := Lib.hid h.at
  clear h
  go_enter Try.func20, Try.ntmps20
  go_wp2
  go_loopw [6, 7, 8] (fun s6 s7 s8 wr => ∃ (k n' : Nat) (q : Bool), s8 = .int .i64 (k : Int) ∧ s7 = .bool q ∧ k ≤ n ∧ n' ≤ k ∧ (L.take k).any (fun x => x.id == a) = q ∧ wr.ownsRow w.heap.size 47 3 s6 n' ((delL (L.take k) a).flatMap It.cells) ∧ Below w.heap.size w wr) (fun _ _ s8 _ => n - (intOf s8).toNat)
  case atStart => exact ⟨0, 0, false, rfl, rfl, Nat.zero_le _, Nat.le_refl _, rfl, World.ownsRow_nil _ _ _ _, Below.refl _ _⟩
  case round =>
    obtain ⟨k, n', q, rfl, rfl, hkn, hnk, hq, hO, hB⟩ := hrel
    obtain ⟨A3, a3, rfl, -⟩ := At.of_own hO
    have HO := Lib.hid hO
    have HB := Lib.hid hB
    have HQ := Lib.hid hq
    clear hO hB hq
    by_cases hlt : k < n
    · have hki : (k : Int) < n := by omega
      have hk0 : (0 : Int) ≤ (k : Int) := by omega
      obtain ⟨b, off, rfl, hbl, hc⟩ := HA.out (by omega)
      have hi' : k < L.length := by rw [HL.out]; exact hlt
      obtain ⟨c0, c1, c2⟩ := hc wr HB.out k hi'
      have HT := Lib.hid (del_take L a k hi')
      have HY := Lib.hid (any_take L a k hi')
      clear hc hbl
      generalize L[k] = x at *
      have hsz : w.heap.size ≤ wr.heap.size := HB.out.size
      cases he : (x.id == a)
      · have hea : ¬ x.id = a := by simpa using he
        have HD := Lib.hid (show delL (L.take (k + 1)) a = delL (L.take k) a ++ [x] by rw [HT.out, if_neg hea])
        have HN := Lib.hid (show (L.take (k + 1)).any (fun x => x.id == a) = q by rw [HY.out, HQ.out, he]; simp)
        have HN3 : Hid (Src Try.prog 3 26 (.slice (some ⟨wr.heap.size, 0, none⟩) 1 1) 1 x.cells (wr.alloc (.cells #[.int .i64 x.id, .int .i64 x.t, .slice x.A x.n x.c] 47))) := Lib.hid (src_blk (c := 1) Try.underlying26 rfl (it_one x) (show Blk _ wr.heap.size 47 x.cells.toArray from Blk.new_ rfl rfl))
        have HO3 := Lib.hid (HO.out.alloc (.cells #[.int .i64 x.id, .int .i64 x.t, .slice x.A x.n x.c] 47))
        have HB3 := Lib.hid (HB.out.alloc hsz (.cells #[.int .i64 x.id, .int .i64 x.t, .slice x.A x.n x.c] 47))
        go_wp2_with (at_builtin; go_loud (refine wpList_append_src _ rfl _ _ 26 26 rfl w.heap.size 47 i0 zIt 3 40 Try.underlying26 hi hz0 hz1 hz2 rfl (.slice A3 n' a3) n' _ rfl HO3.out _ 1 x.cells rfl HN3.out ?c1 ?c2 ?c3 ?_))
        case c1 => unfold maxLen; omega
        case c2 => omega
        case c3 => first | omega | (simp; omega)
        intro v' w1 own' hg _
        have HO4 := Lib.hid (show w1.ownsRow w.heap.size 47 3 v' (n' + 1) ((delL (L.take (k + 1)) a).flatMap It.cells) by rw [HD.out, List.flatMap_append]; simpa using own')
        have HB4 := Lib.hid (HB3.out.grown hg (by simp; omega) (fun j hj => (HO3.out.lt j hj).1))
        clear own' hg
        go_wp2
        go_roundw
        case rel => exact ⟨k + 1, n' + 1, q, by go_num, rfl, hlt, by omega, HN.out, HO4.out, HB4.out⟩
        case measure => simp [intOf]; omega
      · have hea : x.id = a := by simpa using he
        have HD := Lib.hid (show delL (L.take (k + 1)) a = delL (L.take k) a by rw [HT.out, if_pos hea, List.append_nil])
        have HN := Lib.hid (show (L.take (k + 1)).any (fun x => x.id == a) = true by rw [HY.out, he]; simp)
        have hxa := hea
        clear hea
        go_wp2
        go_roundw
        case rel => exact ⟨k + 1, n', true, by go_num, rfl, hlt, by omega, HN.out, by rw [HD.out]; exact HO.out, HB.out⟩
        case measure => simp [intOf]; omega
    · obtain rfl : k = n := by omega
      have hlt2 : ¬ ((k : Int) < (k : Int)) := by omega
      have HF := Lib.hid (show L.take k = L from List.take_of_length_le (by rw [HL.out]; exact Nat.le_refl _))
      go_wp2
      go_ret2
      rw [HF.out] at HO HQ
      rw [HQ.out]
      exact ⟨A3, n', a3, rfl, HO.out, HB.out⟩
end Go.Proofs.Ytgenpldldgplhaa
