/- Intervals and their lists. -/
import Derived.Test.YtnoddkbpdfimmaaSlc
import Derived.BigQuiet
import Derived.Deep.QuietTactic
import Derived.Deep.Cut
namespace Go.Proofs.Ytnoddkbpdfimmaa
open Go.ChangeShapes Go.WideShapes Go.ChangeAt Go.RowKit Go.ChangeMaps

structure Iv where
  lo : Int
  hi : Int
deriving DecidableEq
def Iv.cells (x : Iv) : List Value := [.int .i64 x.lo, .int .i64 x.hi]
def Iv.agg (x : Iv) : Value := .agg #[.int .i64 x.lo, .int .i64 x.hi]
def Iv.ok (x : Iv) : Prop := (-9223372036854775808 ≤ x.lo ∧ x.lo ≤ 9223372036854775807) ∧ (-9223372036854775808 ≤ x.hi ∧ x.hi ≤ 9223372036854775807)
def Ivs (w : World) (A : Option Addr) (n : Nat) (R : List Iv) : Prop := At w A n 2 (R.flatMap Iv.cells)
theorem Ivs.len {w : World} {A : Option Addr} {n : Nat} {R : List Iv} (h : Ivs w A n R) : R.length = n := by
  have h1 := h.1
  rw [flat_len Iv.cells 2 (fun _ => rfl)] at h1
  omega
theorem Ivs.below {w w' : World} {A : Option Addr} {n : Nat} {R : List Iv} (h : Ivs w A n R) (hb : Below w.heap.size w w') : Ivs w' A n R := At.below h hb
theorem Ivs.at {w : World} {A : Option Addr} {n : Nat} {R : List Iv} (h : Ivs w A n R) (hn : 0 < n) : ∃ b off, A = some ⟨b, off, none⟩ ∧ b < w.heap.size ∧ ∀ (W : World), Below w.heap.size w W → ∀ i (hi : i < R.length),
    W.cell? ⟨b, off + i * 2, none⟩ = some (.int .i64 R[i].lo) ∧ W.cell? ⟨b, off + i * 2 + 1, none⟩ = some (.int .i64 R[i].hi) := by
  obtain ⟨b, off, e, hb, hc⟩ := h.2 hn
  refine ⟨b, off, e, hb, fun W hW i hi => ?_⟩
  have g : ∀ j u, j < 2 → (R[i].cells)[j]? = some u → W.cell? ⟨b, off + i * 2 + j, none⟩ = some u := fun j u hj hu => by
    rw [Nat.add_assoc]
    exact keepcell hW (hc _ _ ((flat_get Iv.cells 2 (fun _ => rfl) R i j hi hj).trans hu))
  exact ⟨g 0 _ (by decide) rfl, g 1 _ (by decide) rfl⟩
theorem iv_one (s : Iv) : ∀ u ∈ s.cells, u.oneCell' = true := by
  intro u hu
  simp only [Iv.cells, List.mem_cons, List.not_mem_nil, or_false] at hu
  rcases hu with rfl | rfl <;> rfl
theorem ivs_one (R : List Iv) : ∀ u ∈ R.flatMap Iv.cells, u.oneCell' = true := by
  intro u hu
  obtain ⟨x, _, hx⟩ := List.mem_flatMap.1 hu
  exact iv_one x u hx
theorem take_iv (R : List Iv) (k : Nat) (h : k < R.length) : (R.take (k + 1)).flatMap Iv.cells = (R.take k).flatMap Iv.cells ++ R[k].cells := by
  rw [List.take_succ_eq_append_getElem h, List.flatMap_append]; simp
theorem Ivs.own {w : World} {B L n c : Nat} {A : Option Addr} {R : List Iv} (h : w.ownsRow B L 2 (.slice A n c) n (R.flatMap Iv.cells)) : Ivs w A n R := by
  obtain ⟨A', c', e, h1, -⟩ := At.of_own h
  injection e with e1 e2 e3
  subst e1
  exact h1
/-- A list of intervals in memory of its own: elements of type L. -/
def OR (L : TypeId) (w : World) (base : Nat) (v : Value) (R : List Iv) : Prop := w.ownsRow base L 2 v R.length (R.flatMap Iv.cells)
theorem OR.ivs {L : TypeId} {w : World} {base : Nat} {v : Value} {R : List Iv} (h : OR L w base v R) : ∃ A c, v = .slice A R.length c ∧ Ivs w A R.length R ∧ R.length ≤ c ∧ c ≤ maxLen := by
  obtain ⟨A, c, e, h1, h2, h3⟩ := At.of_own h
  exact ⟨A, c, e, h1, h2, h3⟩
theorem OR.below {L : TypeId} {w w' : World} {base : Nat} {v : Value} {R : List Iv} (h : OR L w base v R) (hb : Below w.heap.size w w') : OR L w' base v R := own_below h hb
theorem OR.mono {L : TypeId} {w : World} {base b2 : Nat} {v : Value} {R : List Iv} (h : OR L w base v R) (hb : b2 ≤ base) : OR L w b2 v R := by
  refine ⟨h.1, ?_⟩
  rcases h.2 with h1 | ⟨g, cap, cur, e, hg, h2⟩
  · exact .inl h1
  · exact .inr ⟨g, cap, cur, e, Nat.le_trans hb hg, h2⟩
theorem Try.info39 : (Try.prog.info? 39).map (fun i => (i.zero, i.size, i.bytes)) = some (some (.agg #[.int .i64 0, .int .i64 0]), 2, 16) := by kernel_rfl
theorem Try.info42 : (Try.prog.info? 42).map (fun i => (i.zero, i.size, i.bytes)) = some (some (.agg #[.int .i64 0, .int .i64 0]), 2, 16) := by kernel_rfl
set_option maxRecDepth 100000 in
set_option maxHeartbeats 2000000 in
theorem to_any (A : Option Addr) (n c : Nat) (R : List Iv) (w : World) (h : Ivs w A n R) (hn : n ≤ 100000) :
    Calls Try.prog 16 #[.slice A n c] w fun e w' => ∃ v, e = .returned v ∧ OR 39 w' w.heap.size v R ∧ Below w.heap.size w w' := by
  obtain ⟨i0, hi, hz0, hz1, hz2⟩ := info_parts Try.info39
  have HL := Lib.hid h.len
  have HA := Lib.hid h.at
  clear h
  go_enter Try.func16, Try.ntmps16
  go_wp2
  go_loopw [3, 8] (fun s3 s8 wr => ∃ (k : Nat), s8 = .int .i64 (k : Int) ∧ k ≤ n ∧ wr.ownsRow w.heap.size 39 2 s3 k ((R.take k).flatMap Iv.cells) ∧ Below w.heap.size w wr) (fun _ s8 _ => n - (intOf s8).toNat)
  case atStart => exact ⟨0, rfl, Nat.zero_le _, World.ownsRow_nil _ _ _ _, Below.refl _ _⟩
  case round =>
    obtain ⟨k, rfl, hkn, hO, hB⟩ := hrel
    have HO := Lib.hid hO
    have HB := Lib.hid hB
    clear hO hB
    by_cases hlt : k < n
    · have hki : (k : Int) < n := by omega
      have hk0 : (0 : Int) ≤ (k : Int) := by omega
      obtain ⟨b, off, rfl, hbl, hc⟩ := HA.out (by omega)
      have hi' : k < R.length := by rw [HL.out]; exact hlt
      obtain ⟨c0, c1⟩ := hc wr HB.out k hi'
      have HT := Lib.hid (take_iv R k hi')
      clear hc hbl
      generalize R[k] = x at *
      obtain ⟨W3, hW3⟩ : ∃ W3, W3 = (wr.alloc (.cells #[.int .i64 x.lo, .int .i64 x.hi] 42)).alloc (.cells #[.int .i64 x.lo, .int .i64 x.hi] 39) := ⟨_, rfl⟩
      have HO3 := Lib.hid (show W3.ownsRow w.heap.size 39 2 _ k ((R.take k).flatMap Iv.cells) by rw [hW3]; exact (HO.out.alloc _).alloc _)
      have HB3 := Lib.hid (show Below w.heap.size w W3 by rw [hW3]; exact (HB.out.alloc HB.out.size _).alloc (by have := HB.out.size; simp; omega) _)
      have HN3 : Hid (Src Try.prog 2 27 (.slice (some ⟨wr.heap.size + 1, 0, none⟩) 1 1) 1 x.cells W3) := Lib.hid (src_blk (c := 1) Try.underlying27 rfl (iv_one x) (show Blk W3 (wr.heap.size + 1) 39 x.cells.toArray by rw [hW3]; exact Blk.new_ (by simp) rfl))
      have HS3 := Lib.hid HB3.out.size
      subst hW3
      go_wp2_with (at_builtin; go_loud (refine wpList_append_src _ rfl _ _ 27 27 rfl w.heap.size 39 i0 _ 2 16 Try.underlying27 hi hz0 hz1 hz2 rfl _ k _ rfl HO3.out _ 1 x.cells rfl HN3.out ?c1 ?c2 HS3.out ?_))
      case c1 => unfold maxLen; omega
      case c2 => omega
      intro v' w1 own' hg _
      have HBn := Lib.hid (HB3.out.grown hg HS3.out (fun j hj => (HO3.out.lt j hj).1))
      rw [← HT.out] at own'
      have HOn := Lib.hid own'
      clear own' hg HO3 HB3 HN3 HS3
      go_wp2
      go_roundw
      case rel => exact ⟨k + 1, by go_num, hlt, HOn.out, HBn.out⟩
      case measure => simp only [intOf]; omega
    · obtain rfl : k = n := by omega
      have HF : Hid ((R.take k).flatMap Iv.cells = R.flatMap Iv.cells) := Lib.hid (by rw [List.take_of_length_le (by rw [HL.out]; exact Nat.le_refl _)])
      have hlt2 : ¬ ((k : Int) < (k : Int)) := by omega
      go_wp2
      go_ret
      refine ⟨_, rfl, ?_, HB.out⟩
      have h := HO.out
      rw [HF.out] at h
      unfold OR
      rw [HL.out]
      exact h
set_option maxRecDepth 100000 in
set_option maxHeartbeats 2000000 in
theorem of_any (A : Option Addr) (n c : Nat) (R : List Iv) (w : World) (h : Ivs w A n R) (hn : n ≤ 100000) :
    Calls Try.prog 14 #[.slice A n c] w fun e w' => ∃ v, e = .returned v ∧ OR 42 w' w.heap.size v R ∧ Below w.heap.size w w' := by
  obtain ⟨i0, hi, hz0, hz1, hz2⟩ := info_parts Try.info42
  have HL := Lib.hid h.len
  have HA := Lib.hid h.at
  clear h
  go_enter Try.func14, Try.ntmps14
  go_wp2
  go_loopw [3, 8] (fun s3 s8 wr => ∃ (k : Nat), s8 = .int .i64 (k : Int) ∧ k ≤ n ∧ wr.ownsRow w.heap.size 42 2 s3 k ((R.take k).flatMap Iv.cells) ∧ Below w.heap.size w wr) (fun _ s8 _ => n - (intOf s8).toNat)
  case atStart => exact ⟨0, rfl, Nat.zero_le _, World.ownsRow_nil _ _ _ _, Below.refl _ _⟩
  case round =>
    obtain ⟨k, rfl, hkn, hO, hB⟩ := hrel
    have HO := Lib.hid hO
    have HB := Lib.hid hB
    clear hO hB
    by_cases hlt : k < n
    · have hki : (k : Int) < n := by omega
      have hk0 : (0 : Int) ≤ (k : Int) := by omega
      obtain ⟨b, off, rfl, hbl, hc⟩ := HA.out (by omega)
      have hi' : k < R.length := by rw [HL.out]; exact hlt
      obtain ⟨c0, c1⟩ := hc wr HB.out k hi'
      have HT := Lib.hid (take_iv R k hi')
      clear hc hbl
      generalize R[k] = x at *
      obtain ⟨W3, hW3⟩ : ∃ W3, W3 = (wr.alloc (.cells #[.int .i64 x.lo, .int .i64 x.hi] 39)).alloc (.cells #[.int .i64 x.lo, .int .i64 x.hi] 42) := ⟨_, rfl⟩
      have HO3 := Lib.hid (show W3.ownsRow w.heap.size 42 2 _ k ((R.take k).flatMap Iv.cells) by rw [hW3]; exact (HO.out.alloc _).alloc _)
      have HB3 := Lib.hid (show Below w.heap.size w W3 by rw [hW3]; exact (HB.out.alloc HB.out.size _).alloc (by have := HB.out.size; simp; omega) _)
      have HN3 : Hid (Src Try.prog 2 22 (.slice (some ⟨wr.heap.size + 1, 0, none⟩) 1 1) 1 x.cells W3) := Lib.hid (src_blk (c := 1) Try.underlying22 rfl (iv_one x) (show Blk W3 (wr.heap.size + 1) 42 x.cells.toArray by rw [hW3]; exact Blk.new_ (by simp) rfl))
      have HS3 := Lib.hid HB3.out.size
      subst hW3
      go_wp2_with (at_builtin; go_loud (refine wpList_append_src _ rfl _ _ 22 22 rfl w.heap.size 42 i0 _ 2 16 Try.underlying22 hi hz0 hz1 hz2 rfl _ k _ rfl HO3.out _ 1 x.cells rfl HN3.out ?c1 ?c2 HS3.out ?_))
      case c1 => unfold maxLen; omega
      case c2 => omega
      intro v' w1 own' hg _
      have HBn := Lib.hid (HB3.out.grown hg HS3.out (fun j hj => (HO3.out.lt j hj).1))
      rw [← HT.out] at own'
      have HOn := Lib.hid own'
      clear own' hg HO3 HB3 HN3 HS3
      go_wp2
      go_roundw
      case rel => exact ⟨k + 1, by go_num, hlt, HOn.out, HBn.out⟩
      case measure => simp only [intOf]; omega
    · obtain rfl : k = n := by omega
      have HF : Hid ((R.take k).flatMap Iv.cells = R.flatMap Iv.cells) := Lib.hid (by rw [List.take_of_length_le (by rw [HL.out]; exact Nat.le_refl _)])
      have hlt2 : ¬ ((k : Int) < (k : Int)) := by omega
      go_wp2
      go_ret
      refine ⟨_, rfl, ?_, HB.out⟩
      have h := HO.out
      rw [HF.out] at h
      unfold OR
      rw [HL.out]
      exact h
set_option maxRecDepth 100000 in
set_option maxHeartbeats 2000000 in
theorem few_any (A : Option Addr) (n c : Nat) (w : World) : Calls Try.prog 12 #[.slice A n c] w fun e w' => e = .returned (.bool (decide ((n : Int) ≤ 30))) ∧ w' = w := by
  go_enter Try.func12, Try.ntmps12
  go_wp2
  go_ret
  exact ⟨rfl, rfl⟩
set_option maxRecDepth 100000 in
set_option maxHeartbeats 2000000 in
theorem RSame_any (A B : Option Addr) (n m c c2 : Nat) (R T : List Iv) (w : World) (h : Ivs w A n R) (h2 : Ivs w B m T) (hn : n ≤ 100000) : Calls Try.prog 13 #[.slice A n c, .slice B m c2] w fun e w' => e = .returned (.bool (decide (R = T))) ∧ Below w.heap.size w w' := by
  have HL := Lib.hid h.len
  have HA := Lib.hid h.at
  have HL2 := Lib.hid h2.len
  have HA2 := Lib.hid h2.at
  clear h h2
  obtain ⟨r, hr⟩ : ∃ r, decide (R = T) = r := ⟨_, rfl⟩
  rw [hr]
  have HR := Lib.hid hr
  clear hr
  by_cases hnm : n = m
  · subst hnm
    go_enter Try.func13, Try.ntmps13
    go_wp2
    go_loopw [5] (fun s5 wr => ∃ (k : Nat), s5 = .int .i64 (k : Int) ∧ k ≤ n ∧ R.take k = T.take k ∧ Below w.heap.size w wr) (fun s5 _ => n - (intOf s5).toNat)
    case atStart => exact ⟨0, rfl, Nat.zero_le _, rfl, Below.refl _ _⟩
    case round =>
      obtain ⟨k, rfl, hkn, hE, hB⟩ := hrel
      have HE := Lib.hid hE
      have HB := Lib.hid hB
      clear hE hB
      by_cases hlt : k < n
      · have hki : (k : Int) < n := by omega
        have hk0 : (0 : Int) ≤ (k : Int) := by omega
        obtain ⟨b, off, rfl, hbl, hc⟩ := HA.out (by omega)
        obtain ⟨b2, off2, rfl, hbl2, hc2⟩ := HA2.out (by omega)
        have hi' : k < R.length := by rw [HL.out]; exact hlt
        have hj' : k < T.length := by rw [HL2.out]; exact hlt
        obtain ⟨c0, c1⟩ := hc wr HB.out k hi'
        obtain ⟨d0, d1⟩ := hc2 wr HB.out k hj'
        have HT := Lib.hid (show R.take (k + 1) = R.take k ++ [R[k]] ∧ T.take (k + 1) = T.take k ++ [T[k]] from ⟨List.take_succ_eq_append_getElem hi', List.take_succ_eq_append_getElem hj'⟩)
        have HNE := Lib.hid (show R[k] ≠ T[k] → r = false from fun h => by
          rw [← HR.out]
          simp only [decide_eq_false_iff_not]
          intro e
          subst e
          exact h rfl)
        clear hc hbl hc2 hbl2
        generalize R[k] = x at *
        generalize T[k] = y at *
        obtain ⟨x0, x1⟩ := x
        obtain ⟨y0, y1⟩ := y
        simp only at c0 c1 d0 d1
        cases h0 : (x0 == y0)
        · have HF := Lib.hid (HNE.out (fun e => by injection e with e _; subst e; simp at h0))
          go_upto_region 6 with fail
          go_quiet (fail)
          go_wp2
          go_ret
          exact ⟨by rw [HF.out]; rfl, by first | exact HB.out | exact below_drew HB.out | exact HB.out.drewN _ | exact below_drewN HB.out⟩
        · cases h1 : (x1 == y1)
          · have HF := Lib.hid (HNE.out (fun e => by injection e with _ e; subst e; simp at h1))
            go_upto_region 6 with fail
            go_quiet (fail)
            go_wp2
            go_ret
            exact ⟨by rw [HF.out]; rfl, by first | exact HB.out | exact below_drew HB.out | exact HB.out.drewN _ | exact below_drewN HB.out⟩
          · have HQ := Lib.hid (show R.take (k + 1) = T.take (k + 1) from by
              rw [HT.out.1, HT.out.2, HE.out, show x0 = y0 by simpa using h0, show x1 = y1 by simpa using h1])
            go_upto_region 6 with fail
            go_quiet (fail)
            go_wp2
            go_roundw
            case rel => exact ⟨k + 1, by go_num, hlt, HQ.out, by first | exact HB.out | exact below_drew HB.out | exact HB.out.drewN _ | exact below_drewN HB.out⟩
            case measure => simp only [intOf]; omega
      · obtain rfl : k = n := by omega
        have hlt2 : ¬ ((k : Int) < (k : Int)) := by omega
        have HF := Lib.hid (show r = true from by
          have h := HE.out
          rw [List.take_of_length_le (by rw [HL.out]; exact Nat.le_refl _), List.take_of_length_le (by rw [HL2.out]; exact Nat.le_refl _)] at h
          rw [← HR.out, h]
          simp)
        go_wp2
        go_ret
        exact ⟨by rw [HF.out]; rfl, HB.out⟩
  · have h1 : ((n : Int) == (m : Int)) = false := by simp; omega
    have h1' : ((n : Int) != (m : Int)) = true := by simp; omega
    have HF := Lib.hid (show r = false from by
      rw [← HR.out]
      simp only [decide_eq_false_iff_not]
      intro e
      subst e
      exact hnm (HL.out.symm.trans HL2.out))
    go_enter Try.func13, Try.ntmps13
    go_wp2
    go_ret
    exact ⟨by rw [HF.out]; rfl, Below.refl _ _⟩
end Go.Proofs.Ytnoddkbpdfimmaa
