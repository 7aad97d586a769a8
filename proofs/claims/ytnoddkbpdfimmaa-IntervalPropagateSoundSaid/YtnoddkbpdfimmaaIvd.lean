/- Containing by a predicate. -/
import Derived.Test.YtnoddkbpdfimmaaIvc
import Derived.Lib.SliceRun
namespace Go.Proofs.Ytnoddkbpdfimmaa
open Go.ChangeShapes Go.WideShapes Go.ChangeAt Go.RowKit Go.ChangeMaps

set_option maxRecDepth 100000 in
set_option maxHeartbeats 2000000 in
theorem IndexH_any (A : Option Addr) (n c : Nat) (R : List Iv) (z : Int) (g : Nat) (w : World) (h : Ivs w A n R) (hn : n ≤ 100000) (hz : w.cell? ⟨g, 0, none⟩ = some (.int .i64 z)) : Calls Try.prog 50 #[.slice A n c, .func (.func 39) #[] #[.pointer (some ⟨g, 0, none⟩)]] w fun e w' => ∃ i : Int, e = .returned (.int .i64 i) ∧ decide (i ≥ 0) = R.any (Iv.has z) ∧ Below w.heap.size w w' := by
  have HL := Lib.hid h.len
  have HA := Lib.hid h.at
  have HZ := Lib.hid hz
  clear hz
  clear h
  obtain ⟨r, hr⟩ : ∃ r, R.any (Iv.has z) = r := ⟨_, rfl⟩
  rw [hr]
  have HR := Lib.hid hr
  clear hr
  go_enter Try.func50, Try.ntmps50
  go_wp2
  go_loopw [8] (fun s8 wr => ∃ (k : Nat), s8 = .int .i64 (k : Int) ∧ k ≤ n ∧ (R.take k).any (Iv.has z) = false ∧ Below w.heap.size w wr) (fun s8 _ => n - (intOf s8).toNat)
  case atStart => exact ⟨0, rfl, Nat.zero_le _, by simp, Below.refl _ _⟩
  case round =>
    obtain ⟨k, rfl, hkn, hE, hB⟩ := hrel
    have HE := Lib.hid hE
    have HB := Lib.hid hB
    clear hE hB
    by_cases hlt : k < n
    · have hki : (k : Int) < n := by omega
      have hk0 : (0 : Int) ≤ (k : Int) := by omega
      obtain ⟨b, off, rfl, hbl, hc⟩ := HA.out (by omega)
      have hi' : k < R.length := by rw [HL.out]; exact hlt
      obtain ⟨c0, c1⟩ := hc wr HB.out k hi'
      have HT := Lib.hid (any_step (Iv.has z) R k hi')
      have HY := Lib.hid (show ((Iv.has z) R[k]) = true → r = true from fun h => by rw [← HR.out]; exact any_true _ R k hi' h)
      clear hc hbl
      generalize R[k] = x at *
      have CF := Lib.hid (has_any x z g wr (keepcell HB.out HZ.out))
      obtain ⟨x0, x1⟩ := x
      simp only at c0 c1
      go_wp2_with fail
      refine CF.out.mono ?_
      rintro e w2 ⟨rfl, hb⟩
      have HB2 := Lib.hid (HB.out.trans (hb.mono HB.out.size))
      clear hb c0 c1
      cases hp : (Iv.has z) ⟨x0, x1⟩
      · have HQ := Lib.hid (show (R.take (k + 1)).any (Iv.has z) = false by rw [HT.out, HE.out, hp]; rfl)
        clear CF
        go_wp2
        go_roundw
        case rel => exact ⟨k + 1, by go_num, hlt, HQ.out, HB2.out⟩
        case measure => simp only [intOf]; omega
      · have HF := Lib.hid (HY.out hp)
        clear CF
        go_wp2
        go_ret
        exact ⟨_, rfl, by rw [HF.out]; simp, HB2.out⟩
    · obtain rfl : k = n := by omega
      have hlt2 : ¬ ((k : Int) < (k : Int)) := by omega
      have HF := Lib.hid (show r = false by rw [← HR.out]; exact any_false _ R k (by rw [HL.out]; exact Nat.le_refl _) HE.out)
      go_wp2
      go_ret
      exact ⟨_, rfl, by rw [HF.out]; rfl, HB.out⟩
set_option maxRecDepth 100000 in
set_option maxHeartbeats 2000000 in
theorem ContFH_any (A : Option Addr) (n c : Nat) (R : List Iv) (z : Int) (g : Nat) (w : World) (h : Ivs w A n R) (hn : n ≤ 100000) (hz : w.cell? ⟨g, 0, none⟩ = some (.int .i64 z)) : Calls Try.prog 38 #[.slice A n c, .func (.func 39) #[] #[.pointer (some ⟨g, 0, none⟩)]] w fun e w' => e = .returned (.bool (R.any (Iv.has z))) ∧ Below w.heap.size w w' := by
  have CI := Lib.hid (IndexH_any A n c R z g w h hn hz)
  clear h
  go_enter Try.func38, Try.ntmps38
  go_wp2_with fail
  refine CI.out.mono ?_
  rintro e w1 ⟨i, rfl, hi, hb⟩
  have HI := Lib.hid hi
  have HB := Lib.hid hb
  clear hb hi CI
  go_wp2
  go_ret
  exact ⟨by rw [← HI.out]; rfl, HB.out⟩
set_option maxRecDepth 100000 in
set_option maxHeartbeats 2000000 in
theorem IndexE_any (A : Option Addr) (n c : Nat) (R : List Iv) (w : World) (h : Ivs w A n R) (hn : n ≤ 100000) : Calls Try.prog 52 #[.slice A n c, .func (.func 36) #[] #[]] w fun e w' => ∃ i : Int, e = .returned (.int .i64 i) ∧ decide (i ≥ 0) = R.any Iv.emp ∧ Below w.heap.size w w' := by
  have HL := Lib.hid h.len
  have HA := Lib.hid h.at
  clear h
  obtain ⟨r, hr⟩ : ∃ r, R.any Iv.emp = r := ⟨_, rfl⟩
  rw [hr]
  have HR := Lib.hid hr
  clear hr
  go_enter Try.func52, Try.ntmps52
  go_wp2
  go_loopw [8] (fun s8 wr => ∃ (k : Nat), s8 = .int .i64 (k : Int) ∧ k ≤ n ∧ (R.take k).any Iv.emp = false ∧ Below w.heap.size w wr) (fun s8 _ => n - (intOf s8).toNat)
  case atStart => exact ⟨0, rfl, Nat.zero_le _, by simp, Below.refl _ _⟩
  case round =>
    obtain ⟨k, rfl, hkn, hE, hB⟩ := hrel
    have HE := Lib.hid hE
    have HB := Lib.hid hB
    clear hE hB
    by_cases hlt : k < n
    · have hki : (k : Int) < n := by omega
      have hk0 : (0 : Int) ≤ (k : Int) := by omega
      obtain ⟨b, off, rfl, hbl, hc⟩ := HA.out (by omega)
      have hi' : k < R.length := by rw [HL.out]; exact hlt
      obtain ⟨c0, c1⟩ := hc wr HB.out k hi'
      have HT := Lib.hid (any_step Iv.emp R k hi')
      have HY := Lib.hid (show (Iv.emp R[k]) = true → r = true from fun h => by rw [← HR.out]; exact any_true _ R k hi' h)
      clear hc hbl
      generalize R[k] = x at *
      have CF := Lib.hid (empty_any x wr)
      obtain ⟨x0, x1⟩ := x
      simp only at c0 c1
      go_wp2_with fail
      refine CF.out.mono ?_
      rintro e w2 ⟨rfl, hb⟩
      have HB2 := Lib.hid (HB.out.trans (hb.mono HB.out.size))
      clear hb c0 c1
      cases hp : Iv.emp ⟨x0, x1⟩
      · have HQ := Lib.hid (show (R.take (k + 1)).any Iv.emp = false by rw [HT.out, HE.out, hp]; rfl)
        clear CF
        go_wp2
        go_roundw
        case rel => exact ⟨k + 1, by go_num, hlt, HQ.out, HB2.out⟩
        case measure => simp only [intOf]; omega
      · have HF := Lib.hid (HY.out hp)
        clear CF
        go_wp2
        go_ret
        exact ⟨_, rfl, by rw [HF.out]; simp, HB2.out⟩
    · obtain rfl : k = n := by omega
      have hlt2 : ¬ ((k : Int) < (k : Int)) := by omega
      have HF := Lib.hid (show r = false by rw [← HR.out]; exact any_false _ R k (by rw [HL.out]; exact Nat.le_refl _) HE.out)
      go_wp2
      go_ret
      exact ⟨_, rfl, by rw [HF.out]; rfl, HB.out⟩
set_option maxRecDepth 100000 in
set_option maxHeartbeats 2000000 in
theorem ContFE_any (A : Option Addr) (n c : Nat) (R : List Iv) (w : World) (h : Ivs w A n R) (hn : n ≤ 100000) : Calls Try.prog 42 #[.slice A n c, .func (.func 36) #[] #[]] w fun e w' => e = .returned (.bool (R.any Iv.emp)) ∧ Below w.heap.size w w' := by
  have CI := Lib.hid (IndexE_any A n c R w h hn )
  clear h
  go_enter Try.func42, Try.ntmps42
  go_wp2_with fail
  refine CI.out.mono ?_
  rintro e w1 ⟨i, rfl, hi, hb⟩
  have HI := Lib.hid hi
  have HB := Lib.hid hb
  clear hb hi CI
  go_wp2
  go_ret
  exact ⟨by rw [← HI.out]; rfl, HB.out⟩
set_option maxRecDepth 100000 in
set_option maxHeartbeats 2000000 in
theorem Contains_any (A : Option Addr) (n c : Nat) (R : List Iv) (z : Int) (w : World) (h : Ivs w A n R) (hn : n ≤ 100000) : Calls Try.prog 20 #[.slice A n c, .int .i64 z] w fun e w' => e = .returned (.bool (R.any (Iv.has z))) ∧ Below w.heap.size w w' := by
  obtain ⟨W0, hW0⟩ : ∃ W, W = w.alloc (.cells #[.int .i64 z] 2) := ⟨_, rfl⟩
  have hb0 : Below w.heap.size w W0 := by rw [hW0]; exact (Below.refl _ w).alloc (Nat.le_refl _) _
  have HK : Blk W0 w.heap.size 2 #[.int .i64 z] := by rw [hW0]; exact Blk.new _ _ _
  have CF := Lib.hid (ContFH_any A n c R z w.heap.size W0 (h.below hb0) hn (HK.cell 0))
  have HB := Lib.hid hb0
  clear h hb0 HK
  go_enter Try.func20, Try.ntmps20
  go_upto_region 1 with fail
  rw [← hW0]
  clear hW0
  go_wp2_with fail
  refine CF.out.mono ?_
  rintro e w1 ⟨rfl, hb⟩
  have HB1 := Lib.hid (HB.out.trans (hb.mono HB.out.size))
  clear hb CF
  go_wp2
  go_ret
  exact ⟨rfl, HB1.out⟩
set_option maxRecDepth 100000 in
set_option maxHeartbeats 2000000 in
theorem Clone_any (A : Option Addr) (n c : Nat) (R : List Iv) (w : World) (h : Ivs w A n R) (hn : n ≤ 100000) : Calls Try.prog 32 #[.slice A n c] w fun e w' => ∃ v, e = .returned v ∧ OR 39 w' w.heap.size v R ∧ Below w.heap.size w w' := by
  obtain ⟨i0, hi, hz0, hz1, hz2⟩ := info_parts Try.info39
  have HH := Lib.hid h
  have HL := Lib.hid h.len
  have qn : ∀ (w : World) (a : Option Addr) (n c n' c' : Nat), (binOp .eql 27 (.slice a n c) (.slice none n' c')).run Try.prog w = .ok (.bool a.isNone) w := fun w a n c n' c' => Lib.run_eql_slice_nil w _ _ a n c n' c' Try.underlying27
  rcases A with _ | ⟨b, off, pth⟩
  · have hz : n = 0 := by
      rcases Nat.eq_zero_or_pos n with h0 | h0
      · exact h0
      · obtain ⟨b, off, e, -⟩ := h.at h0
        cases e
    subst hz
    have HR := Lib.hid (show R = [] from List.eq_nil_of_length_eq_zero HL.out)
    clear h
    go_enter Try.func32, Try.ntmps32
    go_wp2
    go_ret
    exact ⟨_, rfl, by rw [HR.out]; exact World.ownsRow_nil _ _ _ _, Below.refl _ _⟩
  · have HO := Lib.hid (show (w.alloc (.cells #[] 39)).ownsRow w.heap.size 39 2 (.slice (some ⟨w.heap.size, 0, none⟩) 0 0) 0 [] from ⟨rfl, .inr ⟨w.heap.size, 0, #[], rfl, Nat.le_refl _, heap_alloc_new w _, Nat.le_refl _, Nat.zero_le _, rfl, rfl⟩⟩)
    have HS := Lib.hid (At.src (P := Try.prog) (c := c) Try.underlying27 (At.alloc HH.out (.cells #[] 39)) (ivs_one R) (by decide))
    clear h
    go_enter Try.func32, Try.ntmps32
    go_wp2_with (at_builtin; go_loud (refine wpList_append_src _ rfl _ _ 27 27 rfl w.heap.size 39 i0 _ 2 16 Try.underlying27 hi hz0 hz1 hz2 rfl _ 0 [] rfl HO.out _ n (R.flatMap Iv.cells) rfl HS.out ?c1 ?c2 ?c3 ?_))
    case c1 => unfold maxLen; omega
    case c2 => omega
    case c3 => simp
    intro v' w1 own' hg _
    have HB := Lib.hid ((((Below.refl _ w).alloc (Nat.le_refl _) (.cells #[] 39)).grown hg (by simp) (fun j hj => (HO.out.lt j hj).1)))
    have HR := Lib.hid own'
    clear own' hg
    go_wp2
    go_ret
    refine ⟨_, rfl, ?_, HB.out⟩
    have h := HR.out
    unfold OR
    rw [HL.out]
    simpa using h
end Go.Proofs.Ytnoddkbpdfimmaa
