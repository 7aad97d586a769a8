/- Meet of the reference. -/
import Derived.Test.YtnoddkbpdfimmaaIvmt
import Derived.Test.YtnoddkbpdfimmaaIvu
namespace Go.Proofs.Ytnoddkbpdfimmaa
open Go.ChangeShapes Go.WideShapes Go.ChangeAt Go.RowKit Go.ChangeMaps

theorem own_blk_ne2 {wr : World} {L b n c : Nat} {A : Option Addr} {R : List Iv} (h : OR L wr b (.slice A n c) R) : (Value.slice A n c).ownBlock ≠ some wr.heap.size := fun e => own_lt h wr.heap.size (Nat.le_refl _) e
set_option maxRecDepth 100000 in
set_option maxHeartbeats 2000000 in
theorem RMeet_any (A B : Option Addr) (c c2 : Nat) (R T : List Iv) (w : World) (h1 : Ivs w A R.length R) (h2 : Ivs w B T.length T) (hnn : R.length ≤ 300) (hmm : T.length ≤ 300) (o1 : ∀ x ∈ R, x.ok) (o2 : ∀ x ∈ T, x.ok) :
    Calls Try.prog 24 #[.slice A R.length c, .slice B T.length c2] w fun e w' => ∃ v, e = .returned v ∧ ∃ S, Cut R T S ∧ (∀ x ∈ S, x.ok) ∧ S.length ≤ 90000 ∧ OR 42 w' w.heap.size v S ∧ Below w.heap.size w w' := by
  obtain ⟨i0, hii, hz0, hz1, hz2⟩ := info_parts Try.info42
  have HPL := Lib.hid (fun i (hi : i ≤ R.length) => show (prX (R.take i) T).length = i * T.length by rw [prX_len, List.length_take]; congr 1; omega)
  have HPO := Lib.hid (prX_ok o1 o2)
  have hmul := Lib.hid (Nat.mul_le_mul hnn hmm)
  obtain ⟨n, hn⟩ : ∃ n, R.length = n := ⟨_, rfl⟩
  obtain ⟨m, hm⟩ : ∃ m, T.length = m := ⟨_, rfl⟩
  have HN := Lib.hid hn
  have HM := Lib.hid hm
  rw [hn] at h1 hnn
  rw [hm] at h2 hmm
  rw [hn, hm] at hmul HPL ⊢
  have HA := Lib.hid h1.at
  have HB := Lib.hid h2.at
  clear h1 h2 o1 o2 hn hm
  go_enter Try.func24, Try.ntmps24
  go_wp2
  go_loopw [5, 6] (fun s5 s6 wr => ∃ (i : Nat), s6 = .int .i64 (i : Int) ∧ i ≤ n ∧ OR 42 wr w.heap.size s5 (prX (R.take i) T) ∧ Below w.heap.size w wr) (fun _ s6 _ => n - (intOf s6).toNat)
  case atStart => exact ⟨0, rfl, Nat.zero_le _, World.ownsRow_nil _ _ _ _, Below.refl _ _⟩
  case round =>
    obtain ⟨wq, rfl⟩ : ∃ x, x = wr := ⟨_, rfl⟩
    obtain ⟨i, rfl, hin, hO, hBw⟩ := hrel
    have HO := Lib.hid hO
    have HBW := Lib.hid hBw
    clear hO hBw
    by_cases hi : i < n
    · have hki : (i : Int) < n := by omega
      have hk0 : (0 : Int) ≤ (i : Int) := by omega
      obtain ⟨b, off, rfl, hbl, hc⟩ := HA.out (by omega)
      have hi' : i < R.length := by rw [HN.out]; exact hi
      have HC1 := Lib.hid (fun W hW => hc W hW i hi')
      have HTI := Lib.hid (prX_take R T i hi')
      have HPI := Lib.hid (HPL.out i hin)
      have hib : i * m ≤ 299 * 300 := Nat.mul_le_mul (by omega) hmm
      have HIB := Lib.hid hib
      clear hc hbl hib
      generalize R[i] = x at *
      obtain ⟨x0, x1⟩ := x
      generalize prX (R.take i) T = P at *
      go_wp2
      go_loopw [5, 7] (fun s5 s7 wr => ∃ (k : Nat), s7 = .int .i64 (k : Int) ∧ k ≤ m ∧ OR 42 wr w.heap.size s5 (P ++ (T.take k).map (cutI ⟨x0, x1⟩)) ∧ Below w.heap.size w wr) (fun _ s7 _ => m - (intOf s7).toNat)
      case atStart => exact ⟨0, rfl, Nat.zero_le _, by rw [List.take_zero, List.map_nil, List.append_nil]; exact HO.out, HBW.out⟩
      case round =>
        clear HO HBW
        obtain ⟨k, rfl, hkm, hO, hBw⟩ := hrel
        have HLL := Lib.hid (show (P ++ (T.take k).map (cutI ⟨x0, x1⟩)).length = i * m + k by rw [List.length_append, HPI.out, List.length_map, List.length_take, HM.out]; omega)
        by_cases hj : k < m
        · have hkj : (k : Int) < m := by omega
          have hj0 : (0 : Int) ≤ (k : Int) := by omega
          obtain ⟨b2, off2, rfl, hbl2, hc2⟩ := HB.out (by omega)
          have hj' : k < T.length := by rw [HM.out]; exact hj
          have HC2 := Lib.hid (fun W hW => hc2 W hW k hj')
          have HTK := Lib.hid (show P ++ (T.take (k + 1)).map (cutI ⟨x0, x1⟩) = P ++ (T.take k).map (cutI ⟨x0, x1⟩) ++ [cutI ⟨x0, x1⟩ T[k]] by
            rw [List.take_succ_eq_append_getElem hj', List.map_append, List.append_assoc]; rfl)
          have HO := Lib.hid hO
          have HBW := Lib.hid hBw
          obtain ⟨A5, c5, rfl, -, -, -⟩ := hO.ivs
          clear hO hBw hc2 hbl2
          obtain ⟨L, hL⟩ : ∃ L, P ++ (T.take k).map (cutI ⟨x0, x1⟩) = L := ⟨_, rfl⟩
          rw [hL] at HO HTK HLL ⊢
          obtain ⟨q, hq⟩ : ∃ q, L.length = q := ⟨_, rfl⟩
          have hqb : q ≤ 99700 := by
            have h1 := HIB.out
            have h2 := HLL.out
            omega
          have HQ0 := Lib.hid hq
          rw [hq] at HO ⊢
          clear hL hq HLL
          generalize T[k] = y at *
          obtain ⟨y0, y1⟩ := y
          obtain ⟨c0, c1⟩ := HC1.out wr HBW.out
          try simp only at c0 c1
          obtain ⟨X, hX⟩ : ∃ W, W = wr.alloc (.cells #[.int .i64 x0, .int .i64 x1] 42) := ⟨_, rfl⟩
          have BX := Lib.hid (show Blk X wr.heap.size 42 #[.int .i64 x0, .int .i64 x1] by rw [hX]; exact Blk.new _ _ _)
          have CX := Lib.hid (show Below w.heap.size w X by rw [hX]; exact HBW.out.alloc HBW.out.size _)
          have AX := Lib.hid (show OR 42 X w.heap.size (.slice A5 q c5) L by rw [hX]; exact HO.out.alloc _)
          have hws : w.heap.size ≤ wr.heap.size := HBW.out.size
          go_upto_region 9 with fail
          rw [← hX]
          clear hX c0 c1
          by_cases h1 : x0 < y0
          · by_cases h2 : y1 < x1
            · have g0 : X.cell? ⟨wr.heap.size, 0, none⟩ = some (.int .i64 x0) := BX.out.cell 0
              have g1 : X.cell? ⟨wr.heap.size, 1, none⟩ = some (.int .i64 x1) := BX.out.cell 1
              obtain ⟨d0, d1⟩ := HC2.out X CX.out
              try simp only at d0 d1
              have d0q : ∀ d os, (Go.Sort.grow (redrawn X d) os).cell? ⟨b2, off2 + k * 2, none⟩ = some (.int .i64 y0) := fun d os => cell_regrown d0 d os
              have d1q : ∀ d os, (Go.Sort.grow (redrawn X d) os).cell? ⟨b2, off2 + k * 2 + 1, none⟩ = some (.int .i64 y1) := fun d os => cell_regrown d1 d os
              have g0q : ∀ d os, (Go.Sort.grow (redrawn X d) os).cell? ⟨wr.heap.size, 0, none⟩ = some (.int .i64 x0) := fun d os => cell_regrown g0 d os
              have g1q : ∀ d os, (Go.Sort.grow (redrawn X d) os).cell? ⟨wr.heap.size, 1, none⟩ = some (.int .i64 x1) := fun d os => cell_regrown g1 d os
              refine wp_region_quiet_below (by kernel_rfl) (by kernel_rfl) ?_
              repeat (first | go_big_quiet_step (fail) | quiet_step (fail))
              refine wpQuiet_nil ?_
              intro _ hw'
              obtain ⟨⟨dq, osq⟩, hw''⟩ := hw'
              subst hw''
              have hbX2 : Below X.heap.size X (Go.Sort.grow (redrawn X dq) osq) := below_regrown X dq osq
              clear d0q d1q g0q g1q
              generalize (Go.Sort.grow (redrawn X dq) osq) = X2 at *
              have BX2 := Lib.hid (BX.out.below hbX2)
              have CX2 := Lib.hid (CX.out.trans (hbX2.mono CX.out.size))
              have AX2 := Lib.hid (AX.out.below hbX2)
              clear g0 g1 d0 d1 hbX2
              have g0 : X2.cell? ⟨wr.heap.size, 0, none⟩ = some (.int .i64 x0) := BX2.out.cell 0
              have g1 : X2.cell? ⟨wr.heap.size, 1, none⟩ = some (.int .i64 x1) := BX2.out.cell 1
              obtain ⟨d0, d1⟩ := HC2.out X2 CX2.out
              try simp only at d0 d1
              have zX3 : ∀ j, X2.frozen? ⟨wr.heap.size, j, none⟩ = false := fun j => Joins.unfrozen_of_block BX2.out _
              obtain ⟨X3, hX3⟩ : ∃ W, W = X2.setCell ⟨wr.heap.size, 0, none⟩ (.int .i64 y0) := ⟨_, rfl⟩
              have SX3 := store_step BX2.out 0 (.int .i64 y0)
              rw [← hX3] at SX3
              have BX3 : Hid (Blk X3 wr.heap.size 42 #[.int .i64 y0, .int .i64 x1]) := Lib.hid SX3.1
              have CX3 := Lib.hid (SX3.2.2 _ _ CX2.out (by omega))
              have AX3 := Lib.hid (show OR 42 X3 w.heap.size (.slice A5 q c5) L by rw [hX3]; exact ownsRow_setCell_other AX2.out (own_blk_ne2 HO.out) _)
              clear SX3
              go_upto_region 11 with fail
              rw [← hX3]
              clear hX3 g0 g1 d0 d1 zX3
              have g0 : X3.cell? ⟨wr.heap.size, 0, none⟩ = some (.int .i64 y0) := BX3.out.cell 0
              have g1 : X3.cell? ⟨wr.heap.size, 1, none⟩ = some (.int .i64 x1) := BX3.out.cell 1
              obtain ⟨d0, d1⟩ := HC2.out X3 CX3.out
              try simp only at d0 d1
              have d0q : ∀ d os, (Go.Sort.grow (redrawn X3 d) os).cell? ⟨b2, off2 + k * 2, none⟩ = some (.int .i64 y0) := fun d os => cell_regrown d0 d os
              have d1q : ∀ d os, (Go.Sort.grow (redrawn X3 d) os).cell? ⟨b2, off2 + k * 2 + 1, none⟩ = some (.int .i64 y1) := fun d os => cell_regrown d1 d os
              have g0q : ∀ d os, (Go.Sort.grow (redrawn X3 d) os).cell? ⟨wr.heap.size, 0, none⟩ = some (.int .i64 y0) := fun d os => cell_regrown g0 d os
              have g1q : ∀ d os, (Go.Sort.grow (redrawn X3 d) os).cell? ⟨wr.heap.size, 1, none⟩ = some (.int .i64 x1) := fun d os => cell_regrown g1 d os
              refine wp_region_quiet_below (by kernel_rfl) (by kernel_rfl) ?_
              repeat (first | go_big_quiet_step (fail) | quiet_step (fail))
              refine wpQuiet_nil ?_
              intro _ hw'
              obtain ⟨⟨dq, osq⟩, hw''⟩ := hw'
              subst hw''
              have hbX4 : Below X3.heap.size X3 (Go.Sort.grow (redrawn X3 dq) osq) := below_regrown X3 dq osq
              clear d0q d1q g0q g1q
              generalize (Go.Sort.grow (redrawn X3 dq) osq) = X4 at *
              have BX4 := Lib.hid (BX3.out.below hbX4)
              have CX4 := Lib.hid (CX3.out.trans (hbX4.mono CX3.out.size))
              have AX4 := Lib.hid (AX3.out.below hbX4)
              clear g0 g1 d0 d1 hbX4
              have g0 : X4.cell? ⟨wr.heap.size, 0, none⟩ = some (.int .i64 y0) := BX4.out.cell 0
              have g1 : X4.cell? ⟨wr.heap.size, 1, none⟩ = some (.int .i64 x1) := BX4.out.cell 1
              obtain ⟨d0, d1⟩ := HC2.out X4 CX4.out
              try simp only at d0 d1
              have zX5 : ∀ j, X4.frozen? ⟨wr.heap.size, j, none⟩ = false := fun j => Joins.unfrozen_of_block BX4.out _
              obtain ⟨X5, hX5⟩ : ∃ W, W = X4.setCell ⟨wr.heap.size, 1, none⟩ (.int .i64 y1) := ⟨_, rfl⟩
              have SX5 := store_step BX4.out 1 (.int .i64 y1)
              rw [← hX5] at SX5
              have BX5 : Hid (Blk X5 wr.heap.size 42 #[.int .i64 y0, .int .i64 y1]) := Lib.hid SX5.1
              have CX5 := Lib.hid (SX5.2.2 _ _ CX4.out (by omega))
              have AX5 := Lib.hid (show OR 42 X5 w.heap.size (.slice A5 q c5) L by rw [hX5]; exact ownsRow_setCell_other AX4.out (own_blk_ne2 HO.out) _)
              clear SX5
              go_upto_region 13 with fail
              rw [← hX5]
              clear hX5 g0 g1 d0 d1 zX5
              have HCT := Lib.hid (show cutI ⟨x0, x1⟩ ⟨y0, y1⟩ = ⟨y0, y1⟩ by unfold cutI; simp only [if_pos h1, if_pos h2])
              rw [HCT.out] at HTK
              have g0 : X5.cell? ⟨wr.heap.size, 0, none⟩ = some (.int .i64 y0) := BX5.out.cell 0
              have g1 : X5.cell? ⟨wr.heap.size, 1, none⟩ = some (.int .i64 y1) := BX5.out.cell 1
              have HO8 := Lib.hid (show X5.ownsRow w.heap.size 42 2 (.slice A5 q c5) q (L.flatMap Iv.cells) by have := AX5.out; unfold OR at this; rwa [HQ0.out] at this)
              obtain ⟨W3, hW3⟩ : ∃ W3, W3 = X5.alloc (.cells #[.int .i64 y0, .int .i64 y1] 42) := ⟨_, rfl⟩
              have HO9 := Lib.hid (show W3.ownsRow w.heap.size 42 2 (.slice A5 q c5) q (L.flatMap Iv.cells) by rw [hW3]; exact HO8.out.alloc _)
              have HB9 := Lib.hid (show Below w.heap.size w W3 by rw [hW3]; exact CX5.out.alloc CX5.out.size _)
              have HN9 : Hid (Src Try.prog 2 22 (.slice (some ⟨X5.heap.size, 0, none⟩) 1 1) 1 (Iv.cells ⟨y0, y1⟩) W3) := Lib.hid (src_blk (c := 1) Try.underlying22 rfl (iv_one _) (show Blk W3 X5.heap.size 42 (Iv.cells ⟨y0, y1⟩).toArray by rw [hW3]; exact Blk.new_ rfl rfl))
              have HS9 := Lib.hid HB9.out.size
              subst hW3
              go_wp2_with (at_builtin; go_loud (refine wpList_append_src _ rfl _ _ 22 22 rfl w.heap.size 42 i0 _ 2 16 Try.underlying22 hii hz0 hz1 hz2 rfl _ q _ rfl HO9.out _ 1 (Iv.cells ⟨y0, y1⟩) rfl HN9.out ?c1 ?c2 HS9.out ?_))
              case c1 => unfold maxLen; omega
              case c2 => omega
              intro v' w5 own' hg _
              have HBn := Lib.hid (HB9.out.grown hg HS9.out (fun j hj => (HO9.out.lt j hj).1))
              have HOn := Lib.hid (show OR 42 w5 w.heap.size v' (L ++ [⟨y0, y1⟩]) by unfold OR; rw [List.length_append, HQ0.out, List.flatMap_append]; simpa using own')
              rw [← HTK.out] at HOn
              clear own' hg HO8 HO9 HB9 HN9 HS9
              go_wp2
              go_roundw
              case rel => exact ⟨k + 1, by go_num, hj, HOn.out, HBn.out⟩
              case measure => simp only [intOf]; omega
            · have g0 : X.cell? ⟨wr.heap.size, 0, none⟩ = some (.int .i64 x0) := BX.out.cell 0
              have g1 : X.cell? ⟨wr.heap.size, 1, none⟩ = some (.int .i64 x1) := BX.out.cell 1
              obtain ⟨d0, d1⟩ := HC2.out X CX.out
              try simp only at d0 d1
              have d0q : ∀ d os, (Go.Sort.grow (redrawn X d) os).cell? ⟨b2, off2 + k * 2, none⟩ = some (.int .i64 y0) := fun d os => cell_regrown d0 d os
              have d1q : ∀ d os, (Go.Sort.grow (redrawn X d) os).cell? ⟨b2, off2 + k * 2 + 1, none⟩ = some (.int .i64 y1) := fun d os => cell_regrown d1 d os
              have g0q : ∀ d os, (Go.Sort.grow (redrawn X d) os).cell? ⟨wr.heap.size, 0, none⟩ = some (.int .i64 x0) := fun d os => cell_regrown g0 d os
              have g1q : ∀ d os, (Go.Sort.grow (redrawn X d) os).cell? ⟨wr.heap.size, 1, none⟩ = some (.int .i64 x1) := fun d os => cell_regrown g1 d os
              refine wp_region_quiet_below (by kernel_rfl) (by kernel_rfl) ?_
              repeat (first | go_big_quiet_step (fail) | quiet_step (fail))
              refine wpQuiet_nil ?_
              intro _ hw'
              obtain ⟨⟨dq, osq⟩, hw''⟩ := hw'
              subst hw''
              have hbX2 : Below X.heap.size X (Go.Sort.grow (redrawn X dq) osq) := below_regrown X dq osq
              clear d0q d1q g0q g1q
              generalize (Go.Sort.grow (redrawn X dq) osq) = X2 at *
              have BX2 := Lib.hid (BX.out.below hbX2)
              have CX2 := Lib.hid (CX.out.trans (hbX2.mono CX.out.size))
              have AX2 := Lib.hid (AX.out.below hbX2)
              clear g0 g1 d0 d1 hbX2
              have g0 : X2.cell? ⟨wr.heap.size, 0, none⟩ = some (.int .i64 x0) := BX2.out.cell 0
              have g1 : X2.cell? ⟨wr.heap.size, 1, none⟩ = some (.int .i64 x1) := BX2.out.cell 1
              obtain ⟨d0, d1⟩ := HC2.out X2 CX2.out
              try simp only at d0 d1
              have zX3 : ∀ j, X2.frozen? ⟨wr.heap.size, j, none⟩ = false := fun j => Joins.unfrozen_of_block BX2.out _
              obtain ⟨X3, hX3⟩ : ∃ W, W = X2.setCell ⟨wr.heap.size, 0, none⟩ (.int .i64 y0) := ⟨_, rfl⟩
              have SX3 := store_step BX2.out 0 (.int .i64 y0)
              rw [← hX3] at SX3
              have BX3 : Hid (Blk X3 wr.heap.size 42 #[.int .i64 y0, .int .i64 x1]) := Lib.hid SX3.1
              have CX3 := Lib.hid (SX3.2.2 _ _ CX2.out (by omega))
              have AX3 := Lib.hid (show OR 42 X3 w.heap.size (.slice A5 q c5) L by rw [hX3]; exact ownsRow_setCell_other AX2.out (own_blk_ne2 HO.out) _)
              clear SX3
              go_upto_region 11 with fail
              rw [← hX3]
              clear hX3 g0 g1 d0 d1 zX3
              have g0 : X3.cell? ⟨wr.heap.size, 0, none⟩ = some (.int .i64 y0) := BX3.out.cell 0
              have g1 : X3.cell? ⟨wr.heap.size, 1, none⟩ = some (.int .i64 x1) := BX3.out.cell 1
              obtain ⟨d0, d1⟩ := HC2.out X3 CX3.out
              try simp only at d0 d1
              have d0q : ∀ d os, (Go.Sort.grow (redrawn X3 d) os).cell? ⟨b2, off2 + k * 2, none⟩ = some (.int .i64 y0) := fun d os => cell_regrown d0 d os
              have d1q : ∀ d os, (Go.Sort.grow (redrawn X3 d) os).cell? ⟨b2, off2 + k * 2 + 1, none⟩ = some (.int .i64 y1) := fun d os => cell_regrown d1 d os
              have g0q : ∀ d os, (Go.Sort.grow (redrawn X3 d) os).cell? ⟨wr.heap.size, 0, none⟩ = some (.int .i64 y0) := fun d os => cell_regrown g0 d os
              have g1q : ∀ d os, (Go.Sort.grow (redrawn X3 d) os).cell? ⟨wr.heap.size, 1, none⟩ = some (.int .i64 x1) := fun d os => cell_regrown g1 d os
              refine wp_region_quiet_below (by kernel_rfl) (by kernel_rfl) ?_
              repeat (first | go_big_quiet_step (fail) | quiet_step (fail))
              refine wpQuiet_nil ?_
              intro _ hw'
              obtain ⟨⟨dq, osq⟩, hw''⟩ := hw'
              subst hw''
              have hbX4 : Below X3.heap.size X3 (Go.Sort.grow (redrawn X3 dq) osq) := below_regrown X3 dq osq
              clear d0q d1q g0q g1q
              generalize (Go.Sort.grow (redrawn X3 dq) osq) = X4 at *
              have BX4 := Lib.hid (BX3.out.below hbX4)
              have CX4 := Lib.hid (CX3.out.trans (hbX4.mono CX3.out.size))
              have AX4 := Lib.hid (AX3.out.below hbX4)
              clear g0 g1 d0 d1 hbX4
              go_upto_region 13 with fail
              have HCT := Lib.hid (show cutI ⟨x0, x1⟩ ⟨y0, y1⟩ = ⟨y0, x1⟩ by unfold cutI; simp only [if_pos h1, if_neg h2])
              rw [HCT.out] at HTK
              have g0 : X4.cell? ⟨wr.heap.size, 0, none⟩ = some (.int .i64 y0) := BX4.out.cell 0
              have g1 : X4.cell? ⟨wr.heap.size, 1, none⟩ = some (.int .i64 x1) := BX4.out.cell 1
              have HO8 := Lib.hid (show X4.ownsRow w.heap.size 42 2 (.slice A5 q c5) q (L.flatMap Iv.cells) by have := AX4.out; unfold OR at this; rwa [HQ0.out] at this)
              obtain ⟨W3, hW3⟩ : ∃ W3, W3 = X4.alloc (.cells #[.int .i64 y0, .int .i64 x1] 42) := ⟨_, rfl⟩
              have HO9 := Lib.hid (show W3.ownsRow w.heap.size 42 2 (.slice A5 q c5) q (L.flatMap Iv.cells) by rw [hW3]; exact HO8.out.alloc _)
              have HB9 := Lib.hid (show Below w.heap.size w W3 by rw [hW3]; exact CX4.out.alloc CX4.out.size _)
              have HN9 : Hid (Src Try.prog 2 22 (.slice (some ⟨X4.heap.size, 0, none⟩) 1 1) 1 (Iv.cells ⟨y0, x1⟩) W3) := Lib.hid (src_blk (c := 1) Try.underlying22 rfl (iv_one _) (show Blk W3 X4.heap.size 42 (Iv.cells ⟨y0, x1⟩).toArray by rw [hW3]; exact Blk.new_ rfl rfl))
              have HS9 := Lib.hid HB9.out.size
              subst hW3
              go_wp2_with (at_builtin; go_loud (refine wpList_append_src _ rfl _ _ 22 22 rfl w.heap.size 42 i0 _ 2 16 Try.underlying22 hii hz0 hz1 hz2 rfl _ q _ rfl HO9.out _ 1 (Iv.cells ⟨y0, x1⟩) rfl HN9.out ?c1 ?c2 HS9.out ?_))
              case c1 => unfold maxLen; omega
              case c2 => omega
              intro v' w5 own' hg _
              have HBn := Lib.hid (HB9.out.grown hg HS9.out (fun j hj => (HO9.out.lt j hj).1))
              have HOn := Lib.hid (show OR 42 w5 w.heap.size v' (L ++ [⟨y0, x1⟩]) by unfold OR; rw [List.length_append, HQ0.out, List.flatMap_append]; simpa using own')
              rw [← HTK.out] at HOn
              clear own' hg HO8 HO9 HB9 HN9 HS9
              go_wp2
              go_roundw
              case rel => exact ⟨k + 1, by go_num, hj, HOn.out, HBn.out⟩
              case measure => simp only [intOf]; omega
          · by_cases h2 : y1 < x1
            · have g0 : X.cell? ⟨wr.heap.size, 0, none⟩ = some (.int .i64 x0) := BX.out.cell 0
              have g1 : X.cell? ⟨wr.heap.size, 1, none⟩ = some (.int .i64 x1) := BX.out.cell 1
              obtain ⟨d0, d1⟩ := HC2.out X CX.out
              try simp only at d0 d1
              have d0q : ∀ d os, (Go.Sort.grow (redrawn X d) os).cell? ⟨b2, off2 + k * 2, none⟩ = some (.int .i64 y0) := fun d os => cell_regrown d0 d os
              have d1q : ∀ d os, (Go.Sort.grow (redrawn X d) os).cell? ⟨b2, off2 + k * 2 + 1, none⟩ = some (.int .i64 y1) := fun d os => cell_regrown d1 d os
              have g0q : ∀ d os, (Go.Sort.grow (redrawn X d) os).cell? ⟨wr.heap.size, 0, none⟩ = some (.int .i64 x0) := fun d os => cell_regrown g0 d os
              have g1q : ∀ d os, (Go.Sort.grow (redrawn X d) os).cell? ⟨wr.heap.size, 1, none⟩ = some (.int .i64 x1) := fun d os => cell_regrown g1 d os
              refine wp_region_quiet_below (by kernel_rfl) (by kernel_rfl) ?_
              repeat (first | go_big_quiet_step (fail) | quiet_step (fail))
              refine wpQuiet_nil ?_
              intro _ hw'
              obtain ⟨⟨dq, osq⟩, hw''⟩ := hw'
              subst hw''
              have hbX2 : Below X.heap.size X (Go.Sort.grow (redrawn X dq) osq) := below_regrown X dq osq
              clear d0q d1q g0q g1q
              generalize (Go.Sort.grow (redrawn X dq) osq) = X2 at *
              have BX2 := Lib.hid (BX.out.below hbX2)
              have CX2 := Lib.hid (CX.out.trans (hbX2.mono CX.out.size))
              have AX2 := Lib.hid (AX.out.below hbX2)
              clear g0 g1 d0 d1 hbX2
              go_upto_region 11 with fail
              have g0 : X2.cell? ⟨wr.heap.size, 0, none⟩ = some (.int .i64 x0) := BX2.out.cell 0
              have g1 : X2.cell? ⟨wr.heap.size, 1, none⟩ = some (.int .i64 x1) := BX2.out.cell 1
              obtain ⟨d0, d1⟩ := HC2.out X2 CX2.out
              try simp only at d0 d1
              have d0q : ∀ d os, (Go.Sort.grow (redrawn X2 d) os).cell? ⟨b2, off2 + k * 2, none⟩ = some (.int .i64 y0) := fun d os => cell_regrown d0 d os
              have d1q : ∀ d os, (Go.Sort.grow (redrawn X2 d) os).cell? ⟨b2, off2 + k * 2 + 1, none⟩ = some (.int .i64 y1) := fun d os => cell_regrown d1 d os
              have g0q : ∀ d os, (Go.Sort.grow (redrawn X2 d) os).cell? ⟨wr.heap.size, 0, none⟩ = some (.int .i64 x0) := fun d os => cell_regrown g0 d os
              have g1q : ∀ d os, (Go.Sort.grow (redrawn X2 d) os).cell? ⟨wr.heap.size, 1, none⟩ = some (.int .i64 x1) := fun d os => cell_regrown g1 d os
              refine wp_region_quiet_below (by kernel_rfl) (by kernel_rfl) ?_
              repeat (first | go_big_quiet_step (fail) | quiet_step (fail))
              refine wpQuiet_nil ?_
              intro _ hw'
              obtain ⟨⟨dq, osq⟩, hw''⟩ := hw'
              subst hw''
              have hbX4 : Below X2.heap.size X2 (Go.Sort.grow (redrawn X2 dq) osq) := below_regrown X2 dq osq
              clear d0q d1q g0q g1q
              generalize (Go.Sort.grow (redrawn X2 dq) osq) = X4 at *
              have BX4 := Lib.hid (BX2.out.below hbX4)
              have CX4 := Lib.hid (CX2.out.trans (hbX4.mono CX2.out.size))
              have AX4 := Lib.hid (AX2.out.below hbX4)
              clear g0 g1 d0 d1 hbX4
              have g0 : X4.cell? ⟨wr.heap.size, 0, none⟩ = some (.int .i64 x0) := BX4.out.cell 0
              have g1 : X4.cell? ⟨wr.heap.size, 1, none⟩ = some (.int .i64 x1) := BX4.out.cell 1
              obtain ⟨d0, d1⟩ := HC2.out X4 CX4.out
              try simp only at d0 d1
              have zX5 : ∀ j, X4.frozen? ⟨wr.heap.size, j, none⟩ = false := fun j => Joins.unfrozen_of_block BX4.out _
              obtain ⟨X5, hX5⟩ : ∃ W, W = X4.setCell ⟨wr.heap.size, 1, none⟩ (.int .i64 y1) := ⟨_, rfl⟩
              have SX5 := store_step BX4.out 1 (.int .i64 y1)
              rw [← hX5] at SX5
              have BX5 : Hid (Blk X5 wr.heap.size 42 #[.int .i64 x0, .int .i64 y1]) := Lib.hid SX5.1
              have CX5 := Lib.hid (SX5.2.2 _ _ CX4.out (by omega))
              have AX5 := Lib.hid (show OR 42 X5 w.heap.size (.slice A5 q c5) L by rw [hX5]; exact ownsRow_setCell_other AX4.out (own_blk_ne2 HO.out) _)
              clear SX5
              go_upto_region 13 with fail
              rw [← hX5]
              clear hX5 g0 g1 d0 d1 zX5
              have HCT := Lib.hid (show cutI ⟨x0, x1⟩ ⟨y0, y1⟩ = ⟨x0, y1⟩ by unfold cutI; simp only [if_neg h1, if_pos h2])
              rw [HCT.out] at HTK
              have g0 : X5.cell? ⟨wr.heap.size, 0, none⟩ = some (.int .i64 x0) := BX5.out.cell 0
              have g1 : X5.cell? ⟨wr.heap.size, 1, none⟩ = some (.int .i64 y1) := BX5.out.cell 1
              have HO8 := Lib.hid (show X5.ownsRow w.heap.size 42 2 (.slice A5 q c5) q (L.flatMap Iv.cells) by have := AX5.out; unfold OR at this; rwa [HQ0.out] at this)
              obtain ⟨W3, hW3⟩ : ∃ W3, W3 = X5.alloc (.cells #[.int .i64 x0, .int .i64 y1] 42) := ⟨_, rfl⟩
              have HO9 := Lib.hid (show W3.ownsRow w.heap.size 42 2 (.slice A5 q c5) q (L.flatMap Iv.cells) by rw [hW3]; exact HO8.out.alloc _)
              have HB9 := Lib.hid (show Below w.heap.size w W3 by rw [hW3]; exact CX5.out.alloc CX5.out.size _)
              have HN9 : Hid (Src Try.prog 2 22 (.slice (some ⟨X5.heap.size, 0, none⟩) 1 1) 1 (Iv.cells ⟨x0, y1⟩) W3) := Lib.hid (src_blk (c := 1) Try.underlying22 rfl (iv_one _) (show Blk W3 X5.heap.size 42 (Iv.cells ⟨x0, y1⟩).toArray by rw [hW3]; exact Blk.new_ rfl rfl))
              have HS9 := Lib.hid HB9.out.size
              subst hW3
              go_wp2_with (at_builtin; go_loud (refine wpList_append_src _ rfl _ _ 22 22 rfl w.heap.size 42 i0 _ 2 16 Try.underlying22 hii hz0 hz1 hz2 rfl _ q _ rfl HO9.out _ 1 (Iv.cells ⟨x0, y1⟩) rfl HN9.out ?c1 ?c2 HS9.out ?_))
              case c1 => unfold maxLen; omega
              case c2 => omega
              intro v' w5 own' hg _
              have HBn := Lib.hid (HB9.out.grown hg HS9.out (fun j hj => (HO9.out.lt j hj).1))
              have HOn := Lib.hid (show OR 42 w5 w.heap.size v' (L ++ [⟨x0, y1⟩]) by unfold OR; rw [List.length_append, HQ0.out, List.flatMap_append]; simpa using own')
              rw [← HTK.out] at HOn
              clear own' hg HO8 HO9 HB9 HN9 HS9
              go_wp2
              go_roundw
              case rel => exact ⟨k + 1, by go_num, hj, HOn.out, HBn.out⟩
              case measure => simp only [intOf]; omega
            · have g0 : X.cell? ⟨wr.heap.size, 0, none⟩ = some (.int .i64 x0) := BX.out.cell 0
              have g1 : X.cell? ⟨wr.heap.size, 1, none⟩ = some (.int .i64 x1) := BX.out.cell 1
              obtain ⟨d0, d1⟩ := HC2.out X CX.out
              try simp only at d0 d1
              have d0q : ∀ d os, (Go.Sort.grow (redrawn X d) os).cell? ⟨b2, off2 + k * 2, none⟩ = some (.int .i64 y0) := fun d os => cell_regrown d0 d os
              have d1q : ∀ d os, (Go.Sort.grow (redrawn X d) os).cell? ⟨b2, off2 + k * 2 + 1, none⟩ = some (.int .i64 y1) := fun d os => cell_regrown d1 d os
              have g0q : ∀ d os, (Go.Sort.grow (redrawn X d) os).cell? ⟨wr.heap.size, 0, none⟩ = some (.int .i64 x0) := fun d os => cell_regrown g0 d os
              have g1q : ∀ d os, (Go.Sort.grow (redrawn X d) os).cell? ⟨wr.heap.size, 1, none⟩ = some (.int .i64 x1) := fun d os => cell_regrown g1 d os
              refine wp_region_quiet_below (by kernel_rfl) (by kernel_rfl) ?_
              repeat (first | go_big_quiet_step (fail) | quiet_step (fail))
              refine wpQuiet_nil ?_
              intro _ hw'
              obtain ⟨⟨dq, osq⟩, hw''⟩ := hw'
              subst hw''
              have hbX2 : Below X.heap.size X (Go.Sort.grow (redrawn X dq) osq) := below_regrown X dq osq
              clear d0q d1q g0q g1q
              generalize (Go.Sort.grow (redrawn X dq) osq) = X2 at *
              have BX2 := Lib.hid (BX.out.below hbX2)
              have CX2 := Lib.hid (CX.out.trans (hbX2.mono CX.out.size))
              have AX2 := Lib.hid (AX.out.below hbX2)
              clear g0 g1 d0 d1 hbX2
              go_upto_region 11 with fail
              have g0 : X2.cell? ⟨wr.heap.size, 0, none⟩ = some (.int .i64 x0) := BX2.out.cell 0
              have g1 : X2.cell? ⟨wr.heap.size, 1, none⟩ = some (.int .i64 x1) := BX2.out.cell 1
              obtain ⟨d0, d1⟩ := HC2.out X2 CX2.out
              try simp only at d0 d1
              have d0q : ∀ d os, (Go.Sort.grow (redrawn X2 d) os).cell? ⟨b2, off2 + k * 2, none⟩ = some (.int .i64 y0) := fun d os => cell_regrown d0 d os
              have d1q : ∀ d os, (Go.Sort.grow (redrawn X2 d) os).cell? ⟨b2, off2 + k * 2 + 1, none⟩ = some (.int .i64 y1) := fun d os => cell_regrown d1 d os
              have g0q : ∀ d os, (Go.Sort.grow (redrawn X2 d) os).cell? ⟨wr.heap.size, 0, none⟩ = some (.int .i64 x0) := fun d os => cell_regrown g0 d os
              have g1q : ∀ d os, (Go.Sort.grow (redrawn X2 d) os).cell? ⟨wr.heap.size, 1, none⟩ = some (.int .i64 x1) := fun d os => cell_regrown g1 d os
              refine wp_region_quiet_below (by kernel_rfl) (by kernel_rfl) ?_
              repeat (first | go_big_quiet_step (fail) | quiet_step (fail))
              refine wpQuiet_nil ?_
              intro _ hw'
              obtain ⟨⟨dq, osq⟩, hw''⟩ := hw'
              subst hw''
              have hbX4 : Below X2.heap.size X2 (Go.Sort.grow (redrawn X2 dq) osq) := below_regrown X2 dq osq
              clear d0q d1q g0q g1q
              generalize (Go.Sort.grow (redrawn X2 dq) osq) = X4 at *
              have BX4 := Lib.hid (BX2.out.below hbX4)
              have CX4 := Lib.hid (CX2.out.trans (hbX4.mono CX2.out.size))
              have AX4 := Lib.hid (AX2.out.below hbX4)
              clear g0 g1 d0 d1 hbX4
              go_upto_region 13 with fail
              have HCT := Lib.hid (show cutI ⟨x0, x1⟩ ⟨y0, y1⟩ = ⟨x0, x1⟩ by unfold cutI; simp only [if_neg h1, if_neg h2])
              rw [HCT.out] at HTK
              have g0 : X4.cell? ⟨wr.heap.size, 0, none⟩ = some (.int .i64 x0) := BX4.out.cell 0
              have g1 : X4.cell? ⟨wr.heap.size, 1, none⟩ = some (.int .i64 x1) := BX4.out.cell 1
              have HO8 := Lib.hid (show X4.ownsRow w.heap.size 42 2 (.slice A5 q c5) q (L.flatMap Iv.cells) by have := AX4.out; unfold OR at this; rwa [HQ0.out] at this)
              obtain ⟨W3, hW3⟩ : ∃ W3, W3 = X4.alloc (.cells #[.int .i64 x0, .int .i64 x1] 42) := ⟨_, rfl⟩
              have HO9 := Lib.hid (show W3.ownsRow w.heap.size 42 2 (.slice A5 q c5) q (L.flatMap Iv.cells) by rw [hW3]; exact HO8.out.alloc _)
              have HB9 := Lib.hid (show Below w.heap.size w W3 by rw [hW3]; exact CX4.out.alloc CX4.out.size _)
              have HN9 : Hid (Src Try.prog 2 22 (.slice (some ⟨X4.heap.size, 0, none⟩) 1 1) 1 (Iv.cells ⟨x0, x1⟩) W3) := Lib.hid (src_blk (c := 1) Try.underlying22 rfl (iv_one _) (show Blk W3 X4.heap.size 42 (Iv.cells ⟨x0, x1⟩).toArray by rw [hW3]; exact Blk.new_ rfl rfl))
              have HS9 := Lib.hid HB9.out.size
              subst hW3
              go_wp2_with (at_builtin; go_loud (refine wpList_append_src _ rfl _ _ 22 22 rfl w.heap.size 42 i0 _ 2 16 Try.underlying22 hii hz0 hz1 hz2 rfl _ q _ rfl HO9.out _ 1 (Iv.cells ⟨x0, x1⟩) rfl HN9.out ?c1 ?c2 HS9.out ?_))
              case c1 => unfold maxLen; omega
              case c2 => omega
              intro v' w5 own' hg _
              have HBn := Lib.hid (HB9.out.grown hg HS9.out (fun j hj => (HO9.out.lt j hj).1))
              have HOn := Lib.hid (show OR 42 w5 w.heap.size v' (L ++ [⟨x0, x1⟩]) by unfold OR; rw [List.length_append, HQ0.out, List.flatMap_append]; simpa using own')
              rw [← HTK.out] at HOn
              clear own' hg HO8 HO9 HB9 HN9 HS9
              go_wp2
              go_roundw
              case rel => exact ⟨k + 1, by go_num, hj, HOn.out, HBn.out⟩
              case measure => simp only [intOf]; omega
        · obtain rfl : k = m := by omega
          have hlt2 : ¬ ((k : Int) < (k : Int)) := by omega
          have HO := Lib.hid hO
          have HBW := Lib.hid hBw
          clear hO hBw HLL
          rw [List.take_of_length_le (by rw [HM.out]; exact Nat.le_refl _), ← HTI.out] at HO
          go_wp2
          go_roundw
          case rel => exact ⟨i + 1, by go_num, hi, HO.out, HBW.out⟩
          case measure => simp only [intOf]; omega
    · obtain rfl : i = n := by omega
      have hlt2 : ¬ ((i : Int) < (i : Int)) := by omega
      rw [List.take_of_length_le (by rw [HN.out]; exact Nat.le_refl _)] at HO
      have HPI := Lib.hid (show (prX R T).length ≤ 90000 by
        have h1 := HPL.out i (Nat.le_refl _)
        have h2 := hmul.out
        rw [List.take_of_length_le (by rw [HN.out]; exact Nat.le_refl _)] at h1
        omega)
      have HCUT := Lib.hid (fun S (h : Uni (prX R T) S) => prX_cut h)
      generalize prX R T = P at *
      obtain ⟨A5, c5, rfl, hI, -, -⟩ := HO.out.ivs
      have OF := Lib.hid (ROf_any A5 P.length c5 P wq hI (by have := HPI.out; omega) HPO.out)
      clear hI HPL hmul
      go_wp2_with fail
      refine OF.out.mono ?_
      rintro e w3 ⟨v3, rfl, S, hu, hok, hl, ho, hb⟩
      have HB3 := Lib.hid (HBW.out.trans (hb.mono HBW.out.size))
      have HO3 := Lib.hid (ho.mono HBW.out.size)
      have HU := Lib.hid (And.intro (HCUT.out S hu) (And.intro hok (Nat.le_trans hl HPI.out)))
      clear hu hok hl ho hb OF
      go_wp2
      go_ret
      exact ⟨_, rfl, S, HU.out.1, HU.out.2.1, HU.out.2.2, HO3.out, HB3.out⟩
end Go.Proofs.Ytnoddkbpdfimmaa
