/- Grow, Concat, extended. -/
import Derived.Test.YthfolccofjaknaaCsm
import Derived.Lib.SliceRun
namespace Go.Proofs.Ythfolccofjaknaa
open Go.ChangeShapes Go.WideShapes Go.ChangeAt Go.RowKit Go.ChangeMaps

theorem i44 : (Try.prog.info? 44).map (fun i => (i.zero, i.size, i.bytes)) = some (some (.agg #[.slice none 0 0, .bool false, .slice none 0 0]), 3, 56) := by kernel_rfl
theorem iqs_one (R : List Iq) : ∀ u ∈ R.flatMap Iq.cells, u.oneCell' = true := fun u hu => by
  obtain ⟨q, -, hq⟩ := List.mem_flatMap.1 hu
  unfold Iq.cells at hq
  simp only [List.mem_cons, List.not_mem_nil, or_false] at hq
  rcases hq with rfl | rfl | rfl <;> rfl
/-- 'append(nil, make([]T, m)...)' for elements of three cells. -/
theorem run_append_make3 {P : Program} (w : World) (t tx ty e : TypeId) (i : TypeInfo) (z : Value) (ht : P.underlying t = some (.slice e)) (hx : P.underlying tx = some (.int .i64)) (hi : P.info? e = some i) (hz : i.zero = some z) (hs : i.size = 3) (hb : i.bytes = 56) (m : Nat) (hm0 : 0 < m) (hm : m ≤ 100000) :
    (Builtin.append_ #[t, tx] ty #[.slice none 0 0, .int .i64 (m : Int)]).run P w =
      .ok (.slice (some ⟨w.heap.size, 0, none⟩) m (grownCap w m 0 e)) (w.drew.alloc (.cells (Builtin.zeroCells z.cells m ++ Builtin.zeroCells z.cells (grownCap w m 0 e - m)) e)) := by
  have h1 : IntKind.i64.wrap (m : Int) = m := IntWalk.i64_in _ (by omega)
  have h2 : ¬ ((m : Int) < 0) := by omega
  have h3 : ¬ ((281474976710656 : Int) < (m : Int) * 56) := by omega
  have h3b : ¬ ((281474976710656 : Int) / 56 < (m : Int)) := by omega
  have h3c : ¬ ((5026338869833 : Int) < (m : Int)) := by omega
  have h4 : ¬ m ≤ 0 := by omega
  have h5 : ¬ (9223372036854775807 < (m : Int)) := by omega
  have h6 : Builtin.nextslicecap m 0 = m := by unfold Builtin.nextslicecap; rw [if_pos (by omega)]
  have h7 : ¬ (281474976710656 < m * 56) := by omega
  have h7b : ¬ (281474976710656 / 56 < m) := by omega
  have h7c : ¬ (5026338869833 < m) := by omega
  have h8 : ¬ m = 0 := by omega
  simp [Builtin.append_, run_underlying ht, run_underlying hx, sizeOf, typeInfo, zeroValue, hi, hz, hs, hb, asInt, asIntOf, h1, h2, h3, h3b, h3c, h4, h5, h6, h7, h7b, h7c, h8, Question.forced, newRow, grownCap, Builtin.firstCells]
  intro h
  omega
theorem wpList_append_run {P : Program} {w : World} {ops : Array Oper} {rest : List Oper} {o : Oper} {a : Act} {Q : Exit → Act → World → Prop} (hgd : o.guard = none) (s x : Operand) (t tx : TypeId)
    (ho : o.op = .call { callee := .builtin .append, args := #[s, x], argTypes := #[t, tx] }) (v y : Value) (hv : a.eval s = v) (hy : a.eval x = y) (v' : Value) (W : World)
    (hr : (Builtin.append_ #[t, tx] o.type #[v, y]).run P w = .ok v' W) (h : wpList P ops Q rest (a.put o.dst v') W) : wpList P ops Q (o :: rest) a w :=
  wpList_plain hgd fun K hK => by
    unfold Oper.wp execOp
    simp only [ho, resolve, invoke, builtin, Sem.run_bind, Sem.run_pure, Result.andThen_ok, List.map_toArray, List.map_cons, List.map_nil, hv, hy, hr]
    exact hK _ _ h
theorem own_make3 {w : World} {e : TypeId} {z : Value} (hz : z.cells.size = 3) (m : Nat) (hm : m ≤ maxLen) :
    (w.drew.alloc (.cells (Builtin.zeroCells z.cells m ++ Builtin.zeroCells z.cells (grownCap w m 0 e - m)) e)).ownsRow w.heap.size e 3 (.slice (some ⟨w.heap.size, 0, none⟩) 0 (grownCap w m 0 e)) 0 [] := by
  refine ⟨rfl, .inr ⟨w.heap.size, _, _, rfl, Nat.le_refl _, heap_alloc_new w.drew _, Nat.zero_le _, grownCap_le_maxLen w m 0 e hm, ?_, by simp⟩⟩
  have := grownCap_ge w m 0 e
  rw [Array.size_append, size_zeroCells, size_zeroCells, hz]
  omega
set_option maxRecDepth 100000 in
theorem GrowI_any (w : World) (m : Nat) (hm : m ≤ 100000) : Calls Try.prog 83 #[.slice none 0 0, .int .i64 (m : Int)] w fun e w' => ∃ v, e = .returned v ∧ w'.ownsRow w.heap.size 44 3 v 0 [] ∧ Below w.heap.size w w' := by
  obtain ⟨i0, hi, hz0, hz1, hz2⟩ := info_parts i44
  by_cases h0 : m = 0
  · subst h0
    go_enter Try.func83, Try.ntmps83
    go_wp2
    go_ret
    exact ⟨_, rfl, World.ownsRow_nil _ _ _ _, Below.refl _ _⟩
  · have hq : (0 : Int) < (m : Int) := by omega
    have hr := run_append_make3 (P := Try.prog) w 30 3 30 44 i0 _ Try.underlying30 Try.underlying3 hi hz0 hz1 hz2 m (by omega) hm
    have HO := Lib.hid (own_make3 (w := w) (e := 44) (z := .agg #[.slice none 0 0, .bool false, .slice none 0 0]) rfl m (by unfold maxLen; omega))
    have HB := Lib.hid (show Below w.heap.size w (w.drew.alloc (.cells (Builtin.zeroCells (Value.agg #[.slice none 0 0, .bool false, .slice none 0 0]).cells m ++ Builtin.zeroCells (Value.agg #[.slice none 0 0, .bool false, .slice none 0 0]).cells (grownCap w m 0 44 - m)) 44)) from (below_drew (Below.refl _ w)).alloc (Nat.le_refl _) _)
    clear h0
    generalize w.drew.alloc (.cells (Builtin.zeroCells (Value.agg #[.slice none 0 0, .bool false, .slice none 0 0]).cells m ++ Builtin.zeroCells (Value.agg #[.slice none 0 0, .bool false, .slice none 0 0]).cells (grownCap w m 0 44 - m)) 44) = W at *
    generalize grownCap w m 0 44 = cap at *
    have HR := Lib.hid hr
    clear hr
    go_enter Try.func83, Try.ntmps83
    go_wp2_with (at_builtin; refine wpList_append_run rfl (.tmp 20) (.tmp 21) 30 3 rfl _ _ rfl rfl _ _ HR.out ?_)
    go_ret
    exact ⟨_, rfl, HO.out, HB.out⟩
set_option maxRecDepth 100000 in
set_option maxHeartbeats 2000000 in
theorem Concat_any (g : Nat) (A B : Option Addr) (c c2 : Nat) (R T : List Iq) (w : World) (hg : Blk w g 30 #[.slice A R.length c, .slice B T.length c2]) (h1 : At w A R.length 3 (R.flatMap Iq.cells)) (h2 : At w B T.length 3 (T.flatMap Iq.cells)) (hn : R.length + T.length ≤ 100000) :
    Calls Try.prog 75 #[.slice (some ⟨g, 0, none⟩) 2 2] w fun e w' => ∃ v, e = .returned v ∧ w'.ownsRow w.heap.size 44 3 v (R.length + T.length) ((R ++ T).flatMap Iq.cells) ∧ Below w.heap.size w w' := by
  obtain ⟨i0, hi, hz0, hz1, hz2⟩ := info_parts i44
  have HG := Lib.hid hg
  have HI1 := Lib.hid h1
  have HI2 := Lib.hid h2
  obtain ⟨n, hnn⟩ : ∃ n, R.length = n := ⟨_, rfl⟩
  obtain ⟨m, hmm⟩ : ∃ m, T.length = m := ⟨_, rfl⟩
  have HN := Lib.hid hnn
  have HM := Lib.hid hmm
  rw [hnn, hmm] at HG
  rw [hnn] at HI1
  rw [hmm] at HI2
  rw [hnn, hmm] at hn
  have GR := Lib.hid (GrowI_any w (n + m) hn)
  clear hg h1 h2 hnn hmm
  have c0 : w.cell? ⟨g, 0, none⟩ = some (.slice A n c) := HG.out.cell 0
  have c1 : w.cell? ⟨g, 1, none⟩ = some (.slice B m c2) := HG.out.cell 1
  go_enter Try.func75, Try.ntmps75
  go_wp2
  go_loop [3, 5, 11] (fun s _ i => (i = .int .i64 0 ∧ s = .int .i64 0) ∨ (i = .int .i64 1 ∧ s = .int .i64 (n : Int)) ∨ (i = .int .i64 2 ∧ s = .int .i64 ((n + m : Nat) : Int))) (fun _ _ i => 3 - (intOf i).toNat)
  case atStart => exact .inl ⟨rfl, rfl⟩
  case round =>
    rcases hrel with ⟨rfl, rfl⟩ | ⟨rfl, rfl⟩ | ⟨rfl, rfl⟩
    · go_wp2
      go_round
      case rel => exact .inr (.inl ⟨rfl, by go_num⟩)
      case measure => simp [intOf]
    · go_wp2
      go_round
      case rel => exact .inr (.inr ⟨rfl, by go_num⟩)
      case measure => simp [intOf]
    · go_wp2_with fail
      refine GR.out.mono ?_
      rintro e w2 ⟨v0, rfl, ho, hb2⟩
      have HB2 := Lib.hid hb2
      have HO2 := Lib.hid ho
      clear ho hb2 GR c0 c1
      go_wp2
      go_loopw [6, 8, 27] (fun v _ i wr => ((i = .int .i64 0 ∧ wr.ownsRow w.heap.size 44 3 v 0 []) ∨ (i = .int .i64 1 ∧ wr.ownsRow w.heap.size 44 3 v n (R.flatMap Iq.cells)) ∨ (i = .int .i64 2 ∧ wr.ownsRow w.heap.size 44 3 v (n + m) (R.flatMap Iq.cells ++ T.flatMap Iq.cells))) ∧ Below w.heap.size w wr) (fun _ _ i _ => 3 - (intOf i).toNat)
      case atStart => exact ⟨.inl ⟨rfl, HO2.out⟩, HB2.out⟩
      case round =>
        clear HO2 HB2
        obtain ⟨hrel, hB⟩ := hrel
        have HB := Lib.hid hB
        have HS := Lib.hid hB.size
        have c0 : wr.cell? ⟨g, 0, none⟩ = some (.slice A n c) := (HG.out.below hB).cell 0
        have c1 : wr.cell? ⟨g, 1, none⟩ = some (.slice B m c2) := (HG.out.below hB).cell 1
        have HS1 := Lib.hid (At.src (P := Try.prog) (c := c) Try.underlying30 (At.below HI1.out hB) (iqs_one R) (by decide))
        have HS2 := Lib.hid (At.src (P := Try.prog) (c := c2) Try.underlying30 (At.below HI2.out hB) (iqs_one T) (by decide))
        clear hB
        rcases hrel with ⟨rfl, hO⟩ | ⟨rfl, hO⟩ | ⟨rfl, hO⟩
        · have HO := Lib.hid hO
          clear hO
          go_wp2_with (at_builtin; go_loud (refine wpList_append_src _ rfl _ _ 30 30 rfl w.heap.size 44 i0 _ 3 56 Try.underlying30 hi hz0 hz1 hz2 rfl _ 0 [] rfl HO.out _ n (R.flatMap Iq.cells) rfl HS1.out ?c1 ?c2 HS.out ?_))
          case c1 => unfold maxLen; omega
          case c2 => omega
          intro v' w1 own' hg _
          have HBn := Lib.hid (HB.out.grown hg HS.out (fun j hj => (HO.out.lt j hj).1))
          have HOn := Lib.hid (show w1.ownsRow w.heap.size 44 3 v' n (R.flatMap Iq.cells) by simpa using own')
          clear own' hg HO
          go_wp2
          go_roundw
          case rel => exact ⟨.inr (.inl ⟨rfl, HOn.out⟩), HBn.out⟩
          case measure => simp [intOf]
        · have HO := Lib.hid hO
          clear hO
          go_wp2_with (at_builtin; go_loud (refine wpList_append_src _ rfl _ _ 30 30 rfl w.heap.size 44 i0 _ 3 56 Try.underlying30 hi hz0 hz1 hz2 rfl _ n (R.flatMap Iq.cells) rfl HO.out _ m (T.flatMap Iq.cells) rfl HS2.out ?c1 ?c2 HS.out ?_))
          case c1 => unfold maxLen; omega
          case c2 => omega
          intro v' w1 own' hg _
          have HBn := Lib.hid (HB.out.grown hg HS.out (fun j hj => (HO.out.lt j hj).1))
          have HOn := Lib.hid own'
          clear own' hg HO
          go_wp2
          go_roundw
          case rel => exact ⟨.inr (.inr ⟨rfl, HOn.out⟩), HBn.out⟩
          case measure => simp [intOf]
        · have HO := Lib.hid hO
          clear hO
          go_wp2
          go_ret
          refine ⟨_, rfl, ?_, HB.out⟩
          rw [HN.out, HM.out, List.flatMap_append]
          exact HO.out
set_option maxRecDepth 100000 in
set_option maxHeartbeats 2000000 in
theorem extended_any (A B : Option Addr) (c c2 : Nat) (R T : List Iq) (w : World) (h1 : At w A R.length 3 (R.flatMap Iq.cells)) (h2 : At w B T.length 3 (T.flatMap Iq.cells)) (hn : R.length + T.length ≤ 100000) :
    Calls Try.prog 57 #[.slice A R.length c, .slice B T.length c2] w fun e w' => ∃ v, e = .returned v ∧ w'.ownsRow w.heap.size 44 3 v (R.length + T.length) ((R ++ T).flatMap Iq.cells) ∧ Below w.heap.size w w' := by
  obtain ⟨X, hX⟩ : ∃ W, W = w.alloc (.cells #[.slice A R.length c, .slice B T.length c2] 30) := ⟨_, rfl⟩
  have hb : Below w.heap.size w X := by rw [hX]; exact (Below.refl _ w).alloc (Nat.le_refl _) _
  have CC := Lib.hid (Concat_any w.heap.size A B c c2 R T X (by rw [hX]; exact Blk.new _ _ _) (At.below h1 hb) (At.below h2 hb) hn)
  have HB := Lib.hid hb
  clear h1 h2 hb
  generalize (R ++ T).flatMap Iq.cells = L at *
  generalize R.length = n at *
  generalize T.length = m at *
  go_enter Try.func57, Try.ntmps57
  go_wp2_with fail
  rw [← hX]
  clear hX
  refine CC.out.mono ?_
  rintro e w2 ⟨v, rfl, ho, hb⟩
  have HB2 := Lib.hid (HB.out.trans (hb.mono HB.out.size))
  have HO := Lib.hid (show w2.ownsRow w.heap.size 44 3 v (n + m) L from ⟨ho.1, ho.2.imp id fun ⟨g, cap, cur, e, hg, r⟩ => ⟨g, cap, cur, e, Nat.le_trans HB.out.size hg, r⟩⟩)
  clear ho hb CC
  go_wp2
  go_ret
  exact ⟨_, rfl, HO.out, HB2.out⟩
end Go.Proofs.Ythfolccofjaknaa
