/- Boxes made by appending sides. -/
import Derived.Test.YtgenpldldgplhaaSdl
import Derived.Lib.SmallJoins
namespace Go.Proofs.Ytgenpldldgplhaa
open Go.ChangeShapes Go.WideShapes Go.ChangeAt Go.RowKit Go.ChangeMaps

def zS : Value := .agg #[.bool false, .bool false, .int .i64 0, .int .i64 0, .string ⟨#[]⟩, .string ⟨#[]⟩]
theorem Try.info56 : (Try.prog.info? 56).map (fun i => (i.zero, i.size, i.bytes)) = some (some zS, 6, 56) := by kernel_rfl
theorem grown_set (w : World) (g i : Nat) (u : Value) : w.grownBy (w.setCell ⟨g, i, none⟩ u) (some g) := ⟨rfl, rfl, rfl, by simp [World.setCell], fun k _ hk => Below.heap_setCell w _ u k (fun e => hk (by rw [e]))⟩
theorem grown_row (w : World) (g : Nat) (cs : Array Value) : w.grownBy (w.setRow g cs) (some g) := ⟨rfl, rfl, rfl, by simp, fun k _ hk => setRow_other w g k _ (fun e => hk (by rw [e]))⟩
theorem Blk.setRow {w : World} {g : Nat} {t : TypeId} {cs ds : Array Value} (h : Blk w g t cs) : Blk (w.setRow g ds) g t ds := setRow_heap w g cs ds t _ h
theorem results_c1 {fn : Func} {p : Tmp} {ty : TypeId} (h : fn.results = #[.cell p ty]) (tmps : Array Value) (P : Program) (w : World) (g : Nat) (X : Value)
    (hp : tmps.getD p undef = .pointer (some ⟨g, 0, none⟩)) (h1 : (loadVar ty ⟨g, 0, none⟩).run P w = .ok X w) : (results fn tmps).run P w = .ok X w := by
  have hp' : tmps[p]?.getD undef = .pointer (some ⟨g, 0, none⟩) := by simpa using hp
  simp [results, h, hp', asAddr, h1, Sem.run_bind, Result.andThen]
theorem load33 {w : World} {g : Nat} {cs : Array Value} (h : Blk w g 40 cs) (hs : cs.size = 2) : (loadVar 40 ⟨g, 0, none⟩).run Try.prog w = .ok (.agg cs) w :=
  run_loadVar_row w g 40 40 cs (0, 0) _ h Try.underlying40 rfl (by rw [hs]; kernel_rfl)
theorem Bx.step {W w1 : World} {g k k' size B E L : Nat} {t : Int} {v v' : Value} {xs xs' : List Value} (hk : Blk W g E #[.int .i64 t, v]) (ho : W.ownsRow B L size v k xs) (hE : E ≠ L) (own' : w1.ownsRow B L size v' k' xs')
    (hg : W.grownBy w1 v.ownBlock) :
    Blk w1 g E #[.int .i64 t, v] ∧ Blk (w1.setCell ⟨g, 1, none⟩ v') g E #[.int .i64 t, v'] ∧ (w1.setCell ⟨g, 1, none⟩ v').ownsRow B L size v' k' xs' ∧ (∀ g' t' cs, g' ≠ g → t' ≠ L → Blk W g' t' cs → Blk (w1.setCell ⟨g, 1, none⟩ v') g' t' cs) ∧
      ∀ B0 w0, Below B0 w0 W → B0 ≤ g → B0 ≤ B → B0 ≤ W.heap.size → Below B0 w0 (w1.setCell ⟨g, 1, none⟩ v') := by
  have h1 : Blk w1 g E #[.int .i64 t, v] := hk.grown ho hE hg
  have gs := grown_set w1 g 1 v'
  refine ⟨h1, Joins.block_setCell h1 _, own'.kept gs (.inr (own_blk_ne own' h1 hE)), fun g' t' cs hn ht h => (gs.block g' (h.grown ho ht hg).lt (fun e => hn (by injection e))).trans (h.grown ho ht hg), fun B0 w0 hB h2 h3 h4 => ?_⟩
  exact (hB.grown hg h4 (fun j hj => Nat.le_trans h3 (ho.lt j hj).1)).grown gs (Nat.le_trans h4 hg.size) (fun j hj => by injection hj with hj; omega)
theorem Sds.own {w : World} {B L n c : Nat} {A : Option Addr} {R : List Sd} (h : w.ownsRow B L 6 (.slice A n c) n (R.flatMap Sd.cells)) : Sds w A n R := by
  obtain ⟨A', c', e, h1, -⟩ := At.of_own h
  injection e with e1 e2 e3
  subst e1
  exact h1
theorem cells_one (s : Sd) : ∀ u ∈ s.cells, u.oneCell' = true := by
  intro u hu
  simp only [Sd.cells, List.mem_cons, List.not_mem_nil, or_false] at hu
  rcases hu with rfl | rfl | rfl | rfl | rfl | rfl <;> rfl
theorem take_flat (R : List Sd) (k : Nat) (h : k < R.length) : (R.take (k + 1)).flatMap Sd.cells = (R.take k).flatMap Sd.cells ++ R[k].cells := by
  rw [List.take_succ_eq_append_getElem h, List.flatMap_append]; simp
set_option maxRecDepth 100000 in
set_option maxHeartbeats 2000000 in
theorem To_any (t : Int) (A : Option Addr) (n c : Nat) (R : List Sd) (w : World) (h : Sds w A n R) (hn : n ≤ 1000) :
    Calls Try.prog 15 #[.agg #[.int .i64 t, .slice A n c]] w fun e w' => ∃ A' c', e = .returned (.agg #[.int .i64 t, .slice A' n c']) ∧ Sds w' A' n R ∧ Below w.heap.size w w' := by
  obtain ⟨i0, hi, hz0, hz1, hz2⟩ := info_parts Try.info56
  have HL := Lib.hid h.len
  have HA := Lib.hid h.at
  clear h
  go_enter Try.func15, Try.ntmps15
  go_wp2
  go_loopw [12] (fun iv wr => ∃ (k : Nat) (v : Value), iv = .int .i64 (k : Int) ∧ k ≤ n ∧ Blk wr (w.heap.size + 1) 40 #[.int .i64 0, .slice none 0 0] ∧ Blk wr (w.heap.size + 2) 40 #[.int .i64 t, v] ∧ wr.ownsRow (w.heap.size + 3) 56 6 v k ((R.take k).flatMap Sd.cells) ∧ Below w.heap.size w wr) (fun iv _ => n - (intOf iv).toNat)
  case atStart => exact ⟨0, .slice none 0 0, rfl, Nat.zero_le _, (Blk.new_ (by simp) rfl : Blk ((w.alloc _).alloc (.cells #[.int .i64 0, .slice none 0 0] 40)) (w.heap.size + 1) 40 _).alloc _, Blk.new_ (by simp) rfl, World.ownsRow_nil _ _ _ _, (((Below.refl _ w).alloc (Nat.le_refl _) _).alloc (by simp) _).alloc (by simp; omega) _⟩
  case round =>
    obtain ⟨k, v, rfl, hkn, hR, hK, hO, hB⟩ := hrel
    have HR := Lib.hid hR
    have HK := Lib.hid hK
    have HO := Lib.hid hO
    have HB := Lib.hid hB
    clear hR hO hB
    by_cases hlt : k < n
    · have hki : (k : Int) < n := by omega
      obtain ⟨b, off, rfl, hbl, hc⟩ := HA.out (by omega)
      have hi' : k < R.length := by rw [HL.out]; exact hlt
      obtain ⟨c0, c1, c2, c3, c4, c5⟩ := hc wr HB.out k hi'
      have HT := Lib.hid (take_flat R k hi')
      clear hc hbl
      generalize R[k] = x at *
      have hrl : w.heap.size + 2 < wr.heap.size := hK.lt
      have k1 : wr.cell? ⟨w.heap.size + 1 + 1, 1, none⟩ = some v := hK.cell 1
      clear hK
      obtain ⟨W3, hW3⟩ : ∃ W3, W3 = (wr.alloc (.cells #[.bool x.nu, .bool x.ot, .int .i64 x.lo, .int .i64 x.hi, .string x.fr, .string x.to] 67)).alloc (.cells #[.bool x.nu, .bool x.ot, .int .i64 x.lo, .int .i64 x.hi, .string x.fr, .string x.to] 56) := ⟨_, rfl⟩
      have hs3 : W3.heap.size = wr.heap.size + 2 := by rw [hW3]; simp
      have HO3 := Lib.hid (show W3.ownsRow (w.heap.size + 3) 56 6 v k ((R.take k).flatMap Sd.cells) by rw [hW3]; exact (HO.out.alloc _).alloc _)
      have HK3 := Lib.hid (show Blk W3 (w.heap.size + 2) 40 #[.int .i64 t, v] by rw [hW3]; exact (HK.out.alloc _).alloc _)
      have HR3 := Lib.hid (show Blk W3 (w.heap.size + 1) 40 #[.int .i64 0, .slice none 0 0] by rw [hW3]; exact (HR.out.alloc _).alloc _)
      have HB3 := Lib.hid (show Below w.heap.size w W3 by rw [hW3]; exact (HB.out.alloc HB.out.size _).alloc (by have := HB.out.size; simp; omega) _)
      have HN3 : Hid (Src Try.prog 6 38 (.slice (some ⟨wr.heap.size + 1, 0, none⟩) 1 1) 1 x.cells W3) := Lib.hid (src_blk (c := 1) Try.underlying38 rfl (cells_one x) (show Blk W3 (wr.heap.size + 1) 56 x.cells.toArray by rw [hW3]; exact Blk.new_ (by simp) rfl))
      subst hW3
      go_wp2_with (at_builtin; go_loud (refine wpList_append_src _ rfl _ _ 38 38 rfl (w.heap.size + 3) 56 i0 zS 6 56 Try.underlying38 hi hz0 hz1 hz2 rfl v k _ rfl HO3.out _ 1 x.cells rfl HN3.out ?c1 ?c2 ?c3 ?_))
      case c1 => unfold maxLen; omega
      case c2 => omega
      case c3 => omega
      intro v' w1 own' hg _
      obtain ⟨g1, g2, g3, g4, g5⟩ := Bx.step HK3.out HO3.out (by decide) own' hg
      rw [← HT.out] at g3
      obtain ⟨A3, a3, rfl, -⟩ := At.of_own own'
      have G2 := Lib.hid g2
      have G3 := Lib.hid g3
      have G4 := Lib.hid (g4 _ _ _ (by omega) (by decide) HR3.out)
      have G5 := Lib.hid (g5 _ _ HB3.out (by omega) (by omega) (by omega))
      have g1c : w1.cell? ⟨w.heap.size + 1 + 1, 1, none⟩ = some v := g1.cell 1
      have f3 : w1.frozen? ⟨w.heap.size + 1 + 1, 1, none⟩ = false := Joins.unfrozen_of_block g1 1
      clear g1 g2 g3 g4 g5 own' hg
      go_wp2
      go_roundw
      case rel => exact ⟨k + 1, _, by go_num, hlt, G4.out, G2.out, G3.out, G5.out⟩
      case measure => simp [intOf]; omega
    · obtain rfl : k = n := by omega
      have e0 : wr.cell? ⟨w.heap.size + 1 + 1, 0, none⟩ = some (.int .i64 t) := hK.cell 0
      obtain ⟨A3, a3, rfl, -⟩ := At.of_own HO.out
      have e1 : wr.cell? ⟨w.heap.size + 1 + 1, 1, none⟩ = some (.slice A3 k a3) := hK.cell 1
      have HF : Hid ((R.take k).flatMap Sd.cells = R.flatMap Sd.cells) := Lib.hid (by rw [List.take_of_length_le (by rw [HL.out]; exact Nat.le_refl _)])
      go_wp2_with ((refine wpList_store_row (o := ⟨none, _, _, _, _, _⟩) rfl 40 _ _ rfl (w.heap.size + 1) #[.int .i64 t, .slice A3 k a3] rfl rfl 40 _ HR.out (by kernel_rfl) rfl (by simp [Value.oneCell']) ?_))
      have gr := grown_row wr (w.heap.size + 1) #[.int .i64 t, .slice A3 k a3]
      refine bodyPost_ret (results_c1 rfl _ _ _ (w.heap.size + 1) _ rfl (load33 (HR.out.setRow (ds := #[.int .i64 t, .slice A3 k a3])) rfl)) rfl ?_
      refine ⟨A3, a3, rfl, ?_, HB.out.grown gr HB.out.size (fun j hj => by injection hj with hj; omega)⟩
      have := HO.out.kept gr (.inr (own_blk_ne HO.out HR.out (by decide)))
      rw [HF.out] at this
      exact Sds.own this
end Go.Proofs.Ytgenpldldgplhaa
