/- The box of one row: the reference. -/
import Derived.Test.YtcocdhndhlegiaaSro
namespace Go.Proofs.Ytcocdhndhlegiaa
open Go.ChangeShapes Go.WideShapes Go.ChangeAt Go.RowKit Go.ChangeMaps

set_option maxRecDepth 100000 in
set_option maxHeartbeats 2000000 in
theorem RRow_any (t : Int) (A : Option Addr) (n c : Nat) (R : List V3) (S : List Sd) (hS : S = R.map rowR) (w : World) (h : Vls w A n R) (hn : n ≤ 1000) :
    Calls Try.prog 22 #[.int .i64 t, .slice A n c] w fun e w' => ∃ A' c', e = .returned (.agg #[.int .i64 t, .slice A' n c']) ∧ Sds w' A' n S ∧ Below w.heap.size w w' := by
  obtain ⟨i0, hi, hz0, hz1, hz2⟩ := info_parts Try.info51
  have HL := Lib.hid h.len
  have HM := Lib.hid (show S.length = n by rw [hS, List.length_map]; exact h.len)
  have HA := Lib.hid h.at
  have HS := Lib.hid hS
  clear h hS
  go_enter Try.func22, Try.ntmps22
  go_wp2
  go_loopw [6] (fun iv wr => ∃ (k : Nat) (v : Value), iv = .int .i64 (k : Int) ∧ k ≤ n ∧ Blk wr w.heap.size 24 #[.int .i64 0, .slice none 0 0] ∧ Blk wr (w.heap.size + 1) 24 #[.int .i64 t, v] ∧ wr.ownsRow (w.heap.size + 2) 51 6 v k ((S.take k).flatMap Sd.cells) ∧ Below w.heap.size w wr) (fun iv _ => n - (intOf iv).toNat)
  case atStart => exact ⟨0, .slice none 0 0, rfl, Nat.zero_le _, (Blk.new _ _ _).alloc _, Blk.new_ (by simp) rfl, World.ownsRow_nil _ _ _ _, ((Below.refl _ w).alloc (Nat.le_refl _) _).alloc (by simp) _⟩
  case round =>
    obtain ⟨k, v, rfl, hkn, hR, hK, hO, hB⟩ := hrel
    have HR := Lib.hid hR
    have HK := Lib.hid hK
    have HO := Lib.hid hO
    have HB := Lib.hid hB
    clear hR hO hB
    by_cases hlt : k < n
    · have hki : (k : Int) < n := by omega
      obtain ⟨b, off, rfl, hbl, hc⟩ := HA.out (by omega)
      have hi' : k < R.length := by rw [HL.out]; exact hlt
      have hi2 : k < S.length := by rw [HM.out]; exact hlt
      obtain ⟨c0, c1, c2⟩ := hc wr HB.out k hi'
      have HT := Lib.hid (take_flat S k hi2)
      have HX := Lib.hid (show S[k] = rowR R[k] by simp only [HS.out, List.getElem_map])
      rw [HX.out] at HT
      clear hc hbl HX
      generalize R[k] = x at *
      obtain ⟨kk, q, s⟩ := x
      dsimp only at *
      have hrl : w.heap.size + 1 < wr.heap.size := hK.lt
      have k1 : wr.cell? ⟨w.heap.size + 1, 1, none⟩ = some v := hK.cell 1
      clear hK
      by_cases hk1 : kk = 1
      · subst hk1
        rw [show rowR ⟨1, q, s⟩ = ⟨false, true, q, q, ⟨#[]⟩, ⟨#[]⟩⟩ from rfl] at HT
        obtain ⟨W3, hW3⟩ : ∃ W3, W3 = ((wr.alloc (.cells #[.int .i64 1, .int .i64 q, .string s] 47)).alloc (.cells #[.bool false, .bool true, .int .i64 q, .int .i64 q, .string ⟨#[]⟩, .string ⟨#[]⟩] 51)).alloc (.cells #[.bool false, .bool true, .int .i64 q, .int .i64 q, .string ⟨#[]⟩, .string ⟨#[]⟩] 51) := ⟨_, rfl⟩
        have hs3 : W3.heap.size = wr.heap.size + 3 := by rw [hW3]; simp
        have HO3 := Lib.hid (show W3.ownsRow (w.heap.size + 2) 51 6 v k ((S.take k).flatMap Sd.cells) by rw [hW3]; exact ((HO.out.alloc _).alloc _).alloc _)
        have HK3 := Lib.hid (show Blk W3 (w.heap.size + 1) 24 #[.int .i64 t, v] by rw [hW3]; exact ((HK.out.alloc _).alloc _).alloc _)
        have HR3 := Lib.hid (show Blk W3 w.heap.size 24 #[.int .i64 0, .slice none 0 0] by rw [hW3]; exact ((HR.out.alloc _).alloc _).alloc _)
        have HB3 := Lib.hid (show Below w.heap.size w W3 by rw [hW3]; exact ((HB.out.alloc HB.out.size _).alloc (by have := HB.out.size; simp; omega) _).alloc (by have := HB.out.size; simp; omega) _)
        have HN3 : Hid (Src Try.prog 6 22 (.slice (some ⟨wr.heap.size + 2, 0, none⟩) 1 1) 1 (Sd.cells ⟨false, true, q, q, ⟨#[]⟩, ⟨#[]⟩⟩) W3) := Lib.hid (src_blk (c := 1) Try.underlying22 rfl (cells_one ⟨false, true, q, q, ⟨#[]⟩, ⟨#[]⟩⟩) (show Blk W3 (wr.heap.size + 2) 51 (Sd.cells ⟨false, true, q, q, ⟨#[]⟩, ⟨#[]⟩⟩).toArray by rw [hW3]; exact Blk.new_ (by simp) rfl))
        subst hW3
        have k2 : ((wr.alloc (.cells #[.int .i64 1, .int .i64 q, .string s] 47)).alloc (.cells #[.bool false, .bool true, .int .i64 q, .int .i64 q, .string ⟨#[]⟩, .string ⟨#[]⟩] 51)).cell? ⟨w.heap.size + 1, 1, none⟩ = some v := ((HK.out.alloc _).alloc _).cell 1
        go_wp2_with (at_builtin; go_loud (refine wpList_append_src _ rfl _ _ 22 22 rfl (w.heap.size + 2) 51 i0 zS 6 56 Try.underlying22 hi hz0 hz1 hz2 rfl v k _ rfl HO3.out _ 1 (Sd.cells ⟨false, true, q, q, ⟨#[]⟩, ⟨#[]⟩⟩) rfl HN3.out ?c1 ?c2 ?c3 ?_))
        case c1 => unfold maxLen; omega
        case c2 => omega
        case c3 => first | omega | (simp; omega)
        intro v' w1 own' hg _
        obtain ⟨g1, g2, g3, g4, g5⟩ := Bx.step HK3.out HO3.out (by decide) own' hg
        rw [← HT.out] at g3
        obtain ⟨A3, a3, rfl, -⟩ := At.of_own own'
        have G2 := Lib.hid g2
        have G3 := Lib.hid g3
        have G4 := Lib.hid (g4 _ _ _ (by omega) (by decide) HR3.out)
        have G5 := Lib.hid (g5 _ _ HB3.out (by omega) (by omega) (by omega))
        have g1c : w1.cell? ⟨w.heap.size + 1, 1, none⟩ = some v := g1.cell 1
        have f3 : w1.frozen? ⟨w.heap.size + 1, 1, none⟩ = false := Joins.unfrozen_of_block g1 1
        clear g1 g2 g3 g4 g5 own' hg
        go_wp2
        go_roundw
        case rel => exact ⟨k + 1, _, by go_num, hlt, G4.out, G2.out, G3.out, G5.out⟩
        case measure => simp [intOf]; omega
      by_cases hk2 : kk = 2
      · subst hk2
        rw [show rowR ⟨2, q, s⟩ = ⟨false, true, 0, 0, s, s⟩ from rfl] at HT
        obtain ⟨W3, hW3⟩ : ∃ W3, W3 = ((wr.alloc (.cells #[.int .i64 2, .int .i64 q, .string s] 47)).alloc (.cells #[.bool false, .bool true, .int .i64 0, .int .i64 0, .string s, .string s] 51)).alloc (.cells #[.bool false, .bool true, .int .i64 0, .int .i64 0, .string s, .string s] 51) := ⟨_, rfl⟩
        have hs3 : W3.heap.size = wr.heap.size + 3 := by rw [hW3]; simp
        have HO3 := Lib.hid (show W3.ownsRow (w.heap.size + 2) 51 6 v k ((S.take k).flatMap Sd.cells) by rw [hW3]; exact ((HO.out.alloc _).alloc _).alloc _)
        have HK3 := Lib.hid (show Blk W3 (w.heap.size + 1) 24 #[.int .i64 t, v] by rw [hW3]; exact ((HK.out.alloc _).alloc _).alloc _)
        have HR3 := Lib.hid (show Blk W3 w.heap.size 24 #[.int .i64 0, .slice none 0 0] by rw [hW3]; exact ((HR.out.alloc _).alloc _).alloc _)
        have HB3 := Lib.hid (show Below w.heap.size w W3 by rw [hW3]; exact ((HB.out.alloc HB.out.size _).alloc (by have := HB.out.size; simp; omega) _).alloc (by have := HB.out.size; simp; omega) _)
        have HN3 : Hid (Src Try.prog 6 22 (.slice (some ⟨wr.heap.size + 2, 0, none⟩) 1 1) 1 (Sd.cells ⟨false, true, 0, 0, s, s⟩) W3) := Lib.hid (src_blk (c := 1) Try.underlying22 rfl (cells_one ⟨false, true, 0, 0, s, s⟩) (show Blk W3 (wr.heap.size + 2) 51 (Sd.cells ⟨false, true, 0, 0, s, s⟩).toArray by rw [hW3]; exact Blk.new_ (by simp) rfl))
        subst hW3
        have k2 : ((wr.alloc (.cells #[.int .i64 2, .int .i64 q, .string s] 47)).alloc (.cells #[.bool false, .bool true, .int .i64 0, .int .i64 0, .string s, .string s] 51)).cell? ⟨w.heap.size + 1, 1, none⟩ = some v := ((HK.out.alloc _).alloc _).cell 1
        go_wp2_with (at_builtin; go_loud (refine wpList_append_src _ rfl _ _ 22 22 rfl (w.heap.size + 2) 51 i0 zS 6 56 Try.underlying22 hi hz0 hz1 hz2 rfl v k _ rfl HO3.out _ 1 (Sd.cells ⟨false, true, 0, 0, s, s⟩) rfl HN3.out ?c1 ?c2 ?c3 ?_))
        case c1 => unfold maxLen; omega
        case c2 => omega
        case c3 => first | omega | (simp; omega)
        intro v' w1 own' hg _
        obtain ⟨g1, g2, g3, g4, g5⟩ := Bx.step HK3.out HO3.out (by decide) own' hg
        rw [← HT.out] at g3
        obtain ⟨A3, a3, rfl, -⟩ := At.of_own own'
        have G2 := Lib.hid g2
        have G3 := Lib.hid g3
        have G4 := Lib.hid (g4 _ _ _ (by omega) (by decide) HR3.out)
        have G5 := Lib.hid (g5 _ _ HB3.out (by omega) (by omega) (by omega))
        have g1c : w1.cell? ⟨w.heap.size + 1, 1, none⟩ = some v := g1.cell 1
        have f3 : w1.frozen? ⟨w.heap.size + 1, 1, none⟩ = false := Joins.unfrozen_of_block g1 1
        clear g1 g2 g3 g4 g5 own' hg
        go_wp2
        go_roundw
        case rel => exact ⟨k + 1, _, by go_num, hlt, G4.out, G2.out, G3.out, G5.out⟩
        case measure => simp [intOf]; omega
      · have e2 : (kk == 2) = false := by simp [hk2]
        have e1 : (kk == 1) = false := by simp [hk1]
        rw [show rowR ⟨kk, q, s⟩ = ⟨true, false, 0, 0, ⟨#[]⟩, ⟨#[]⟩⟩ by unfold rowR; dsimp only; rw [if_neg hk1, if_neg hk2]] at HT
        obtain ⟨W3, hW3⟩ : ∃ W3, W3 = ((wr.alloc (.cells #[.int .i64 kk, .int .i64 q, .string s] 47)).alloc (.cells #[.bool true, .bool false, .int .i64 0, .int .i64 0, .string ⟨#[]⟩, .string ⟨#[]⟩] 51)).alloc (.cells #[.bool true, .bool false, .int .i64 0, .int .i64 0, .string ⟨#[]⟩, .string ⟨#[]⟩] 51) := ⟨_, rfl⟩
        have hs3 : W3.heap.size = wr.heap.size + 3 := by rw [hW3]; simp
        have HO3 := Lib.hid (show W3.ownsRow (w.heap.size + 2) 51 6 v k ((S.take k).flatMap Sd.cells) by rw [hW3]; exact ((HO.out.alloc _).alloc _).alloc _)
        have HK3 := Lib.hid (show Blk W3 (w.heap.size + 1) 24 #[.int .i64 t, v] by rw [hW3]; exact ((HK.out.alloc _).alloc _).alloc _)
        have HR3 := Lib.hid (show Blk W3 w.heap.size 24 #[.int .i64 0, .slice none 0 0] by rw [hW3]; exact ((HR.out.alloc _).alloc _).alloc _)
        have HB3 := Lib.hid (show Below w.heap.size w W3 by rw [hW3]; exact ((HB.out.alloc HB.out.size _).alloc (by have := HB.out.size; simp; omega) _).alloc (by have := HB.out.size; simp; omega) _)
        have HN3 : Hid (Src Try.prog 6 22 (.slice (some ⟨wr.heap.size + 2, 0, none⟩) 1 1) 1 (Sd.cells ⟨true, false, 0, 0, ⟨#[]⟩, ⟨#[]⟩⟩) W3) := Lib.hid (src_blk (c := 1) Try.underlying22 rfl (cells_one ⟨true, false, 0, 0, ⟨#[]⟩, ⟨#[]⟩⟩) (show Blk W3 (wr.heap.size + 2) 51 (Sd.cells ⟨true, false, 0, 0, ⟨#[]⟩, ⟨#[]⟩⟩).toArray by rw [hW3]; exact Blk.new_ (by simp) rfl))
        subst hW3
        have k2 : ((wr.alloc (.cells #[.int .i64 kk, .int .i64 q, .string s] 47)).alloc (.cells #[.bool true, .bool false, .int .i64 0, .int .i64 0, .string ⟨#[]⟩, .string ⟨#[]⟩] 51)).cell? ⟨w.heap.size + 1, 1, none⟩ = some v := ((HK.out.alloc _).alloc _).cell 1
        go_wp2_with (at_builtin; go_loud (refine wpList_append_src _ rfl _ _ 22 22 rfl (w.heap.size + 2) 51 i0 zS 6 56 Try.underlying22 hi hz0 hz1 hz2 rfl v k _ rfl HO3.out _ 1 (Sd.cells ⟨true, false, 0, 0, ⟨#[]⟩, ⟨#[]⟩⟩) rfl HN3.out ?c1 ?c2 ?c3 ?_))
        case c1 => unfold maxLen; omega
        case c2 => omega
        case c3 => first | omega | (simp; omega)
        intro v' w1 own' hg _
        obtain ⟨g1, g2, g3, g4, g5⟩ := Bx.step HK3.out HO3.out (by decide) own' hg
        rw [← HT.out] at g3
        obtain ⟨A3, a3, rfl, -⟩ := At.of_own own'
        have G2 := Lib.hid g2
        have G3 := Lib.hid g3
        have G4 := Lib.hid (g4 _ _ _ (by omega) (by decide) HR3.out)
        have G5 := Lib.hid (g5 _ _ HB3.out (by omega) (by omega) (by omega))
        have g1c : w1.cell? ⟨w.heap.size + 1, 1, none⟩ = some v := g1.cell 1
        have f3 : w1.frozen? ⟨w.heap.size + 1, 1, none⟩ = false := Joins.unfrozen_of_block g1 1
        clear g1 g2 g3 g4 g5 own' hg
        go_wp2
        go_roundw
        case rel => exact ⟨k + 1, _, by go_num, hlt, G4.out, G2.out, G3.out, G5.out⟩
        case measure => simp [intOf]; omega
    · obtain rfl : k = n := by omega
      have e0 : wr.cell? ⟨w.heap.size + 1, 0, none⟩ = some (.int .i64 t) := hK.cell 0
      obtain ⟨A3, a3, rfl, -⟩ := At.of_own HO.out
      have e1 : wr.cell? ⟨w.heap.size + 1, 1, none⟩ = some (.slice A3 k a3) := hK.cell 1
      have HF : Hid ((S.take k).flatMap Sd.cells = S.flatMap Sd.cells) := Lib.hid (by rw [List.take_of_length_le (by rw [HM.out]; exact Nat.le_refl _)])
      go_wp2_with ((refine wpList_store_row (o := ⟨none, _, _, _, _, _⟩) rfl 24 _ _ rfl w.heap.size #[.int .i64 t, .slice A3 k a3] rfl rfl 24 _ HR.out (by kernel_rfl) rfl (by simp [Value.oneCell']) ?_))
      have gr := grown_row wr w.heap.size #[.int .i64 t, .slice A3 k a3]
      refine bodyPost_ret (results_c1 rfl _ _ _ w.heap.size _ rfl (load24 (HR.out.setRow (ds := #[.int .i64 t, .slice A3 k a3])) rfl)) rfl ?_
      refine ⟨A3, a3, rfl, ?_, HB.out.grown gr HB.out.size (fun j hj => by injection hj with hj; omega)⟩
      have := HO.out.kept gr (.inr (own_blk_ne HO.out HR.out (by decide)))
      rw [HF.out] at this
      exact Sds.own this
end Go.Proofs.Ytcocdhndhlegiaa
