/- The records on a disk of the reference. -/
import Derived.Test.YtgpofkabidginaaWrs
namespace Go.Proofs.Ytgpofkabidginaa
open Go.ChangeShapes Go.WideShapes Go.ChangeAt Go.RowKit Go.ChangeMaps

theorem fresh_bytes {F : Nat → Prop} {W0 w : World} {B : Nat} {v0 v : Value} {l : List UInt8} {n : Nat} (G : Grows 5 B W0 v0 ([] ++ l) v w) (hl : l.length = n) (hF : ∀ k, F k → k < B) : ∃ A c, v = .slice A n c ∧ BA F w A n l ∧ n ≤ c ∧ c ≤ 9223372036854775807 := by
  rw [List.nil_append] at G
  subst hl
  exact own_bytes3 G.1 hF
set_option maxRecDepth 100000 in
set_option maxHeartbeats 2000000 in
theorem RScan_any (F : Nat → Prop) (w : World) (hFB : ∀ k, F k → k < w.heap.size) (r t0 : Nat) (s : St) (h : Rk F w r t0 s) (f c e : Nat) (hfc : f + c ≤ s.R.length) (he : e < 4294967296) (htl : (streamM e ((s.R.drop f).take c)).length ≤ 100000000) :
    Calls Try.prog 26 #[.pointer (some ⟨r, 0, none⟩), .int .i64 (f : Int), .int .i64 (c : Int), .int .u32 (e : Int)] w fun e' w' => ∃ v L, e' = .returned v ∧ OR F w.heap.size w' v L ∧ L.map Rw.l = splitA (streamM e ((s.R.drop f).take c)) ∧ Below w.heap.size w w' := by
  obtain ⟨i0, ii, hz0, hz1, hz2⟩ := info_parts Try.info5
  obtain ⟨i1, hi, hy0, hy1, hy2⟩ := info_parts Try.info38
  have HS := Lib.hid (stream_any F w hFB r t0 s h f c e hfc he)
  have HFB := Lib.hid hFB
  obtain ⟨d, hd⟩ : ∃ x, streamM e ((s.R.drop f).take c) = x := ⟨_, rfl⟩
  rw [hd] at HS htl ⊢
  obtain ⟨n, hn0⟩ : ∃ x, d.length = x := ⟨_, rfl⟩
  have HSA : Hid (splitA d = splitM n d) := Lib.hid (by unfold splitA; rw [hn0])
  have hn : n ≤ 100000000 := by omega
  rw [hn0] at HS
  have HN0 := Lib.hid hn0
  clear h hFB hd hfc htl hn0
  go_enter Try.func26, Try.ntmps26
  go_wp2_with fail
  refine HS.out.mono ?_
  rintro e' w2 ⟨v, rfl, ho, hb⟩
  have ho2 := ho
  rw [← HN0.out] at ho2
  obtain ⟨A, c0, rfl, hxb, hxc, hxc2⟩ := own_bytes3 (F := fun _ => False) ho2 (fun _ e => e.elim)
  rw [HN0.out] at hxb hxc ⊢
  have hxb2 : BA (fun k => w2.heap.size ≤ k) w2 A n d := BA.of_at hxb.at (fun k hk => hk)
  have HXB := Lib.hid hxb2
  have HBW := Lib.hid hb
  have HB20 := Lib.hid hb.size
  have HFB2 := Lib.hid (show ∀ k, F k → k < w2.heap.size from fun k hk => Nat.lt_of_lt_of_le (HFB.out k hk) hb.size)
  clear ho ho2 hxb hxb2 hb HS
  go_wp2_with fail
  go_loopw [9, 10] (fun sv lv wr => ∃ (m c' : Nat) (D : Option Addr) (t : List UInt8) (L : List Rw), sv = .slice D m c' ∧ BA (fun k => w2.heap.size ≤ k) wr D m t ∧ m ≤ n ∧ m ≤ c' ∧ c' ≤ 9223372036854775807 ∧ OR F w2.heap.size wr lv L ∧ L.length + m ≤ n ∧ L.map Rw.l ++ splitM m t = splitM n d ∧ Below w2.heap.size w2 wr) (fun sv _ _ => match sv with | .slice _ n _ => n | _ => 0)
  case atStart => exact ⟨n, c0, A, d, [], rfl, HXB.out, Nat.le_refl _, hxc, hxc2, OR.nil _ _ _, by simp, rfl, Below.refl _ _⟩
  case round =>
    clear HXB
    obtain ⟨m, c', D, t, L, rfl, ht, hmn, hmc, hcc, hL, hlm, hsp, hB⟩ := hrel
    have HT := Lib.hid ht
    have HL := Lib.hid hL
    have HSP := Lib.hid hsp
    have HB := Lib.hid hB
    have htl := ht.1
    clear ht hL hsp hB
    by_cases h4 : m < 4
    · have h4i : (m : Int) < 4 := by omega
      have HE : Hid (L.map Rw.l = splitM n d) := Lib.hid (by
        rw [← HSP.out]
        cases m with
        | zero => simp [splitM]
        | succ k => unfold splitM; rw [if_pos (by omega), List.append_nil])
      clear htl
      go_wp2
      go_ret
      exact ⟨_, L, rfl, HL.out.weakB HB20.out, by rw [HSA.out]; exact HE.out, HBW.out.trans (HB.out.mono HB20.out)⟩
    · have h4i : (4 : Int) ≤ (m : Int) := by omega
      obtain ⟨db, doff, rfl⟩ := HT.out.at.some (by omega)
      obtain ⟨x, hx⟩ : ∃ x, rd4 t = x := ⟨_, rfl⟩
      have hxl : x < 4294967296 := by rw [← hx]; exact rd4_lt t
      have HRD := Lib.hid (read_any wr db doff m c' t HT.out.at (by omega) (by omega) (x : Int) (by rw [hx]))
      have HX := Lib.hid hx
      clear htl hx
      by_cases hc4 : c' = 4
      · subst hc4
        obtain rfl : m = 4 := by omega
        by_cases hxo : x = 0
        · subst hxo
          have HE : Hid (L.map Rw.l ++ [(t.drop 4).take 0] ++ splitM 0 (t.drop (4 + 0)) = splitM n d) := Lib.hid (by
            rw [← HSP.out]
            conv => rhs; unfold splitM
            rw [if_neg (by rw [HT.out.1]; omega), HX.out, if_neg (by rw [HT.out.1]; omega), List.append_assoc, List.singleton_append, split_more 0 3 _ (by rw [List.length_drop, HT.out.1]; omega) (by rw [List.length_drop, HT.out.1]; omega)])
          go_wp2_with fail
          refine HRD.out.mono ?_
          rintro e w3 ⟨rfl, kq, rfl⟩
          have hbw : Below wr.heap.size wr (((wr.drewN kq).alloc (.cells #[] 5)).alloc (.cells #[.slice (some ⟨wr.heap.size, 0, none⟩) 0 0] 38)) := ((below_drewN (Below.refl _ _)).alloc (Nat.le_refl _) _).alloc (by simp) _
          have HT5 := Lib.hid (HT.out.below hbw)
          have HL5 := Lib.hid (HL.out.below hbw)
          have HB5 := Lib.hid (HB.out.trans (hbw.mono HB.out.size))
          have HR5 := Lib.hid (show Rw.ok (FO F u10) (((wr.drewN kq).alloc (.cells #[] 5)).alloc (.cells #[.slice (some ⟨wr.heap.size, 0, none⟩) 0 0] 38)) ⟨some ⟨wr.heap.size, 0, none⟩, 0, 0, (t.drop 4).take 0⟩ from ⟨BA.nil_ _ _ _ rfl (by simp), Nat.le_refl _, Nat.zero_le _⟩)
          have HSR := Lib.hid (src_one (g := wr.heap.size + 1) (x := ⟨some ⟨wr.heap.size, 0, none⟩, 0, 0, (t.drop 4).take 0⟩) (show Blk (((wr.drewN kq).alloc (.cells #[] 5)).alloc (.cells #[.slice (some ⟨wr.heap.size, 0, none⟩) 0 0] 38)) (wr.heap.size + 1) 38 #[.slice (some ⟨wr.heap.size, 0, none⟩) 0 0] from Blk.new_ (by simp) rfl))
          clear hbw
          go_wp2_with (at_builtin; refine wpList_append_src _ rfl (.tmp 33) (.tmp 40) 22 22 rfl w2.heap.size 38 i1 (.slice none 0 0) 1 24 Try.underlying22 hi hy0 hy1 hy2 rfl u10 L.length (L.map Rw.v) rfl HL5.out.1 _ 1 _ rfl HSR.out (by unfold maxLen; omega) (by omega) (by exact HB5.out.size) ?_; intro v6 w6 own6 hg6 hm6; have HL6 := Lib.hid (HL5.out.push HR5.out own6 hg6 hm6); have HB6 := Lib.hid (HB5.out.grown hg6 HB5.out.size (fun j hj => (HL5.out.1.lt j hj).1)); clear own6 hg6 hm6)
          all_goals
            go_roundw
            case rel => exact ⟨0, 0, _, t.drop (4 + 0), L ++ [⟨some ⟨wr.heap.size, 0, none⟩, 0, 0, (t.drop 4).take 0⟩], by first | rfl | simp, BA.nil_ _ _ _ rfl (by rw [List.length_drop, HT.out.1]), by omega, by omega, by omega, HL6.out, by simp; omega, by rw [List.map_append]; exact HE.out, HB6.out⟩
            case measure => simp <;> omega
        · have hxp : 0 < x := by omega
          have HE : Hid (L.map Rw.l = splitM n d) := Lib.hid (by
            rw [← HSP.out]
            unfold splitM
            rw [if_neg (by rw [HT.out.1]; omega), HX.out, if_pos (by rw [HT.out.1]; omega), List.append_nil])
          by_cases hx1 : 16777216 < x
          · have hx1i : (16777216 : Int) < (x : Int) := by omega
            clear hxo
            go_wp2_with fail
            refine HRD.out.mono ?_
            rintro e w3 ⟨rfl, kq, rfl⟩
            go_wp2
            go_ret
            exact ⟨_, L, rfl, (HL.out.below (below_dn ⟨_, rfl⟩)).weakB HB20.out, by rw [HSA.out]; exact HE.out, HBW.out.trans ((below_drewN HB.out).mono HB20.out)⟩
          · have hx1i : (x : Int) ≤ 16777216 := by omega
            have hx2i : (4 : Int) - 4 < (x : Int) := by omega
            clear hxo
            go_wp2_with fail
            refine HRD.out.mono ?_
            rintro e w3 ⟨rfl, kq, rfl⟩
            go_wp2
            go_ret
            exact ⟨_, L, rfl, (HL.out.below (below_dn ⟨_, rfl⟩)).weakB HB20.out, by rw [HSA.out]; exact HE.out, HBW.out.trans ((below_drewN HB.out).mono HB20.out)⟩
      · have hc4i : (4 : Int) < (c' : Int) := by omega
        by_cases hxo : x ≤ 16777216 ∧ x ≤ m - 4
        · obtain ⟨hx1, hx2⟩ := hxo
          have hx1i : (x : Int) ≤ 16777216 := by omega
          have hx2i : (x : Int) ≤ (m : Int) - 4 := by omega
          have hx3 : (4 : Int) + (x : Int) ≤ (c' : Int) := by omega
          have hx4i : (4 : Int) + (x : Int) ≤ (m : Int) := by omega
          have HE : Hid (L.map Rw.l ++ [(t.drop 4).take x] ++ splitM (m - (4 + x)) (t.drop (4 + x)) = splitM n d) := Lib.hid (by
            rw [← HSP.out]
            obtain ⟨k, hk⟩ : ∃ k, m = k + 1 := ⟨m - 1, by omega⟩
            rw [hk]
            conv => rhs; unfold splitM
            rw [if_neg (by rw [HT.out.1]; omega), HX.out, if_neg (by rw [HT.out.1]; omega), List.append_assoc, List.singleton_append, split_more (k + 1 - (4 + x)) k _ (by rw [List.length_drop, HT.out.1]; omega) (by rw [List.length_drop, HT.out.1]; omega)])
          go_wp2_with fail
          refine HRD.out.mono ?_
          rintro e w3 ⟨rfl, kq, rfl⟩
          have hbw : Below wr.heap.size wr ((wr.drewN kq).alloc (.cells #[] 5)) := (below_drewN (Below.refl _ _)).alloc (Nat.le_refl _) _
          have HT3 := Lib.hid (HT.out.below hbw)
          have HL3 := Lib.hid (HL.out.below hbw)
          have HB3 := Lib.hid (HB.out.trans (hbw.mono HB.out.size))
          have HSRC := Lib.hid (show Src Try.prog 1 38 (.slice (some ⟨db, doff + 4, none⟩) (4 + x - 4) (c' - 4)) x (bc ((t.drop 4).take x)) ((wr.drewN kq).alloc (.cells #[] 5)) from by rw [show 4 + x - 4 = x by omega]; exact src_at (n := x) (c := c' - 4) ((HT3.out.at.drop (by omega)).take hx2))
          have HFW : Hid (∀ k, FO F u10 k → k < (wr.drewN kq).heap.size) := Lib.hid (fun k hk => by
            rcases hk with h | h
            · exact Nat.lt_of_lt_of_le (HFB2.out k h) HB.out.size
            · exact (HL.out.1.lt k h).2)
          have HTX : Hid (((t.drop 4).take x).length = x) := Lib.hid (by rw [List.length_take, List.length_drop, HT.out.1]; omega)
          clear hbw
          go_wp2_with (first | (at_builtin; go_loud (refine wpList_app rfl (.tmp 34) (.tmp 38) 38 38 rfl (wr.drewN kq).heap.size _ _ 5 i0 Try.underlying38 ii hz0 hz1 hz2 _ [] rfl (Grows.refl (E := 5) (l := []) (own_empty (wr.drewN kq)) (by simp)) _ x ((t.drop 4).take x) rfl HSRC.out (by simp; omega) ?_); intro v4 w4 G4 z4 k4; obtain ⟨A4, c4, rfl, hb4, hc4, hc4'⟩ := fresh_bytes G4 HTX.out HFW.out; have hbl4 : Below wr.heap.size wr w4 := ((below_drewN (Below.refl _ _)).alloc (Nat.le_refl _) _).trans (G4.below_of (own_empty (wr.drewN kq)) (by simp)); have HR4 := Lib.hid (show Rw.ok (FO F u10) w4 ⟨A4, x, c4, (t.drop 4).take x⟩ from ⟨hb4, hc4, hc4'⟩); have HL4 := Lib.hid (HL.out.below hbl4); have HB4 := Lib.hid (HB.out.trans (hbl4.mono HB.out.size)); have HT4 := Lib.hid (HT.out.below hbl4); clear hb4 hc4 hc4' hbl4 G4 z4 k4; have hb5 : Below w4.heap.size w4 (w4.alloc (.cells #[.slice A4 x c4] 38)) := (Below.refl _ _).alloc (Nat.le_refl _) _; have HSR := Lib.hid (src_one (x := ⟨A4, x, c4, (t.drop 4).take x⟩) (show Blk (w4.alloc (.cells #[.slice A4 x c4] 38)) w4.heap.size 38 #[.slice A4 x c4] from Blk.new _ _ _)); have HL5 := Lib.hid (HL4.out.below hb5); have HR5 := Lib.hid (HR4.out.chg (G := fun _ => False) (Chg.of_below hb5) (fun _ e => e.elim)); have HB5 := Lib.hid (HB4.out.trans (hb5.mono HB4.out.size)); have HT5 := Lib.hid (HT4.out.below hb5); clear hb5 HL4 HR4 HB4 HT4) | (at_builtin; refine wpList_append_src _ rfl (.tmp 33) (.tmp 40) 22 22 rfl w2.heap.size 38 i1 (.slice none 0 0) 1 24 Try.underlying22 hi hy0 hy1 hy2 rfl u10 L.length (L.map Rw.v) rfl HL5.out.1 _ 1 _ rfl HSR.out (by unfold maxLen; omega) (by omega) (by exact HB5.out.size) ?_; intro v6 w6 own6 hg6 hm6; have HL6 := Lib.hid (HL5.out.push HR5.out own6 hg6 hm6); have HB6 := Lib.hid (HB5.out.grown hg6 HB5.out.size (fun j hj => (HL5.out.1.lt j hj).1)); have HT6 := Lib.hid (HT5.out.chg (Chg.of_own HL5.out.1 hg6)); clear own6 hg6 hm6))
          all_goals
            go_roundw
            case rel => exact ⟨m - (4 + x), c' - (4 + x), (if c' = 4 + x then some ⟨db, doff, none⟩ else some ⟨db, doff + (4 + x), none⟩), t.drop (4 + x), L ++ [⟨A4, x, c4, (t.drop 4).take x⟩], by first | rfl | simp [*], HT6.out.rest (by omega) (by omega), by omega, by omega, by omega, HL6.out, by simp; omega, by rw [List.map_append]; exact HE.out, HB6.out⟩
            case measure => simp <;> omega
        · skip
          have HE : Hid (L.map Rw.l = splitM n d) := Lib.hid (by
            rw [← HSP.out]
            obtain ⟨k, hk⟩ : ∃ k, m = k + 1 := ⟨m - 1, by omega⟩
            rw [hk]
            unfold splitM
            rw [if_neg (by rw [HT.out.1]; omega), HX.out, if_pos (by rw [HT.out.1]; omega), List.append_nil])
          by_cases hx1 : 16777216 < x
          · have hx1i : (16777216 : Int) < (x : Int) := by omega
            clear hxo
            go_wp2_with fail
            refine HRD.out.mono ?_
            rintro e w3 ⟨rfl, kq, rfl⟩
            go_wp2
            go_ret
            exact ⟨_, L, rfl, (HL.out.below (below_dn ⟨_, rfl⟩)).weakB HB20.out, by rw [HSA.out]; exact HE.out, HBW.out.trans ((below_drewN HB.out).mono HB20.out)⟩
          · have hx1i : (x : Int) ≤ 16777216 := by omega
            have hx2i : (m : Int) - 4 < (x : Int) := by omega
            clear hxo
            go_wp2_with fail
            refine HRD.out.mono ?_
            rintro e w3 ⟨rfl, kq, rfl⟩
            go_wp2
            go_ret
            exact ⟨_, L, rfl, (HL.out.below (below_dn ⟨_, rfl⟩)).weakB HB20.out, by rw [HSA.out]; exact HE.out, HBW.out.trans ((below_drewN HB.out).mono HB20.out)⟩
end Go.Proofs.Ytgpofkabidginaa
