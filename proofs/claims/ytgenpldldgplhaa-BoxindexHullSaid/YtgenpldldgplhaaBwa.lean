/- The numbers wanted. -/
import Derived.Test.YtgenpldldgplhaaBrd
import Derived.Test.YtgenpldldgplhaaBso
import Derived.Test.YtgenpldldgplhaaSme
import Derived.Test.YtgenpldldgplhaaMix
namespace Go.Proofs.Ytgenpldldgplhaa
open Go.ChangeShapes Go.WideShapes Go.ChangeAt Go.RowKit Go.ChangeMaps

def wantL (L : List It) (t : Int) (R : List Sd) : List Int := (L.filter (fun it => meetB it.t t it.R R)).map It.id
theorem want_take (L : List It) (t : Int) (R : List Sd) (k : Nat) (h : k < L.length) : wantL (L.take (k + 1)) t R = wantL (L.take k) t R ++ (if meetB L[k].t t L[k].R R = true then [L[k].id] else []) := by
  unfold wantL
  rw [List.take_succ_eq_append_getElem h, List.filter_append, List.map_append]
  by_cases e : meetB L[k].t t L[k].R R = true
  · rw [if_pos e, List.filter_cons_of_pos (p := fun it : It => meetB it.t t it.R R) e]; rfl
  · rw [if_neg e, List.filter_cons_of_neg (p := fun it : It => meetB it.t t it.R R) e]; rfl
theorem Try.info2' : (Try.prog.info? 2).map (fun i => (i.zero, i.size, i.bytes)) = some (some (.int .i64 0), 1, 8) := by kernel_rfl
set_option maxRecDepth 100000 in
set_option maxHeartbeats 2000000 in
theorem Wanted_any (A : Option Addr) (n c : Nat) (L : List It) (t : Int) (A2 : Option Addr) (n2 cap2 : Nat) (R : List Sd) (w : World) (h : Irs w A n L) (hn : n ≤ 100000) (hsd : ∀ y ∈ L, Sds w y.A y.n y.R ∧ y.n ≤ 1000) (h2 : Sds w A2 n2 R) (hn2 : n2 ≤ 1000) :
    Calls Try.prog 16 #[.slice A n c, .agg #[.int .i64 t, .slice A2 n2 cap2]] w fun e w' => ∃ A' n' c', e = .returned (.slice A' n' c') ∧ w'.ownsRow w.heap.size 2 1 (.slice A' n' c') n' (ic .i64 (wantL L t R)) ∧ Below w.heap.size w w' := by
  obtain ⟨i0, hi, hz0, hz1, hz2⟩ := info_parts Try.info2'
  obtain ⟨W0, hW0⟩ : ∃ W0, W0 = w.alloc (.cells #[.int .i64 t, .slice A2 n2 cap2] 40) := ⟨_, rfl⟩
  have hb0 : Below w.heap.size w W0 := by rw [hW0]; exact (Below.refl _ w).alloc (Nat.le_refl _) _
  have hkb : Blk W0 w.heap.size 40 #[.int .i64 t, .slice A2 n2 cap2] := by rw [hW0]; exact Blk.new_ rfl rfl
  have HB0 := Lib.hid hb0
  have HKB := Lib.hid hkb
  have HL := Lib.hid h.len
  have HA := Lib.hid h.at
  have HSD := Lib.hid hsd
  have HS2 := Lib.hid h2
  clear h hsd h2 hb0 hkb
  go_enter Try.func16, Try.ntmps16
  go_wp2
  rw [← hW0]
  clear hW0
  go_loopw [5, 10] (fun s5 s10 wr => ∃ (k m : Nat), s10 = .int .i64 (k : Int) ∧ k ≤ n ∧ m ≤ k ∧ wr.ownsRow (w.heap.size + 1) 2 1 s5 m (ic .i64 (wantL (L.take k) t R)) ∧ Blk wr w.heap.size 40 #[.int .i64 t, .slice A2 n2 cap2] ∧ Below w.heap.size w wr) (fun _ s10 _ => n - (intOf s10).toNat)
  case atStart => exact ⟨0, 0, rfl, Nat.zero_le _, Nat.le_refl _, World.ownsRow_nil _ _ _ _, HKB.out, HB0.out⟩
  case round =>
    obtain ⟨k, m, rfl, hkn, hmk, hO, hK, hB⟩ := hrel
    obtain ⟨A3, a3, rfl, -⟩ := At.of_own hO
    have HO := Lib.hid hO
    have HK := Lib.hid hK
    have HB := Lib.hid hB
    have hwl : w.heap.size < wr.heap.size := hK.lt
    clear hO hK hB
    by_cases hlt : k < n
    · have hki : (k : Int) < n := by omega
      have hk0 : (0 : Int) ≤ (k : Int) := by omega
      obtain ⟨b, off, rfl, hbl, hc⟩ := HA.out (by omega)
      have hi' : k < L.length := by rw [HL.out]; exact hlt
      obtain ⟨c0, c1, c2⟩ := hc wr HB.out k hi'
      have HT := Lib.hid (want_take L t R k hi')
      have HSY := Lib.hid (HSD.out L[k] (List.getElem_mem hi'))
      clear hc hbl
      generalize L[k] = y at *
      obtain ⟨W2, hW2⟩ : ∃ W2, W2 = wr.alloc (.cells #[.int .i64 y.id, .int .i64 y.t, .slice y.A y.n y.c] 47) := ⟨_, rfl⟩
      have hb2 : Below wr.heap.size wr W2 := by rw [hW2]; exact (Below.refl _ wr).alloc (Nat.le_refl _) _
      have HB2 := Lib.hid (HB.out.trans (hb2.mono HB.out.size))
      have HO2 := Lib.hid (own_below HO.out hb2)
      have HK2 := Lib.hid (Blk.below hb2 HK.out)
      have hkc : Blk W2 wr.heap.size 47 #[.int .i64 y.id, .int .i64 y.t, .slice y.A y.n y.c] := by rw [hW2]; exact Blk.new_ rfl rfl
      have d0 : W2.cell? ⟨wr.heap.size, 0, none⟩ = some (.int .i64 y.id) := hkc.cell 0
      have d1 : W2.cell? ⟨wr.heap.size, 1, none⟩ = some (.int .i64 y.t) := hkc.cell 1
      have d2 : W2.cell? ⟨wr.heap.size, 2, none⟩ = some (.slice y.A y.n y.c) := hkc.cell 2
      have k0 : W2.cell? ⟨w.heap.size, 0, none⟩ = some (.int .i64 t) := HK2.out.cell 0
      have k1 : W2.cell? ⟨w.heap.size, 1, none⟩ = some (.slice A2 n2 cap2) := HK2.out.cell 1
      have hw2 : wr.heap.size < W2.heap.size := hkc.lt
      have hw3 : w.heap.size < W2.heap.size := by omega
      clear hb2 hkc
      go_upto_region 5 with fail
      rw [← hW2]
      clear hW2
      refine wp_region_mix 4 (fun w' => w'.cell? ⟨wr.heap.size, 1, none⟩ = some (.int .i64 y.t) ∧ w'.cell? ⟨wr.heap.size, 2, none⟩ = some (.slice y.A y.n y.c) ∧ w'.cell? ⟨w.heap.size, 0, none⟩ = some (.int .i64 t) ∧ w'.cell? ⟨w.heap.size, 1, none⟩ = some (.slice A2 n2 cap2)) (by kernel_rfl) (by decide) ?_
      refine wpM_take (i := 0) (oi := ⟨some 14, _, _, _, _, _⟩) (v := ?_) rfl (by decide +kernel) (by decide +kernel) (by decide +kernel) (fun _ _ _ h => h) (Or.inl ⟨by rfl, ?_⟩) ⟨d1, d2, k0, k1⟩ ?_
      case refine_2 => (intro w hSw; obtain ⟨s0, s1, s2, s3⟩ := hSw; go_simp; try (with_reducible rfl))
      try simp only [Act.put, List.setIfInBounds_toArray, List.set_cons_zero, List.set_cons_succ]
      refine wpM_take (i := 1) (oi := ⟨some 15, _, _, _, _, _⟩) (v := ?_) rfl (by decide +kernel) (by decide +kernel) (by decide +kernel) (fun _ _ _ h => h) (Or.inl ⟨by rfl, ?_⟩) ⟨d1, d2, k0, k1⟩ ?_
      case refine_2 => (intro w hSw; obtain ⟨s0, s1, s2, s3⟩ := hSw; go_simp; try (with_reducible rfl))
      try simp only [Act.put, List.setIfInBounds_toArray, List.set_cons_zero, List.set_cons_succ]
      refine wpM_take (i := 3) (oi := ⟨some 17, _, _, _, _, _⟩) (v := ?_) rfl (by decide +kernel) (by decide +kernel) (by decide +kernel) (fun _ _ _ h => h) (Or.inl ⟨by rfl, ?_⟩) ⟨d1, d2, k0, k1⟩ ?_
      case refine_2 => (intro w hSw; obtain ⟨s0, s1, s2, s3⟩ := hSw; go_simp; try (with_reducible rfl))
      try simp only [Act.put, List.setIfInBounds_toArray, List.set_cons_zero, List.set_cons_succ]
      refine wpM_step (i := 2) (o := ⟨some 16, _, _, _, _, _⟩) rfl (by decide +kernel) (by decide) (fun K hK => ?_)
      go_simp
      go_at_call 15
      refine (To_any y.t y.A y.n y.c y.R W2.drew (HSY.out.1.below (HB2.out.drew)) HSY.out.2).mono ?_
      rintro e3 W3 ⟨A9, c9, rfl, hs9, hb3⟩
      have hb3' : Below W2.heap.size W2 W3 := ⟨hb3.os, hb3.tape, hb3.output, hb3.size, hb3.block⟩
      have HB3 := Lib.hid (HB2.out.trans (hb3'.mono HB2.out.size))
      have HS9 := Lib.hid hs9
      have e0 := (hb3'.cell (p := ⟨wr.heap.size, 0, none⟩) hw2).trans d0
      have e1 := (hb3'.cell (p := ⟨wr.heap.size, 1, none⟩) hw2).trans d1
      have e2 := (hb3'.cell (p := ⟨wr.heap.size, 2, none⟩) hw2).trans d2
      have f0 := (hb3'.cell (p := ⟨w.heap.size, 0, none⟩) hw3).trans k0
      have f1 := (hb3'.cell (p := ⟨w.heap.size, 1, none⟩) hw3).trans k1
      have HO3 := Lib.hid (own_below HO2.out hb3')
      have HK3 := Lib.hid (Blk.below hb3' HK2.out)
      refine hK.out _ _ ⟨e1, e2, f0, f1⟩ ?_
      clear hK K
      try simp only [Act.put, List.setIfInBounds_toArray, List.set_cons_zero, List.set_cons_succ]
      refine wpM_done (by decide +kernel) ?_
      simp only [List.drop_succ_cons, List.drop_zero]
      have HME := Lib.hid (Meet_any y.t t A9 y.n c9 y.R A2 n2 cap2 R W3 HS9.out (HS2.out.below HB3.out) HSY.out.2 hn2)
      clear d0 d1 d2 k0 k1 hs9 hb3 hb3'
      generalize meetB y.t t y.R R = mb at *
      go_wp2_with fail
      refine HME.out.mono ?_
      rintro e4 w4 ⟨rfl, hb4⟩
      have HB4 := Lib.hid (HB3.out.trans (hb4.mono HB3.out.size))
      have HO4 := Lib.hid (own_below HO3.out hb4)
      have HK4 := Lib.hid (Blk.below hb4 HK3.out)
      have g0 : w4.cell? ⟨wr.heap.size, 0, none⟩ = some (.int .i64 y.id) := keepcell hb4 e0
      clear hb4 HME e0 e1 e2 f0 f1 HB3 HO3 HK3 HS9
      cases mb
      · have HN := Lib.hid (show wantL (L.take (k + 1)) t R = wantL (L.take k) t R by rw [HT.out, if_neg (by decide), List.append_nil])
        go_wp2
        go_roundw
        case rel => exact ⟨k + 1, m, by go_num, hlt, by omega, by rw [HN.out]; exact HO4.out, HK4.out, HB4.out⟩
        case measure => simp [intOf]; omega
      · have HN := Lib.hid (show wantL (L.take (k + 1)) t R = wantL (L.take k) t R ++ [y.id] by rw [HT.out, if_pos rfl])
        have HN3 : Hid (Src Try.prog 1 36 (.slice (some ⟨w4.heap.size, 0, none⟩) 1 1) 1 [.int .i64 y.id] (w4.alloc (.cells #[.int .i64 y.id] 2))) := Lib.hid (src_blk (c := 1) Try.underlying36 rfl (by intro u hu; rw [List.mem_singleton.1 hu]; rfl) (show Blk _ w4.heap.size 2 [Value.int .i64 y.id].toArray from Blk.new_ rfl rfl))
        have HO5 := Lib.hid (HO4.out.alloc (.cells #[.int .i64 y.id] 2))
        have HB5 := Lib.hid (HB4.out.alloc HB4.out.size (.cells #[.int .i64 y.id] 2))
        have HK5 := Lib.hid (HK4.out.alloc (.cells #[.int .i64 y.id] 2))
        have hs4 : w.heap.size < w4.heap.size := HK4.out.lt
        go_wp2_with (at_builtin; go_loud (refine wpList_append_src _ rfl _ _ 36 36 rfl (w.heap.size + 1) 2 i0 (.int .i64 0) 1 8 Try.underlying36 hi hz0 hz1 hz2 rfl (.slice A3 m a3) m _ rfl HO5.out _ 1 [.int .i64 y.id] rfl HN3.out ?c1 ?c2 ?c3 ?_))
        case c1 => unfold maxLen; omega
        case c2 => omega
        case c3 => first | omega | (simp; omega)
        intro v' w5 own' hg5 _
        have hne : ∀ j, (Value.slice A3 m a3).ownBlock = some j → w.heap.size + 1 ≤ j := fun j hj => (HO5.out.lt j hj).1
        have HO6 := Lib.hid (show w5.ownsRow (w.heap.size + 1) 2 1 v' (m + 1) (ic .i64 (wantL (L.take (k + 1)) t R)) by rw [HN.out]; simpa [ic] using own')
        have HB6 := Lib.hid (HB5.out.grown hg5 (by simp; omega) (fun j hj => by have := hne j hj; omega))
        have HK6 := Lib.hid (show Blk w5 w.heap.size 40 #[.int .i64 t, .slice A2 n2 cap2] from (hg5.block _ HK5.out.lt (fun e => by have := hne _ e.symm; omega)).trans HK5.out)
        clear own' hg5 hne
        go_wp2
        go_roundw
        case rel => exact ⟨k + 1, m + 1, by go_num, hlt, by omega, HO6.out, HK6.out, HB6.out⟩
        case measure => simp [intOf]; omega
    · obtain rfl : k = n := by omega
      have hlt2 : ¬ ((k : Int) < (k : Int)) := by omega
      have HF := Lib.hid (show L.take k = L from List.take_of_length_le (by rw [HL.out]; exact Nat.le_refl _))
      go_wp2
      go_ret
      rw [HF.out] at HO
      exact ⟨_, _, _, rfl, own_mono HO.out (by omega), HB.out⟩
end Go.Proofs.Ytgenpldldgplhaa
