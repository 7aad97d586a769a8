/- The operations carried out: what holds of all boxes of the operations holds of the boxes of the index. -/
import Derived.Test.YtgenpldldgplhaaBpy
namespace Go.Proofs.Ytgenpldldgplhaa
open Go.ChangeShapes Go.WideShapes Go.ChangeAt Go.RowKit Go.ChangeMaps

structure PQ (Q : Int → Nat → List Sd → Prop) (w wr : World) (x k : Nat) (A : Option Addr) (m : Nat) (M : Nat) (L1 L2 : List It) : Prop where
  ix : IX wr w.heap.size x M L1
  row : Irs wr A m L2
  ks : KS L1 L2
  sd : ∀ y ∈ L2, Sds wr y.A y.n y.R ∧ y.n ≤ 1000 ∧ Q y.t y.n y.R
  M : M ≤ k
  len : L1.length ≤ k
  bel : Below w.heap.size w wr
theorem PQ.below {Q : Int → Nat → List Sd → Prop} {w wr W : World} {x k : Nat} {A : Option Addr} {m M : Nat} {L1 L2 : List It} (h : PQ Q w wr x k A m M L1 L2) (hb : Below wr.heap.size wr W) : PQ Q w W x k A m M L1 L2 :=
  ⟨h.ix.below hb, h.row.below hb, h.ks, fun y hy => ⟨(h.sd y hy).1.below hb, (h.sd y hy).2⟩, h.M, h.len, h.bel.trans (hb.mono h.bel.size)⟩
theorem PQ.n {Q : Int → Nat → List Sd → Prop} {w wr : World} {x k : Nat} {A : Option Addr} {m M : Nat} {L1 L2 : List It} (h : PQ Q w wr x k A m M L1 L2) : m ≤ k := by
  have := h.row.len
  have := h.ks.len
  have := h.len
  omega
def OkQ (Q : Int → Nat → List Sd → Prop) (w : World) (L : List Ot) : Prop := ∀ o ∈ L, Sds w o.A o.n o.R ∧ o.n ≤ 1000 ∧ w64 o.id ∧ w64 o.t ∧ 0 ≤ o.kd ∧ o.kd < 256 ∧ Q o.t o.n o.R
def PlQ (Q : Int → Nat → List Sd → Prop) (n : Nat) (w : World) (e : Ending) (w' : World) : Prop := ∃ x A m c M L1 L2, e = .returned (.tuple #[.pointer (some ⟨x, 0, none⟩), .slice A m c, .bool true]) ∧ PQ Q w w' x n A m M L1 L2
set_option maxRecDepth 100000 in
set_option maxHeartbeats 4000000 in
theorem Play_from (Q : Int → Nat → List Sd → Prop) (A : Option Addr) (n c : Nat) (L : List Ot) (w : World) (h : Ots w A n L) (hn : n ≤ 1000) (hok : OkQ Q w L) : Calls Try.prog 11 #[.slice A n c] w (PlQ Q n w) := by
  have HL := Lib.hid h.len
  have HA := Lib.hid h.at
  have HOK := Lib.hid hok
  clear h hok
  go_enter Try.func11, Try.ntmps11
  go_wp2_with fail
  refine (New_any w).mono ?_
  rintro e1 w1 ⟨x, rfl, hix, hb⟩
  have HP := Lib.hid (show PQ Q w w1 x 0 none 0 0 [] [] from ⟨hix, ⟨rfl, fun h => by omega⟩, rfl, fun y hy => (by cases hy), Nat.le_refl _, Nat.le_refl _, hb⟩)
  clear hix hb
  go_wp2
  go_loopw [6, 16] (fun s6 s16 wr => ∃ (k m c' M : Nat) (A' : Option Addr) (L1 L2 : List It), s16 = .int .i64 (k : Int) ∧ k ≤ n ∧ s6 = .slice A' m c' ∧ PQ Q w wr x k A' m M L1 L2) (fun _ s16 _ => n - (intOf s16).toNat)
  case atStart => exact ⟨0, 0, 0, 0, none, [], [], rfl, Nat.zero_le _, rfl, HP.out⟩
  case round =>
    obtain ⟨k, m, c', M, A', L1, L2, rfl, hkn, rfl, hP⟩ := hrel
    have HP := Lib.hid hP
    have hsz : w.heap.size ≤ wr.heap.size := hP.bel.size
    clear hP
    by_cases hlt : k < n
    · have hki : (k : Int) < n := by omega
      have hk0 : (0 : Int) ≤ (k : Int) := by omega
      obtain ⟨b, off, rfl, hbl, hc⟩ := HA.out (by omega)
      have hi' : k < L.length := by rw [HL.out]; exact hlt
      obtain ⟨c0, c1, c2, c3⟩ := hc wr HP.out.bel k hi'
      obtain ⟨hs9, hn9, hi9, ht9, hd0, hd1, hq9⟩ := HOK.out L[k] (List.getElem_mem hi')
      have HQ9 := Lib.hid hq9
      clear hq9
      have HS9 := Lib.hid hs9
      clear hc hbl hs9
      generalize L[k] = y at *
      obtain ⟨W2, hW2⟩ : ∃ W2, W2 = wr.alloc (.cells #[.int .u8 y.kd, .int .i64 y.id, .int .i64 y.t, .slice y.A y.n y.c] 34) := ⟨_, rfl⟩
      have hb2 : Below wr.heap.size wr W2 := by rw [hW2]; exact (Below.refl _ wr).alloc (Nat.le_refl _) _
      have HP2 := Lib.hid (HP.out.below hb2)
      have hbk : Blk W2 wr.heap.size 34 #[.int .u8 y.kd, .int .i64 y.id, .int .i64 y.t, .slice y.A y.n y.c] := by rw [hW2]; exact Blk.new_ rfl rfl
      have HBK := Lib.hid hbk
      have d0 : W2.cell? ⟨wr.heap.size, 0, none⟩ = some (.int .u8 y.kd) := hbk.cell 0
      have d1 : W2.cell? ⟨wr.heap.size, 1, none⟩ = some (.int .i64 y.id) := hbk.cell 1
      have d2 : W2.cell? ⟨wr.heap.size, 2, none⟩ = some (.int .i64 y.t) := hbk.cell 2
      have d3 : W2.cell? ⟨wr.heap.size, 3, none⟩ = some (.slice y.A y.n y.c) := hbk.cell 3
      obtain ⟨r, hr, hr4⟩ := mod4 hd0 hd1
      clear hb2 hbk
      go_upto_region 8 with fail
      rw [← hW2]
      clear hW2 c0 c1 c2 c3
      have hr0 : (4 : Int) ≠ 0 := by decide
      rcases hr4 with rfl | rfl | rfl | rfl
      · go_upto_region 13 with fail
        refine wp_region_mix 6 (fun w' => w'.cell? ⟨wr.heap.size, 1, none⟩ = some (.int .i64 y.id) ∧ w'.cell? ⟨wr.heap.size, 2, none⟩ = some (.int .i64 y.t) ∧ w'.cell? ⟨wr.heap.size, 3, none⟩ = some (.slice y.A y.n y.c)) (by kernel_rfl) (by decide) ?_
        refine wpM_take (i := 0) (oi := ⟨some 40, _, _, _, _, _⟩) (v := ?_) rfl (by decide +kernel) (by decide +kernel) (by decide +kernel) (fun _ _ _ h => h) (Or.inl ⟨by rfl, ?_⟩) ⟨d1, d2, d3⟩ ?_
        case refine_2 => (intro w hSw; obtain ⟨s0, s1, s2⟩ := hSw; go_simp; try (with_reducible rfl))
        try simp only [Act.put, List.setIfInBounds_toArray, List.set_cons_zero, List.set_cons_succ]
        refine wpM_take (i := 1) (oi := ⟨some 41, _, _, _, _, _⟩) (v := ?_) rfl (by decide +kernel) (by decide +kernel) (by decide +kernel) (fun _ _ _ h => h) (Or.inl ⟨by rfl, ?_⟩) ⟨d1, d2, d3⟩ ?_
        case refine_2 => (intro w hSw; obtain ⟨s0, s1, s2⟩ := hSw; go_simp; try (with_reducible rfl))
        try simp only [Act.put, List.setIfInBounds_toArray, List.set_cons_zero, List.set_cons_succ]
        refine wpM_take (i := 2) (oi := ⟨some 42, _, _, _, _, _⟩) (v := ?_) rfl (by decide +kernel) (by decide +kernel) (by decide +kernel) (fun _ _ _ h => h) (Or.inl ⟨by rfl, ?_⟩) ⟨d1, d2, d3⟩ ?_
        case refine_2 => (intro w hSw; obtain ⟨s0, s1, s2⟩ := hSw; go_simp; try (with_reducible rfl))
        try simp only [Act.put, List.setIfInBounds_toArray, List.set_cons_zero, List.set_cons_succ]
        refine wpM_take (i := 3) (oi := ⟨some 43, _, _, _, _, _⟩) (v := ?_) rfl (by decide +kernel) (by decide +kernel) (by decide +kernel) (fun _ _ _ h => h) (Or.inl ⟨by rfl, ?_⟩) ⟨d1, d2, d3⟩ ?_
        case refine_2 => (intro w hSw; obtain ⟨s0, s1, s2⟩ := hSw; go_simp; try (with_reducible rfl))
        try simp only [Act.put, List.setIfInBounds_toArray, List.set_cons_zero, List.set_cons_succ]
        refine wpM_take (i := 4) (oi := ⟨some 44, _, _, _, _, _⟩) (v := ?_) rfl (by decide +kernel) (by decide +kernel) (by decide +kernel) (fun _ _ _ h => h) (Or.inl ⟨by rfl, ?_⟩) ⟨d1, d2, d3⟩ ?_
        case refine_2 => (intro w hSw; obtain ⟨s0, s1, s2⟩ := hSw; go_simp; try (with_reducible rfl))
        try simp only [Act.put, List.setIfInBounds_toArray, List.set_cons_zero, List.set_cons_succ]
        refine wpM_step (i := 5) (o := ⟨some 45, _, _, _, _, _⟩) rfl (by decide +kernel) (by decide) (fun K hK => ?_)
        go_simp
        go_at_call 15
        refine (To_any y.t y.A y.n y.c y.R W2.drew (HS9.out.below (HP2.out.bel.drew)) hn9).mono ?_
        rintro e3 W3 ⟨A9, c9, rfl, hs9, hb3⟩
        have hb3' : Below W2.heap.size W2 W3 := ⟨hb3.os, hb3.tape, hb3.output, hb3.size, hb3.block⟩
        have HP3 := Lib.hid (HP2.out.below hb3')
        have HT3 := Lib.hid hs9
        have HK3 := Lib.hid (Blk.below hb3' HBK.out)
        have f1 := HK3.out.cell 1
        have f2 := HK3.out.cell 2
        have f3 := HK3.out.cell 3
        refine hK.out _ _ ⟨f1, f2, f3⟩ ?_
        clear hK K
        try simp only [Act.put, List.setIfInBounds_toArray, List.set_cons_zero, List.set_cons_succ]
        refine wpM_done (by decide +kernel) ?_
        simp only [List.drop_succ_cons, List.drop_zero]
        have CP := Lib.hid (Put_any W3 w.heap.size x M L1 HP3.out.ix y.id y.t hi9 ht9 A9 y.n c9 y.R HT3.out hn9 (by have := HP3.out.M; omega))
        clear f1 f2 f3 hs9 hb3 hb3' d0 d1 d2 d3
        go_wp2_with fail
        refine CP.out.mono ?_
        rintro e4 W4 ⟨rfl, ⟨A5, c5, hix4⟩, hkc4, hbl4⟩
        have hk4 := HK3.out.kc hkc4
        have d1 : W4.cell? ⟨wr.heap.size, 1, none⟩ = some (.int .i64 y.id) := hk4.cell 1
        have d2 : W4.cell? ⟨wr.heap.size, 2, none⟩ = some (.int .i64 y.t) := hk4.cell 2
        have d3 : W4.cell? ⟨wr.heap.size, 3, none⟩ = some (.slice y.A y.n y.c) := hk4.cell 3
        have HIX4 := Lib.hid hix4
        have HKC4 := Lib.hid hkc4
        have HBL4 := Lib.hid (hbl4 w HP3.out.bel)
        have CR := Lib.hid (RPut_any A' m c' L2 ⟨y.id, y.t, y.A, y.n, y.c, y.R⟩ W4 (HP3.out.row.kc hkc4) (by have := HP3.out.n; omega))
        clear hk4 hix4 hkc4 hbl4 CP
        go_wp2_with fail
        refine CR.out.mono ?_
        rintro e5 W5 ⟨A6, n6, c6, rfl, ho6, hb6⟩
        have HPI := Lib.hid (show PQ Q w W5 x (k + 1) A6 n6 (M + 1) (putL L1 ⟨y.id, y.t, A5, y.n, c5, y.R⟩) (putL L2 ⟨y.id, y.t, y.A, y.n, y.c, y.R⟩) from
          ⟨HIX4.out.below hb6, Irs.own ho6, HP3.out.ks.put rfl, fun z hz => by
            have hB5 := HBL4.out.trans (hb6.mono HBL4.out.size)
            rcases (ins_mem _ _ z).1 hz with rfl | hz
            · exact ⟨HS9.out.below hB5, hn9, HQ9.out⟩
            · obtain ⟨q1, q2⟩ := HP3.out.sd z (List.mem_filter.1 hz).1
              exact ⟨(q1.kc HKC4.out).below hb6, q2⟩, by have := HP3.out.M; omega, Nat.le_trans Asc.len_put (by have := HP3.out.len; omega), HBL4.out.trans (hb6.mono HBL4.out.size)⟩)
        clear ho6 hb6 CR d1 d2 d3
        go_wp2
        go_roundw
        case rel => exact ⟨k + 1, n6, c6, M + 1, A6, _, _, by go_num, hlt, rfl, HPI.out⟩
        case measure => simp [intOf]; omega
      · go_upto_region 13 with fail
        refine wp_region_mix 6 (fun w' => w'.cell? ⟨wr.heap.size, 1, none⟩ = some (.int .i64 y.id) ∧ w'.cell? ⟨wr.heap.size, 2, none⟩ = some (.int .i64 y.t) ∧ w'.cell? ⟨wr.heap.size, 3, none⟩ = some (.slice y.A y.n y.c)) (by kernel_rfl) (by decide) ?_
        refine wpM_take (i := 0) (oi := ⟨some 40, _, _, _, _, _⟩) (v := ?_) rfl (by decide +kernel) (by decide +kernel) (by decide +kernel) (fun _ _ _ h => h) (Or.inl ⟨by rfl, ?_⟩) ⟨d1, d2, d3⟩ ?_
        case refine_2 => (intro w hSw; obtain ⟨s0, s1, s2⟩ := hSw; go_simp; try (with_reducible rfl))
        try simp only [Act.put, List.setIfInBounds_toArray, List.set_cons_zero, List.set_cons_succ]
        refine wpM_take (i := 1) (oi := ⟨some 41, _, _, _, _, _⟩) (v := ?_) rfl (by decide +kernel) (by decide +kernel) (by decide +kernel) (fun _ _ _ h => h) (Or.inl ⟨by rfl, ?_⟩) ⟨d1, d2, d3⟩ ?_
        case refine_2 => (intro w hSw; obtain ⟨s0, s1, s2⟩ := hSw; go_simp; try (with_reducible rfl))
        try simp only [Act.put, List.setIfInBounds_toArray, List.set_cons_zero, List.set_cons_succ]
        refine wpM_take (i := 2) (oi := ⟨some 42, _, _, _, _, _⟩) (v := ?_) rfl (by decide +kernel) (by decide +kernel) (by decide +kernel) (fun _ _ _ h => h) (Or.inl ⟨by rfl, ?_⟩) ⟨d1, d2, d3⟩ ?_
        case refine_2 => (intro w hSw; obtain ⟨s0, s1, s2⟩ := hSw; go_simp; try (with_reducible rfl))
        try simp only [Act.put, List.setIfInBounds_toArray, List.set_cons_zero, List.set_cons_succ]
        refine wpM_take (i := 3) (oi := ⟨some 43, _, _, _, _, _⟩) (v := ?_) rfl (by decide +kernel) (by decide +kernel) (by decide +kernel) (fun _ _ _ h => h) (Or.inl ⟨by rfl, ?_⟩) ⟨d1, d2, d3⟩ ?_
        case refine_2 => (intro w hSw; obtain ⟨s0, s1, s2⟩ := hSw; go_simp; try (with_reducible rfl))
        try simp only [Act.put, List.setIfInBounds_toArray, List.set_cons_zero, List.set_cons_succ]
        refine wpM_take (i := 4) (oi := ⟨some 44, _, _, _, _, _⟩) (v := ?_) rfl (by decide +kernel) (by decide +kernel) (by decide +kernel) (fun _ _ _ h => h) (Or.inl ⟨by rfl, ?_⟩) ⟨d1, d2, d3⟩ ?_
        case refine_2 => (intro w hSw; obtain ⟨s0, s1, s2⟩ := hSw; go_simp; try (with_reducible rfl))
        try simp only [Act.put, List.setIfInBounds_toArray, List.set_cons_zero, List.set_cons_succ]
        refine wpM_step (i := 5) (o := ⟨some 45, _, _, _, _, _⟩) rfl (by decide +kernel) (by decide) (fun K hK => ?_)
        go_simp
        go_at_call 15
        refine (To_any y.t y.A y.n y.c y.R W2.drew (HS9.out.below (HP2.out.bel.drew)) hn9).mono ?_
        rintro e3 W3 ⟨A9, c9, rfl, hs9, hb3⟩
        have hb3' : Below W2.heap.size W2 W3 := ⟨hb3.os, hb3.tape, hb3.output, hb3.size, hb3.block⟩
        have HP3 := Lib.hid (HP2.out.below hb3')
        have HT3 := Lib.hid hs9
        have HK3 := Lib.hid (Blk.below hb3' HBK.out)
        have f1 := HK3.out.cell 1
        have f2 := HK3.out.cell 2
        have f3 := HK3.out.cell 3
        refine hK.out _ _ ⟨f1, f2, f3⟩ ?_
        clear hK K
        try simp only [Act.put, List.setIfInBounds_toArray, List.set_cons_zero, List.set_cons_succ]
        refine wpM_done (by decide +kernel) ?_
        simp only [List.drop_succ_cons, List.drop_zero]
        have CP := Lib.hid (Put_any W3 w.heap.size x M L1 HP3.out.ix y.id y.t hi9 ht9 A9 y.n c9 y.R HT3.out hn9 (by have := HP3.out.M; omega))
        clear f1 f2 f3 hs9 hb3 hb3' d0 d1 d2 d3
        go_wp2_with fail
        refine CP.out.mono ?_
        rintro e4 W4 ⟨rfl, ⟨A5, c5, hix4⟩, hkc4, hbl4⟩
        have hk4 := HK3.out.kc hkc4
        have d1 : W4.cell? ⟨wr.heap.size, 1, none⟩ = some (.int .i64 y.id) := hk4.cell 1
        have d2 : W4.cell? ⟨wr.heap.size, 2, none⟩ = some (.int .i64 y.t) := hk4.cell 2
        have d3 : W4.cell? ⟨wr.heap.size, 3, none⟩ = some (.slice y.A y.n y.c) := hk4.cell 3
        have HIX4 := Lib.hid hix4
        have HKC4 := Lib.hid hkc4
        have HBL4 := Lib.hid (hbl4 w HP3.out.bel)
        have CR := Lib.hid (RPut_any A' m c' L2 ⟨y.id, y.t, y.A, y.n, y.c, y.R⟩ W4 (HP3.out.row.kc hkc4) (by have := HP3.out.n; omega))
        clear hk4 hix4 hkc4 hbl4 CP
        go_wp2_with fail
        refine CR.out.mono ?_
        rintro e5 W5 ⟨A6, n6, c6, rfl, ho6, hb6⟩
        have HPI := Lib.hid (show PQ Q w W5 x (k + 1) A6 n6 (M + 1) (putL L1 ⟨y.id, y.t, A5, y.n, c5, y.R⟩) (putL L2 ⟨y.id, y.t, y.A, y.n, y.c, y.R⟩) from
          ⟨HIX4.out.below hb6, Irs.own ho6, HP3.out.ks.put rfl, fun z hz => by
            have hB5 := HBL4.out.trans (hb6.mono HBL4.out.size)
            rcases (ins_mem _ _ z).1 hz with rfl | hz
            · exact ⟨HS9.out.below hB5, hn9, HQ9.out⟩
            · obtain ⟨q1, q2⟩ := HP3.out.sd z (List.mem_filter.1 hz).1
              exact ⟨(q1.kc HKC4.out).below hb6, q2⟩, by have := HP3.out.M; omega, Nat.le_trans Asc.len_put (by have := HP3.out.len; omega), HBL4.out.trans (hb6.mono HBL4.out.size)⟩)
        clear ho6 hb6 CR d1 d2 d3
        go_wp2
        go_roundw
        case rel => exact ⟨k + 1, n6, c6, M + 1, A6, _, _, by go_num, hlt, rfl, HPI.out⟩
        case measure => simp [intOf]; omega
      · have CR := Lib.hid (RDelete_any A' m c' L2 y.id W2 HP2.out.row (by have := HP2.out.n; omega))
        go_wp2_with fail
        refine CR.out.mono ?_
        rintro e5 W5 ⟨A6, n6, c6, rfl, ho6, hb6⟩
        have HP5 := Lib.hid (HP2.out.below hb6)
        have HI6 := Lib.hid (Irs.own ho6)
        have HB5 := Lib.hid (Blk.below hb6 HBK.out)
        have CD := Lib.hid (Delete_any W5 w.heap.size x M L1 HP5.out.ix y.id hi9)
        rw [HP2.out.ks.any y.id] at CD
        have d1 : W5.cell? ⟨wr.heap.size, 1, none⟩ = some (.int .i64 y.id) := HB5.out.cell 1
        clear d0 d2 d3 ho6 hb6 CR
        generalize (L2.any fun x => x.id == y.id) = q at *
        go_wp2_with fail
        refine CD.out.mono ?_
        rintro e6 W6 ⟨rfl, hix, hkc, hbl⟩
        have HPI := Lib.hid (show PQ Q w W6 x (k + 1) A6 n6 M (delL L1 y.id) (delL L2 y.id) from
          ⟨hix, HI6.out.kc hkc, HP5.out.ks.del y.id, fun z hz => by
            obtain ⟨q1, q2⟩ := HP5.out.sd z (List.mem_filter.1 hz).1
            exact ⟨q1.kc hkc, q2⟩, by have := HP5.out.M; omega, Nat.le_trans (List.length_filter_le _ _) (by have := HP5.out.len; omega), hbl w HP5.out.bel⟩)
        clear hix hkc hbl CD
        have hq : (q != q) = false := by cases q <;> rfl
        cases q
        all_goals
          go_wp2
          go_roundw
          case rel => exact ⟨k + 1, n6, c6, M, A6, _, _, by go_num, hlt, rfl, HPI.out⟩
          case measure => simp [intOf]; omega
      · go_upto_region 9 with fail
        obtain ⟨zs, hzs⟩ : ∃ zs, candL L1 y.t y.R = zs := ⟨_, rfl⟩
        have hws : wantL L2 y.t y.R = zs := by rw [← hzs]; exact (HP2.out.ks.cand y.t y.R).symm
        have hzl : zs.length ≤ 1000 := by
          rw [← hzs]
          unfold candL
          rw [List.length_map]
          exact Nat.le_trans (List.length_filter_le _ _) (by have := HP2.out.len; omega)
        have HC3 := Lib.hid (show ∀ (W : World) (_ : Below W2.heap.size W2 W) (D : Option Addr) (d : Nat), Sds W D y.n y.R → Calls Try.prog 14 #[.pointer (some ⟨x, 0, none⟩), .agg #[.int .i64 y.t, .slice D y.n d]] W fun e w' => ∃ A' n' c', e = .returned (.slice A' n' c') ∧ (Nms w' A' n' zs ∧ n' ≤ 1000) ∧ Below W.heap.size W w' from fun W hW D d hD => by
          refine (Cand_any W w.heap.size x M L1 (HP2.out.below hW).ix y.t ht9 D y.n d y.R hD hn9 (by have := HP2.out.len; omega)).mono ?_
          rintro e w' ⟨A1, n1, c1, rfl, ho, hb⟩
          rw [hzs] at ho
          exact ⟨A1, n1, c1, rfl, ⟨Nms.own ho, by have h5 := ho.1; rw [ic_len] at h5; omega⟩, hb⟩)
        have HW3 := Lib.hid (show ∀ (W : World) (_ : Below W2.heap.size W2 W) (D : Option Addr) (d : Nat), Sds W D y.n y.R → Calls Try.prog 16 #[.slice A' m c', .agg #[.int .i64 y.t, .slice D y.n d]] W fun e w' => ∃ A' n' c', e = .returned (.slice A' n' c') ∧ Nms w' A' n' zs ∧ Below W.heap.size W w' from fun W hW D d hD => by
          refine (Wanted_any A' m c' L2 y.t D y.n d y.R W (HP2.out.below hW).row (by have := HP2.out.n; omega) (fun y hy => ⟨((HP2.out.below hW).sd y hy).1, ((HP2.out.below hW).sd y hy).2.1⟩) hD hn9).mono ?_
          rintro e w' ⟨A1, n1, c1, rfl, ho, hb⟩
          rw [hws] at ho
          exact ⟨A1, n1, c1, rfl, Nms.own ho, hb⟩)
        have HT3 := Lib.hid (show ∀ (W : World) (_ : Below W2.heap.size W2 W), Sds W y.A y.n y.R from fun W hW => HS9.out.below (HP2.out.bel.trans (hW.mono HP2.out.bel.size)))
        have HPN := Lib.hid (show ∀ (W : World) (_ : Below W2.heap.size W2 W), PQ Q w W x (k + 1) A' m M L1 L2 from fun W hW => by
          have q := HP2.out.below hW
          exact ⟨q.ix, q.row, q.ks, q.sd, Nat.le_succ_of_le q.M, Nat.le_succ_of_le q.len, q.bel⟩)
        clear hzs hws d0 d1
        have hb0 : Below W2.heap.size W2 W2.drew := below_drew (Below.refl _ _)
        refine wp_region_mix 11 (fun w' => Below W2.heap.size W2 w') (by kernel_rfl) (by decide) ?_
        generalize W2.drew = y0 at hb0 ⊢
        refine wpM_take (i := 0) (oi := ⟨some 23, _, _, _, _, _⟩) (v := ?_) rfl (by decide +kernel) (by decide +kernel) (by decide +kernel) (fun _ _ _ h => h) (Or.inl ⟨by rfl, ?_⟩) hb0 ?_
        case refine_2 =>
          intro w' hSw
          have d2' := keepcell hSw d2
          have d3' := keepcell hSw d3
          go_simp
          try (with_reducible rfl)
        try simp only [Act.put, List.setIfInBounds_toArray, List.set_cons_zero, List.set_cons_succ]
        refine wpM_take (i := 1) (oi := ⟨some 24, _, _, _, _, _⟩) (v := ?_) rfl (by decide +kernel) (by decide +kernel) (by decide +kernel) (fun _ _ _ h => h) (Or.inl ⟨by rfl, ?_⟩) hb0 ?_
        case refine_2 =>
          intro w' hSw
          have d2' := keepcell hSw d2
          have d3' := keepcell hSw d3
          go_simp
          try (with_reducible rfl)
        try simp only [Act.put, List.setIfInBounds_toArray, List.set_cons_zero, List.set_cons_succ]
        refine wpM_take (i := 2) (oi := ⟨some 25, _, _, _, _, _⟩) (v := ?_) rfl (by decide +kernel) (by decide +kernel) (by decide +kernel) (fun _ _ _ h => h) (Or.inl ⟨by rfl, ?_⟩) hb0 ?_
        case refine_2 =>
          intro w' hSw
          have d2' := keepcell hSw d2
          have d3' := keepcell hSw d3
          go_simp
          try (with_reducible rfl)
        try simp only [Act.put, List.setIfInBounds_toArray, List.set_cons_zero, List.set_cons_succ]
        refine wpM_take (i := 5) (oi := ⟨some 28, _, _, _, _, _⟩) (v := ?_) rfl (by decide +kernel) (by decide +kernel) (by decide +kernel) (fun _ _ _ h => h) (Or.inl ⟨by rfl, ?_⟩) hb0 ?_
        case refine_2 =>
          intro w' hSw
          have d2' := keepcell hSw d2
          have d3' := keepcell hSw d3
          go_simp
          try (with_reducible rfl)
        try simp only [Act.put, List.setIfInBounds_toArray, List.set_cons_zero, List.set_cons_succ]
        refine wpM_take (i := 6) (oi := ⟨some 29, _, _, _, _, _⟩) (v := ?_) rfl (by decide +kernel) (by decide +kernel) (by decide +kernel) (fun _ _ _ h => h) (Or.inl ⟨by rfl, ?_⟩) hb0 ?_
        case refine_2 =>
          intro w' hSw
          have d2' := keepcell hSw d2
          have d3' := keepcell hSw d3
          go_simp
          try (with_reducible rfl)
        try simp only [Act.put, List.setIfInBounds_toArray, List.set_cons_zero, List.set_cons_succ]
        refine wpM_take (i := 7) (oi := ⟨some 30, _, _, _, _, _⟩) (v := ?_) rfl (by decide +kernel) (by decide +kernel) (by decide +kernel) (fun _ _ _ h => h) (Or.inl ⟨by rfl, ?_⟩) hb0 ?_
        case refine_2 =>
          intro w' hSw
          have d2' := keepcell hSw d2
          have d3' := keepcell hSw d3
          go_simp
          try (with_reducible rfl)
        try simp only [Act.put, List.setIfInBounds_toArray, List.set_cons_zero, List.set_cons_succ]
        refine wpM_chains (fun i => 23 + i) [3, 4, 8, 9, 10] (fun i v W => (i = 3 → ∃ D d, v = Value.agg #[.int .i64 y.t, .slice D y.n d] ∧ Sds W D y.n y.R) ∧ (i = 4 → ∃ D n1 d, v = Value.slice D n1 d ∧ Nms W D n1 zs ∧ n1 ≤ 1000) ∧ (i = 8 → ∃ D d, v = Value.agg #[.int .i64 y.t, .slice D y.n d] ∧ Sds W D y.n y.R) ∧ (i = 9 → ∃ D n1 d, v = Value.slice D n1 d ∧ Nms W D n1 zs) ∧ (i = 10 → v = Value.bool true) ∧ True) (by decide +kernel) (fun i v W W' h0 hb => ⟨fun e => (fun h => let ⟨D, d, e, s⟩ := h; ⟨D, d, e, s.below hb⟩) (h0.1 e), fun e => (fun h => let ⟨D, n1, d, e, s, q⟩ := h; ⟨D, n1, d, e, At.below s hb, q⟩) (h0.2.1 e), fun e => (fun h => let ⟨D, d, e, s⟩ := h; ⟨D, d, e, s.below hb⟩) (h0.2.2.1 e), fun e => (fun h => let ⟨D, n1, d, e, s⟩ := h; ⟨D, n1, d, e, At.below s hb⟩) (h0.2.2.2.1 e), fun e => (fun h => h) (h0.2.2.2.2.1 e), trivial⟩) hb0 ?_ ?_
        · refine List.forall_mem_cons.2 ⟨?_, List.forall_mem_cons.2 ⟨?_, List.forall_mem_cons.2 ⟨?_, List.forall_mem_cons.2 ⟨?_, List.forall_mem_cons.2 ⟨?_, List.forall_mem_nil _⟩⟩⟩⟩⟩
          · refine ⟨⟨some 26, _, _, _, _, _⟩, rfl, rfl, fun vs W K hS hd hK => ?_⟩
            simp only [puts, List.foldl_cons, List.foldl_nil, Act.put, List.setIfInBounds_toArray, List.set_cons_zero, List.set_cons_succ, Nat.reduceAdd, Nat.reduceSub] at hK ⊢
            go_simp
            refine (To_any y.t y.A y.n y.c y.R W (HT3.out W hS) hn9).mono ?_
            rintro e W' ⟨D, d, rfl, s, hb⟩
            exact hK _ _ (hS.trans (hb.mono hS.size)) hb ⟨fun _ => ⟨D, d, rfl, s⟩, fun e => absurd e (by decide), fun e => absurd e (by decide), fun e => absurd e (by decide), fun e => absurd e (by decide), trivial⟩
          · refine ⟨⟨some 27, _, _, _, _, _⟩, rfl, rfl, fun vs W K hS hd hK => ?_⟩
            obtain ⟨D1, d1, e1, s1⟩ := (hd 3 (by decide) (by decide +kernel)).1 rfl
            simp only [puts, List.foldl_cons, List.foldl_nil, Act.put, List.setIfInBounds_toArray, List.set_cons_zero, List.set_cons_succ, Nat.reduceAdd, Nat.reduceSub] at hK ⊢
            simp only [e1] at hK ⊢
            go_simp
            refine (HC3.out W hS D1 d1 s1).mono ?_
            rintro e W' ⟨D, n1, d, rfl, ⟨s, q⟩, hb⟩
            exact hK _ _ (hS.trans (hb.mono hS.size)) hb ⟨fun e => absurd e (by decide), fun _ => ⟨D, n1, d, rfl, s, q⟩, fun e => absurd e (by decide), fun e => absurd e (by decide), fun e => absurd e (by decide), trivial⟩
          · refine ⟨⟨some 31, _, _, _, _, _⟩, rfl, rfl, fun vs W K hS hd hK => ?_⟩
            simp only [puts, List.foldl_cons, List.foldl_nil, Act.put, List.setIfInBounds_toArray, List.set_cons_zero, List.set_cons_succ, Nat.reduceAdd, Nat.reduceSub] at hK ⊢
            go_simp
            refine (To_any y.t y.A y.n y.c y.R W (HT3.out W hS) hn9).mono ?_
            rintro e W' ⟨D, d, rfl, s, hb⟩
            exact hK _ _ (hS.trans (hb.mono hS.size)) hb ⟨fun e => absurd e (by decide), fun e => absurd e (by decide), fun _ => ⟨D, d, rfl, s⟩, fun e => absurd e (by decide), fun e => absurd e (by decide), trivial⟩
          · refine ⟨⟨some 32, _, _, _, _, _⟩, rfl, rfl, fun vs W K hS hd hK => ?_⟩
            obtain ⟨D1, d1, e1, s1⟩ := (hd 8 (by decide) (by decide +kernel)).2.2.1 rfl
            simp only [puts, List.foldl_cons, List.foldl_nil, Act.put, List.setIfInBounds_toArray, List.set_cons_zero, List.set_cons_succ, Nat.reduceAdd, Nat.reduceSub] at hK ⊢
            simp only [e1] at hK ⊢
            go_simp
            refine (HW3.out W hS D1 d1 s1).mono ?_
            rintro e W' ⟨D, n1, d, rfl, s, hb⟩
            exact hK _ _ (hS.trans (hb.mono hS.size)) hb ⟨fun e => absurd e (by decide), fun e => absurd e (by decide), fun e => absurd e (by decide), fun _ => ⟨D, n1, d, rfl, s⟩, fun e => absurd e (by decide), trivial⟩
          · refine ⟨⟨some 33, _, _, _, _, _⟩, rfl, rfl, fun vs W K hS hd hK => ?_⟩
            obtain ⟨D1, n1, d1, e1, s1, q1⟩ := (hd 4 (by decide) (by decide +kernel)).2.1 rfl
            obtain ⟨D2, n2, d2, e2, s2⟩ := (hd 9 (by decide) (by decide +kernel)).2.2.2.1 rfl
            simp only [puts, List.foldl_cons, List.foldl_nil, Act.put, List.setIfInBounds_toArray, List.set_cons_zero, List.set_cons_succ, Nat.reduceAdd, Nat.reduceSub] at hK ⊢
            simp only [e1, e2] at hK ⊢
            go_simp
            refine (Same_any D1 D2 n1 n2 d1 d2 zs zs W s1 s2 (by omega)).mono ?_
            rintro e W' ⟨rfl, hb⟩
            exact hK _ _ (hS.trans (hb.mono hS.size)) hb ⟨fun e => absurd e (by decide), fun e => absurd e (by decide), fun e => absurd e (by decide), fun e => absurd e (by decide), fun _ => (by simp), trivial⟩
        · intro vs W hS hd
          obtain e1 := (hd 10 (by decide)).2.2.2.2.1 rfl
          simp only [puts, List.foldl_cons, List.foldl_nil, Act.put, List.setIfInBounds_toArray, List.set_cons_zero, List.set_cons_succ, Nat.reduceAdd, Nat.reduceSub]
          simp only [e1]
          have HPW := Lib.hid (HPN.out W hS)
          simp only [List.drop_succ_cons, List.drop_zero]
          clear hd hS
          go_wp2
          go_roundw
          case rel => exact ⟨k + 1, m, c', M, A', L1, L2, by go_num, hlt, rfl, HPW.out⟩
          case measure => simp [intOf]; omega
    · obtain rfl : k = n := by omega
      have hlt2 : ¬ ((k : Int) < (k : Int)) := by omega
      go_wp2
      go_ret3
      exact ⟨x, A', m, c', M, L1, L2, rfl, HP.out⟩
end Go.Proofs.Ytgenpldldgplhaa
