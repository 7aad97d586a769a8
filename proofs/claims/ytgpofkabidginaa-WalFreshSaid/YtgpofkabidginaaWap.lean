/- Appending a record to a log. -/
import Derived.Test.YtgpofkabidginaaWlp
namespace Go.Proofs.Ytgpofkabidginaa
open Go.ChangeShapes Go.WideShapes Go.ChangeAt Go.RowKit Go.ChangeMaps

theorem BA.take_ {F : Nat → Prop} {w : World} {b off n k : Nat} {l : List UInt8} (h : BA F w (some ⟨b, off, none⟩) n l) (hk : k ≤ n) : BA F w (some ⟨b, off, none⟩) k (l.take k) :=
  ⟨by rw [List.length_take, h.1]; omega, fun hn => by
    obtain ⟨b', off', e, hl, hf, hc⟩ := h.2 (by omega)
    cases e
    exact ⟨b, off, rfl, hl, hf, (h.at.take hk).2 hn |> fun ⟨b2, o2, e2, _, hc2⟩ => by cases e2; exact hc2⟩⟩
theorem BA.drop_ {F : Nat → Prop} {w : World} {b off n k : Nat} {l : List UInt8} (h : BA F w (some ⟨b, off, none⟩) n l) (hk : k ≤ n) : BA F w (some ⟨b, off + k, none⟩) (n - k) (l.drop k) :=
  ⟨by rw [List.length_drop, h.1], fun hn => by
    obtain ⟨b', off', e, hl, hf, hc⟩ := h.2 (by omega)
    cases e
    exact ⟨b, off + k, rfl, hl, hf, (h.at.drop hk).2 hn |> fun ⟨b2, o2, e2, _, hc2⟩ => by cases e2; exact hc2⟩⟩
theorem BA.nil_ (F : Nat → Prop) (w : World) (A : Option Addr) {l : List UInt8} {n : Nat} (h : n = 0) (hl : l.length = 0) : BA F w A n l := ⟨by omega, fun h => absurd h (by omega)⟩
theorem BA.rest {F : Nat → Prop} {w : World} {b off n k c : Nat} {l : List UInt8} (h : BA F w (some ⟨b, off, none⟩) n l) (hk : k ≤ n) (hc : n ≤ c) : BA F w (if c = k then some ⟨b, off, none⟩ else some ⟨b, off + k, none⟩) (n - k) (l.drop k) := by
  split
  · exact BA.nil_ F w _ (by omega) (by rw [List.length_drop, h.1]; omega)
  · exact h.drop_ hk
set_option maxRecDepth 100000 in
set_option maxHeartbeats 4000000 in
theorem App_loop (F : Nat → Prop) (w : World) (g p q : Nat) (L : Lg) (s : St) (hL : Lk F w g p L) (hD : Dk w p q s) (hg : F g) (hp : F p) (hq : F q) (hgp : ¬ PQ p q g) (hFB : ∀ k, F k → k < w.heap.size)
    (he : L.e < 4294967296) (hf : L.f ≤ 65536) (hc : L.c ≤ 65536) (hn : L.n ≤ 100000000) (hk : L.k ≤ 100000000) (A : Option Addr) (m c : Nat) (b : List UInt8) (hb : BA F w A m b) (hm : m ≤ 100000000) (hmc : m ≤ c) (hcc : c ≤ 9223372036854775807)
    (ht : L.t.length < 59) (hx : s.x + 100000100 < 1000000000) (hfree : (m : Int) ≤ freeM (59 * (L.c : Int) - (L.n : Int))) (hsf : s.f = false) :
    Calls Try.prog 18 #[.pointer (some ⟨g, 0, none⟩), .slice A m c] w fun e w' => e = .returned (.int .i64 (L.app s b).2.2) ∧ Dk w' p q (L.app s b).2.1 ∧ ((L.app s b).2.2 = 0 → Lk F w' g p (L.app s b).1) ∧ Chg (G3 p q g) w w' := by
  have HFR := Lib.hid (FreeL_any F w g p L hL hc hn)
  have HL := Lib.hid hL
  have HD := Lib.hid hD
  have HB := Lib.hid hb
  have HFB := Lib.hid hFB
  obtain ⟨A0, cap0, hblk, htl, htc1, htc2⟩ := hL
  have HBLK := Lib.hid hblk
  have HTL := Lib.hid htl
  have c0 : w.cell? ⟨g, 0, none⟩ = some (.pointer (some ⟨p, 0, none⟩)) := hblk.cell 0
  have c1 : w.cell? ⟨g, 1, none⟩ = some (.int .i64 (L.f : Int)) := hblk.cell 1
  have c4 : w.cell? ⟨g, 4, none⟩ = some (.int .i64 (L.n : Int)) := hblk.cell 4
  have c5 : w.cell? ⟨g, 5, none⟩ = some (.slice A0 L.t.length cap0) := hblk.cell 5
  have hgl : g < w.heap.size := hblk.lt
  obtain ⟨fr, hfr⟩ : ∃ x, freeM (59 * (L.c : Int) - (L.n : Int)) = x := ⟨_, rfl⟩
  rw [hfr] at HFR hfree
  have HFRM := Lib.hid hfr
  have HBL := Lib.hid hb.1
  clear hfr hblk htl hb hFB hD
  go_enter Try.func18, Try.ntmps18
  go_wp2_with fail
  refine HFR.out.mono ?_
  rintro e w1 ⟨rfl, kk, rfl⟩
  go_wp2_with fail
  refine (Failed_any _ p q s (HD.out.below (below_drewN (Below.refl _ w)))).mono ?_
  rintro e w1 ⟨rfl, hw1⟩
  rw [hsf]
  have HB1 := Lib.hid (show Below w.heap.size w w1 from hw1 ▸ below_drewN (Below.refl _ w))
  have c0 : w1.cell? ⟨g, 0, none⟩ = _ := keepcell HB1.out c0
  have c1 : w1.cell? ⟨g, 1, none⟩ = _ := keepcell HB1.out c1
  have c4 : w1.cell? ⟨g, 4, none⟩ = _ := keepcell HB1.out c4
  have c5 : w1.cell? ⟨g, 5, none⟩ = _ := keepcell HB1.out c5
  go_wp2_with fail
  have hs1 := HB1.out.size
  have c5d : w1.drew.cell? ⟨g, 5, none⟩ = some (.slice A0 L.t.length cap0) := c5
  have hwm : IntKind.u32.wrap (m : Int) = (m : Int) := wr32 _ (by omega) (by omega)
  refine wp_region_mix 9 (fun w' => w'.cell? ⟨g, 5, none⟩ = some (.slice A0 L.t.length cap0)) (by kernel_rfl) (by decide) ?_
  refine wpM_take (i := 0) (oi := ⟨some 19, _, _, _, _, _⟩) (v := ?_) rfl (by decide +kernel) (by decide +kernel) (by decide +kernel) (fun _ _ _ h => h) (Or.inl ⟨by rfl, ?_⟩) c5d ?_
  case refine_2 => (intro w hSw; (try dsimp only at hSw); go_simp; try (with_reducible rfl))
  try simp only [Act.put, List.setIfInBounds_toArray, List.set_cons_zero, List.set_cons_succ]
  refine wpM_take (i := 1) (oi := ⟨some 20, _, _, _, _, _⟩) (v := ?_) rfl (by decide +kernel) (by decide +kernel) (by decide +kernel) (fun _ _ _ h => h) (Or.inl ⟨by rfl, ?_⟩) c5d ?_
  case refine_2 => (intro w hSw; (try dsimp only at hSw); go_simp; try (with_reducible rfl))
  try simp only [Act.put, List.setIfInBounds_toArray, List.set_cons_zero, List.set_cons_succ]
  refine wpM_take (i := 2) (oi := ⟨some 21, _, _, _, _, _⟩) (v := ?_) rfl (by decide +kernel) (by decide +kernel) (by decide +kernel) (fun _ _ _ h => h) (Or.inl ⟨by rfl, ?_⟩) c5d ?_
  case refine_2 => (intro w hSw; (try dsimp only at hSw); go_simp; try (with_reducible rfl))
  try simp only [Act.put, List.setIfInBounds_toArray, List.set_cons_zero, List.set_cons_succ]
  refine wpM_take (i := 3) (oi := ⟨some 22, _, _, _, _, _⟩) (v := ?_) rfl (by decide +kernel) (by decide +kernel) (by decide +kernel) (fun _ _ _ h => h) (Or.inl ⟨by rfl, ?_⟩) c5d ?_
  case refine_2 => (intro w hSw; (try dsimp only at hSw); go_simp; try (with_reducible rfl))
  try simp only [Act.put, List.setIfInBounds_toArray, List.set_cons_zero, List.set_cons_succ]
  refine wpM_take (i := 4) (oi := ⟨some 23, _, _, _, _, _⟩) (v := ?_) rfl (by decide +kernel) (by decide +kernel) (by decide +kernel) (fun _ _ _ h => h) (Or.inl ⟨by rfl, ?_⟩) c5d ?_
  case refine_2 => (intro w hSw; (try dsimp only at hSw); go_simp; try (with_reducible rfl))
  try simp only [Act.put, List.setIfInBounds_toArray, List.set_cons_zero, List.set_cons_succ]
  refine wpM_take (i := 5) (oi := ⟨some 24, _, _, _, _, _⟩) (v := ?_) rfl (by decide +kernel) (by decide +kernel) (by decide +kernel) (fun _ _ _ h => h) (Or.inl ⟨by rfl, ?_⟩) c5d ?_
  case refine_2 => (intro w hSw; (try dsimp only at hSw); go_simp; try (with_reducible rfl))
  try simp only [Act.put, List.setIfInBounds_toArray, List.set_cons_zero, List.set_cons_succ]
  refine wpM_take (i := 6) (oi := ⟨some 25, _, _, _, _, _⟩) (v := ?_) rfl (by decide +kernel) (by decide +kernel) (by decide +kernel) (fun _ _ _ h => h) (Or.inl ⟨by rfl, ?_⟩) c5d ?_
  case refine_2 => (intro w hSw; (try dsimp only at hSw); go_simp; try (with_reducible rfl))
  try simp only [Act.put, List.setIfInBounds_toArray, List.set_cons_zero, List.set_cons_succ]
  refine wpM_take (i := 8) (oi := ⟨some 27, _, _, _, _, _⟩) (v := ?_) rfl (by decide +kernel) (by decide +kernel) (by decide +kernel) (fun _ _ _ h => h) (Or.inl ⟨by rfl, ?_⟩) c5d ?_
  case refine_2 => (intro w hSw; (try dsimp only at hSw); go_simp; try (with_reducible rfl))
  try simp only [Act.put, List.setIfInBounds_toArray, List.set_cons_zero, List.set_cons_succ]
  refine wpM_step (i := 7) (o := ⟨some 26, _, _, _, _, _⟩) rfl (by decide +kernel) (by decide) (fun K hK => ?_)
  go_simp
  go_at_call 46
  refine (numB_any _ m (by omega)).mono ?_
  rintro e W3 ⟨rfl, hk3, hb3⟩
  have c5e := keepcell hb3 c5d
  have HB3 := Lib.hid (show Below w.heap.size w W3 from (below_drew HB1.out).trans (hb3.mono (by exact HB1.out.size)))
  have HK3 := Lib.hid hk3
  clear hk3 hb3
  refine hK.out _ _ c5e ?_
  clear hK K
  try simp only [Act.put, List.setIfInBounds_toArray, List.set_cons_zero, List.set_cons_succ]
  refine wpM_done (by decide +kernel) ?_
  simp only [List.drop_succ_cons, List.drop_zero]
  obtain ⟨W4, hW4⟩ : ∃ W, W = W3.alloc (.cells #[.slice A0 L.t.length cap0, .slice (some ⟨w1.drew.heap.size, 0, none⟩) 4 4, .slice A m c] 38) := ⟨_, rfl⟩
  have hb4 : Below W3.heap.size W3 W4 := by rw [hW4]; exact (Below.refl _ _).alloc (Nat.le_refl _) _
  have HB4 := Lib.hid (HB3.out.trans (hb4.mono HB3.out.size))
  have HCC := Lib.hid (Concat_any F W4 (fun k hk => Nat.lt_of_lt_of_le (HFB.out k hk) HB4.out.size) W3.heap.size (fun k => match k with | 0 => A0 | 1 => some ⟨w1.drew.heap.size, 0, none⟩ | _ => A) (fun k => match k with | 0 => L.t.length | 1 => 4 | _ => m) (fun k => match k with | 0 => cap0 | 1 => 4 | _ => c) (fun k => match k with | 0 => L.t | 1 => nb4 m | _ => b) (by rw [hW4]; exact Blk.new_ rfl rfl) (fun k hk => by
    match k, hk with
    | 0, _ => exact (HTL.out.below HB4.out).at
    | 1, _ => exact (bytes_of_blk HK3.out (nb4_len m)).below hb4
    | 2, _ => exact (HB.out.below HB4.out).at) (by simp only [sumN]; omega))
  change Hid (Calls Try.prog 45 #[.slice (some ⟨W3.heap.size, 0, none⟩) 3 3] W4 fun e w' => ∃ B c', e = .returned (.slice B (0 + L.t.length + 4 + m) c') ∧ BA F w' B (0 + L.t.length + 4 + m) (L.t ++ nb4 m ++ b) ∧ 0 + L.t.length + 4 + m ≤ c' ∧ c' ≤ 9223372036854775807 ∧ Below W4.heap.size W4 w') at HCC
  rw [hW4] at HCC
  go_wp2_with fail
  refine HCC.out.mono ?_
  rintro e W5 ⟨D0, dc0, rfl, hd0, hdc0, hdc1, hb5⟩
  rw [← hW4] at hb5
  have HB5 := Lib.hid (HB4.out.trans (hb5.mono HB4.out.size))
  obtain ⟨dl, hdl⟩ : ∃ x, 0 + L.t.length + 4 + m = x := ⟨_, rfl⟩
  rw [hdl] at hd0 hdc0 ⊢
  have HDL := Lib.hid hdl
  have hdl4 : 4 ≤ dl := by omega
  have hdlm : dl ≤ 100000100 := by omega
  have HD0 := Lib.hid hd0
  have c0 : W5.cell? ⟨g, 0, none⟩ = some (.pointer (some ⟨p, 0, none⟩)) := keepcell HB5.out (HBLK.out.cell 0)
  have c1 : W5.cell? ⟨g, 1, none⟩ = some (.int .i64 (L.f : Int)) := keepcell HB5.out (HBLK.out.cell 1)
  have c4 : W5.cell? ⟨g, 4, none⟩ = some (.int .i64 (L.n : Int)) := keepcell HB5.out (HBLK.out.cell 4)
  have hs5 := HB5.out.size
  have HLK5 := Lib.hid (HL.out.below HB5.out)
  have HDK5 := Lib.hid (HD.out.below HB5.out)
  clear hd0 hb5 hb4 hW4 HCC HB4 HK3 HB3 HB1 hs1 c5 c5d hdl HTL HBLK HB c5e
  obtain ⟨sd, hsd⟩ : ∃ x : Nat, L.f + L.n / 59 = x := ⟨_, rfl⟩
  have HSD := Lib.hid hsd
  have hsdb : sd ≤ 200000000 := by omega
  clear hsd
  go_wp2_with fail
  go_quiet (fail)
  go_wp2_with fail
  obtain ⟨DT, hDT⟩ : ∃ x, L.t ++ nb4 m ++ b = x := ⟨_, rfl⟩
  rw [hDT] at HD0
  have HDT := Lib.hid hDT
  clear hDT
  have HDTL := Lib.hid HD0.out.1
  have hsx : s.x + dl < 1000000000 := by omega
  go_loopw [5, 6] (fun dv iv wr => ∃ (j m' cap' : Nat) (D : Option Addr) (d : List UInt8) (s' : St) (tl : List UInt8), dv = .slice D m' cap' ∧ iv = .int .i64 ((sd + j : Nat) : Int) ∧ BA F wr D m' d ∧ m' ≤ cap' ∧ cap' ≤ 9223372036854775807 ∧ j + m' ≤ dl ∧ wl L.e s sd DT = wl L.e s' (sd + j) d ∧ (d = [] → tl = tailOf DT) ∧ (d ≠ [] → tailOf d = tailOf DT) ∧ Dk wr p q s' ∧ Lk F wr g p { L with t := tl } ∧ s'.x + m' ≤ s.x + dl ∧ Chg (G3 p q g) w wr) (fun dv _ _ => match dv with | .slice _ n _ => n | _ => 0)
  case atStart => exact ⟨0, dl, dc0, D0, DT, s, L.t, rfl, int_eq (by have := HSD.out; omega), HD0.out.below (by exact below_dn ⟨_, rfl⟩), hdc0, hdc1, by omega, rfl, fun h => by have := HDTL.out; rw [h] at this; simp at this; omega, fun _ => rfl, HDK5.out.below (by exact below_dn ⟨_, rfl⟩), HLK5.out.below (by exact below_dn ⟨_, rfl⟩), Nat.le_refl _, Chg.of_below (below_drewN HB5.out)⟩
  case round =>
    clear HLK5 HDK5 c0 c1 c4 HD0
    obtain ⟨j, m', cap', D, d, s', tl, rfl, rfl, hd, hmc', hcp, hj, hwl, ht1, ht2, hD', hL', hx', hC⟩ := hrel
    have HWL := Lib.hid hwl
    have HT1 := Lib.hid ht1
    have HT2 := Lib.hid ht2
    have HDD := Lib.hid hD'
    have HLL := Lib.hid hL'
    have HC := Lib.hid hC
    have HD1 := Lib.hid hd
    have HDL1 := Lib.hid hd.1
    clear hwl ht1 ht2 hC hd
    obtain ⟨A9, cap9, hblk, -⟩ := hL'
    have c0 : wr.cell? ⟨g, 0, none⟩ = some (.pointer (some ⟨p, 0, none⟩)) := hblk.cell 0
    have c4 : wr.cell? ⟨g, 4, none⟩ = some (.int .i64 (L.n : Int)) := hblk.cell 4
    have c6 : wr.cell? ⟨g, 6, none⟩ = some (.int .i64 (L.k : Int)) := hblk.cell 6
    have f4 : wr.frozen? ⟨g, 4, none⟩ = false := Joins.unfrozen_of_block hblk 4
    have f6 : wr.frozen? ⟨g, 6, none⟩ = false := Joins.unfrozen_of_block hblk 6
    clear hD'
    by_cases h0 : m' = 0
    · subst h0
      have hdn : d = [] := List.eq_nil_of_length_eq_zero (by rw [HDL1.out])
      have HAP : Hid (L.app s b = ({ L with n := L.n + 4 + m, k := L.k + 1, t := tl }, s', 0)) := Lib.hid (by
        unfold Lg.app
        rw [HFRM.out, HBL.out, if_neg (by omega), if_neg (by rw [hsf]; decide), HSD.out, HDT.out, HWL.out, hdn, wl_nil, if_pos rfl, HT1.out hdn])
      clear hdn hblk
      go_wp2
      go_ret
      rw [HAP.out]
      exact ⟨rfl, HDD.out.chg (((Chg.refl (fun k => k = g) wr).set_ rfl).set_ rfl) (fun e => hgp (.inl e.symm)) (fun e => hgp (.inr e.symm)), fun _ => by
        have := HLL.out.setN hg (L.n + 4 + m) (L.k + 1)
        simpa [Int.add_assoc] using this, (HC.out.set_ (.inr (.inr rfl))).set_ (.inr (.inr rfl))⟩
    · have hdne : d ≠ [] := fun e => h0 (by have := HDL1.out; rw [e] at this; simpa using this.symm)
      obtain ⟨db, doff, rfl⟩ := HD1.out.at.some (by omega)
      have hmi : (0 : Int) < (m' : Int) := by omega
      clear hblk
      by_cases h59 : m' < 59
      · have h59i : (m' : Int) < 59 := by omega
        have c0d : wr.drew.cell? ⟨g, 0, none⟩ = some (.pointer (some ⟨p, 0, none⟩)) := c0
        have hnc : ((m' : Int) : Int) ≤ (cap' : Int) := by omega
        have hn0 : (0 : Int) ≤ (m' : Int) := by omega
        have HCH := Lib.hid (show BA F wr.drew (some ⟨db, doff, none⟩) m' (d.take 59) from by rw [List.take_of_length_le (by rw [HDL1.out]; omega)]; exact HD1.out)
        go_wp2_with fail
        refine wp_region_mix 10 (fun w' => w'.cell? ⟨g, 0, none⟩ = some (.pointer (some ⟨p, 0, none⟩))) (by kernel_rfl) (by decide) ?_
        refine wpM_take (i := 0) (oi := ⟨some 46, _, _, _, _, _⟩) (v := ?_) rfl (by decide +kernel) (by decide +kernel) (by decide +kernel) (fun _ _ _ h => h) (Or.inl ⟨by rfl, ?_⟩) c0d ?_
        case refine_2 => (intro w hSw; (try dsimp only at hSw); go_simp; try (with_reducible rfl))
        try simp only [Act.put, List.setIfInBounds_toArray, List.set_cons_zero, List.set_cons_succ]
        refine wpM_take (i := 1) (oi := ⟨some 47, _, _, _, _, _⟩) (v := ?_) rfl (by decide +kernel) (by decide +kernel) (by decide +kernel) (fun _ _ _ h => h) (Or.inl ⟨by rfl, ?_⟩) c0d ?_
        case refine_2 => (intro w hSw; (try dsimp only at hSw); go_simp; try (with_reducible rfl))
        try simp only [Act.put, List.setIfInBounds_toArray, List.set_cons_zero, List.set_cons_succ]
        refine wpM_take (i := 2) (oi := ⟨some 48, _, _, _, _, _⟩) (v := ?_) rfl (by decide +kernel) (by decide +kernel) (by decide +kernel) (fun _ _ _ h => h) (Or.inl ⟨by rfl, ?_⟩) c0d ?_
        case refine_2 => (intro w hSw; (try dsimp only at hSw); go_simp; try (with_reducible rfl))
        try simp only [Act.put, List.setIfInBounds_toArray, List.set_cons_zero, List.set_cons_succ]
        refine wpM_take (i := 3) (oi := ⟨some 49, _, _, _, _, _⟩) (v := ?_) rfl (by decide +kernel) (by decide +kernel) (by decide +kernel) (fun _ _ _ h => h) (Or.inl ⟨by rfl, ?_⟩) c0d ?_
        case refine_2 => (intro w hSw; (try dsimp only at hSw); go_simp; try (with_reducible rfl))
        try simp only [Act.put, List.setIfInBounds_toArray, List.set_cons_zero, List.set_cons_succ]
        refine wpM_take (i := 4) (oi := ⟨some 50, _, _, _, _, _⟩) (v := ?_) rfl (by decide +kernel) (by decide +kernel) (by decide +kernel) (fun _ _ _ h => h) (Or.inl ⟨by rfl, ?_⟩) c0d ?_
        case refine_2 => (intro w hSw; (try dsimp only at hSw); go_simp; try (with_reducible rfl))
        try simp only [Act.put, List.setIfInBounds_toArray, List.set_cons_zero, List.set_cons_succ]
        refine wpM_take (i := 5) (oi := ⟨some 51, _, _, _, _, _⟩) (v := ?_) rfl (by decide +kernel) (by decide +kernel) (by decide +kernel) (fun _ _ _ h => h) (Or.inl ⟨by rfl, ?_⟩) c0d ?_
        case refine_2 => (intro w hSw; (try dsimp only at hSw); go_simp; try (with_reducible rfl))
        try simp only [Act.put, List.setIfInBounds_toArray, List.set_cons_zero, List.set_cons_succ]
        refine wpM_take (i := 6) (oi := ⟨some 52, _, _, _, _, _⟩) (v := ?_) rfl (by decide +kernel) (by decide +kernel) (by decide +kernel) (fun _ _ _ h => h) (Or.inl ⟨by rfl, ?_⟩) c0d ?_
        case refine_2 => (intro w hSw; (try dsimp only at hSw); go_simp; try (with_reducible rfl))
        try simp only [Act.put, List.setIfInBounds_toArray, List.set_cons_zero, List.set_cons_succ]
        refine wpM_take (i := 7) (oi := ⟨some 53, _, _, _, _, _⟩) (v := ?_) rfl (by decide +kernel) (by decide +kernel) (by decide +kernel) (fun _ _ _ h => h) (Or.inl ⟨by rfl, ?_⟩) c0d ?_
        case refine_2 => (intro w hSw; (try dsimp only at hSw); go_simp; try (with_reducible rfl))
        try simp only [Act.put, List.setIfInBounds_toArray, List.set_cons_zero, List.set_cons_succ]
        refine wpM_take (i := 8) (oi := ⟨some 54, _, _, _, _, _⟩) (v := ?_) rfl (by decide +kernel) (by decide +kernel) (by decide +kernel) (fun _ _ _ h => h) (Or.inl ⟨by rfl, ?_⟩) c0d ?_
        case refine_2 => (intro w hSw; (try dsimp only at hSw); go_simp; try (with_reducible rfl))
        try simp only [Act.put, List.setIfInBounds_toArray, List.set_cons_zero, List.set_cons_succ]
        refine wpM_step (i := 9) (o := ⟨some 55, _, _, _, _, _⟩) rfl (by decide +kernel) (by decide) (fun K hK => ?_)
        go_simp
        go_at_call 47
        refine (sec_any F _ g p _ (HLL.out.below (below_drew (Below.refl _ _))) he _ m' cap' _ HCH.out.at (by omega)).mono ?_
        rintro e W3 ⟨rfl, hk3, hb3⟩
        have c0e := keepcell hb3 c0d
        have hb3' : Below wr.heap.size wr W3 := (below_drew (Below.refl _ _)).trans hb3
        have HB3 := Lib.hid hb3'
        have HK3 := Lib.hid (show Blk W3 wr.heap.size 5 (bc (wsec L.e (d.take 59))).toArray from hk3)
        clear hk3 hb3 hb3'
        refine hK.out _ _ c0e ?_
        clear hK K
        try simp only [Act.put, List.setIfInBounds_toArray, List.set_cons_zero, List.set_cons_succ]
        refine wpM_done (by decide +kernel) ?_
        simp only [List.drop_succ_cons, List.drop_zero]
        have HWR := Lib.hid (Write_any W3 p q s' (HDD.out.below HB3.out) (by omega) ((sd + j : Nat) : Int) (some ⟨wr.heap.size, 0, none⟩) 64 64 (wsec L.e (d.take 59)) (ba_of_blk HK3.out (wsec_len _ _ (take59 d)) (HDD.out.fresh (Nat.le_refl _))) (Nat.le_refl _))
        go_wp2_with fail
        refine HWR.out.mono ?_
        rintro e W4 ⟨rfl, hd4, hc4⟩
        have HD4 := Lib.hid hd4
        have HB4 := Lib.hid (HD1.out.below HB3.out |>.chg (hc4.mono (fun k hk => by rcases hk with e | e <;> rw [e] <;> assumption)))
        have HL4 := Lib.hid ((HLL.out.below HB3.out).chg hc4 (fun k hk => by rcases hk with e | e <;> rw [e] <;> assumption) hgp)
        have HC4 := Lib.hid (HC.out.trans ((Chg.of_below HB3.out).trans (hc4.mono (fun _ => G3_pq))))
        have hx4 := St.Wr_x s' ((sd + j : Nat) : Int) (wsec L.e (d.take 59))
        have hs4 : w.heap.size ≤ W4.heap.size := HC4.out.size
        clear hd4 hc4 HWR HLL HDD HC HCH HK3 HB3 HD1 c0d c0e
        obtain ⟨s4, cd, hs4e⟩ : ∃ a b, s'.Wr ((sd + j : Nat) : Int) (wsec L.e (d.take 59)) = (a, b) := ⟨_, _, rfl⟩
        rw [hs4e] at HD4 hx4
        rw [hs4e]
        have HSE := Lib.hid hs4e
        simp only at HD4 hx4
        clear hs4e
        by_cases hcd : cd = 0
        · subst hcd
          have HW2 : Hid (wl L.e s sd DT = wl L.e s4 (sd + (j + 1)) (d.drop 59)) := Lib.hid (by
            rw [HWL.out, wl_ok hdne (by rw [HSE.out]), HSE.out]
            rfl)
          obtain ⟨A9, cap9, hblk, -⟩ := HL4.out
          have c5 : W4.cell? ⟨g, 5, none⟩ = some (.slice A9 tl.length cap9) := hblk.cell 5
          have f5 : W4.frozen? ⟨g, 5, none⟩ = false := Joins.unfrozen_of_block hblk 5
          clear hblk
          have HL5 := Lib.hid (HL4.out.setT (A := none) (n := 0) (c := 0) (tl := []) hg ⟨rfl, fun h => absurd h (by omega)⟩ (Nat.le_refl _) (by decide))
          have hc5 : Chg (fun k => k = g) W4 (W4.setCell ⟨g, 5, none⟩ (.slice none 0 0)) := (Chg.refl _ _).set_ rfl
          have HD5 := Lib.hid (HD4.out.chg hc5 (fun e => hgp (.inl e.symm)) (fun e => hgp (.inr e.symm)))
          have HB5 := Lib.hid (HB4.out.chg (hc5.mono (fun k e => by rw [e]; exact hg)))
          have HC5 := Lib.hid (HC4.out.trans (hc5.mono (fun k e => .inr (.inr e))))
          clear hc5
          go_wp2_with fail
          obtain ⟨W5, hW5⟩ : ∃ W, W = W4.setCell ⟨g, 5, none⟩ (.slice none 0 0) := ⟨_, rfl⟩
          rw [← hW5] at HL5 HD5 HB5 HC5 ⊢
          clear hW5 HL4 HD4 HB4 HC4 c5 f5
          refine (Clone_any F W5 (fun k hk => Nat.lt_of_lt_of_le (HFB.out k hk) HC5.out.size) ⟨db, doff, none⟩ m' cap' d HB5.out.at (by omega)).mono ?_
          rintro e W6 ⟨A6, c6, rfl, hb6, hc6, hc6', hbl6⟩
          have HL6 := Lib.hid (HL5.out.below hbl6)
          have HD6 := Lib.hid (HD5.out.below hbl6)
          have HB6 := Lib.hid (HB5.out.below hbl6)
          have HC6 := Lib.hid (HC5.out.trans (Chg.of_below hbl6))
          have HT6 := Lib.hid hb6
          clear hb6 hbl6
          obtain ⟨A9, cap9, hblk, -⟩ := HL6.out
          have c5 : W6.cell? ⟨g, 5, none⟩ = some (.slice A9 ([] : List UInt8).length cap9) := hblk.cell 5
          have f5 : W6.frozen? ⟨g, 5, none⟩ = false := Joins.unfrozen_of_block hblk 5
          clear hblk
          have HL7 := Lib.hid (HL6.out.setT (A := A6) (n := m') (c := c6) (tl := d) hg HT6.out hc6 hc6')
          have hc7 : Chg (fun k => k = g) W6 (W6.setCell ⟨g, 5, none⟩ (.slice A6 m' c6)) := (Chg.refl _ _).set_ rfl
          have HD7 := Lib.hid (HD6.out.chg hc7 (fun e => hgp (.inl e.symm)) (fun e => hgp (.inr e.symm)))
          have HB7 := Lib.hid (HB6.out.chg (hc7.mono (fun k e => by rw [e]; exact hg)))
          have HC7 := Lib.hid (HC6.out.trans (hc7.mono (fun k e => .inr (.inr e))))
          clear hc7
          go_wp2
          go_roundw
          case rel => exact ⟨j + 1, m' - m', cap' - m', (if cap' = m' then some ⟨db, doff, none⟩ else some ⟨db, doff + m', none⟩), d.drop 59, s4, d, by simp, by go_num, by
            rw [List.drop_of_length_le (by rw [HDL1.out]; omega)]
            exact BA.nil_ _ _ _ (by omega) rfl, by omega, by omega, by omega, HW2.out, fun h => by
            have e1 := HT2.out hdne
            rw [tailOf_short (by rw [HDL1.out]; omega)] at e1
            exact e1, fun h => absurd (List.drop_of_length_le (by rw [HDL1.out]; omega)) h, HD7.out, HL7.out, by omega, HC7.out⟩
          case measure => simp <;> omega
        · have hq1 : (cd == 0) = false := by simpa using hcd
          have hq2 : (cd != 0) = true := by simpa using hcd
          have HAP : Hid (L.app s b = (L, s4, cd)) := Lib.hid (by
            unfold Lg.app
            rw [HFRM.out, HBL.out, if_neg (by omega), if_neg (by rw [hsf]; decide), HSD.out, HDT.out, HWL.out, wl_bad hdne (by rw [HSE.out]; exact hcd), HSE.out, if_neg hcd])
          go_wp2
          go_ret
          rw [HAP.out]
          exact ⟨rfl, HD4.out, fun e => absurd e hcd, HC4.out⟩
      · by_cases h59e : m' = 59
        · subst h59e
          have c0d : wr.drew.cell? ⟨g, 0, none⟩ = some (.pointer (some ⟨p, 0, none⟩)) := c0
          have hnc : (59 : Int) ≤ (cap' : Int) := by omega
          have hn0 : (0 : Int) ≤ 59 := by omega
          have HCH := Lib.hid (show BA F wr.drew (some ⟨db, doff, none⟩) 59 (d.take 59) from HD1.out.take_ (k := 59) (by omega))
          go_wp2_with fail
          refine wp_region_mix 10 (fun w' => w'.cell? ⟨g, 0, none⟩ = some (.pointer (some ⟨p, 0, none⟩))) (by kernel_rfl) (by decide) ?_
          refine wpM_take (i := 0) (oi := ⟨some 46, _, _, _, _, _⟩) (v := ?_) rfl (by decide +kernel) (by decide +kernel) (by decide +kernel) (fun _ _ _ h => h) (Or.inl ⟨by rfl, ?_⟩) c0d ?_
          case refine_2 => (intro w hSw; (try dsimp only at hSw); go_simp; try (with_reducible rfl))
          try simp only [Act.put, List.setIfInBounds_toArray, List.set_cons_zero, List.set_cons_succ]
          refine wpM_take (i := 1) (oi := ⟨some 47, _, _, _, _, _⟩) (v := ?_) rfl (by decide +kernel) (by decide +kernel) (by decide +kernel) (fun _ _ _ h => h) (Or.inl ⟨by rfl, ?_⟩) c0d ?_
          case refine_2 => (intro w hSw; (try dsimp only at hSw); go_simp; try (with_reducible rfl))
          try simp only [Act.put, List.setIfInBounds_toArray, List.set_cons_zero, List.set_cons_succ]
          refine wpM_take (i := 2) (oi := ⟨some 48, _, _, _, _, _⟩) (v := ?_) rfl (by decide +kernel) (by decide +kernel) (by decide +kernel) (fun _ _ _ h => h) (Or.inl ⟨by rfl, ?_⟩) c0d ?_
          case refine_2 => (intro w hSw; (try dsimp only at hSw); go_simp; try (with_reducible rfl))
          try simp only [Act.put, List.setIfInBounds_toArray, List.set_cons_zero, List.set_cons_succ]
          refine wpM_take (i := 3) (oi := ⟨some 49, _, _, _, _, _⟩) (v := ?_) rfl (by decide +kernel) (by decide +kernel) (by decide +kernel) (fun _ _ _ h => h) (Or.inl ⟨by rfl, ?_⟩) c0d ?_
          case refine_2 => (intro w hSw; (try dsimp only at hSw); go_simp; try (with_reducible rfl))
          try simp only [Act.put, List.setIfInBounds_toArray, List.set_cons_zero, List.set_cons_succ]
          refine wpM_take (i := 4) (oi := ⟨some 50, _, _, _, _, _⟩) (v := ?_) rfl (by decide +kernel) (by decide +kernel) (by decide +kernel) (fun _ _ _ h => h) (Or.inl ⟨by rfl, ?_⟩) c0d ?_
          case refine_2 => (intro w hSw; (try dsimp only at hSw); go_simp; try (with_reducible rfl))
          try simp only [Act.put, List.setIfInBounds_toArray, List.set_cons_zero, List.set_cons_succ]
          refine wpM_take (i := 5) (oi := ⟨some 51, _, _, _, _, _⟩) (v := ?_) rfl (by decide +kernel) (by decide +kernel) (by decide +kernel) (fun _ _ _ h => h) (Or.inl ⟨by rfl, ?_⟩) c0d ?_
          case refine_2 => (intro w hSw; (try dsimp only at hSw); go_simp; try (with_reducible rfl))
          try simp only [Act.put, List.setIfInBounds_toArray, List.set_cons_zero, List.set_cons_succ]
          refine wpM_take (i := 6) (oi := ⟨some 52, _, _, _, _, _⟩) (v := ?_) rfl (by decide +kernel) (by decide +kernel) (by decide +kernel) (fun _ _ _ h => h) (Or.inl ⟨by rfl, ?_⟩) c0d ?_
          case refine_2 => (intro w hSw; (try dsimp only at hSw); go_simp; try (with_reducible rfl))
          try simp only [Act.put, List.setIfInBounds_toArray, List.set_cons_zero, List.set_cons_succ]
          refine wpM_take (i := 7) (oi := ⟨some 53, _, _, _, _, _⟩) (v := ?_) rfl (by decide +kernel) (by decide +kernel) (by decide +kernel) (fun _ _ _ h => h) (Or.inl ⟨by rfl, ?_⟩) c0d ?_
          case refine_2 => (intro w hSw; (try dsimp only at hSw); go_simp; try (with_reducible rfl))
          try simp only [Act.put, List.setIfInBounds_toArray, List.set_cons_zero, List.set_cons_succ]
          refine wpM_take (i := 8) (oi := ⟨some 54, _, _, _, _, _⟩) (v := ?_) rfl (by decide +kernel) (by decide +kernel) (by decide +kernel) (fun _ _ _ h => h) (Or.inl ⟨by rfl, ?_⟩) c0d ?_
          case refine_2 => (intro w hSw; (try dsimp only at hSw); go_simp; try (with_reducible rfl))
          try simp only [Act.put, List.setIfInBounds_toArray, List.set_cons_zero, List.set_cons_succ]
          refine wpM_step (i := 9) (o := ⟨some 55, _, _, _, _, _⟩) rfl (by decide +kernel) (by decide) (fun K hK => ?_)
          go_simp
          go_at_call 47
          refine (sec_any F _ g p _ (HLL.out.below (below_drew (Below.refl _ _))) he _ 59 cap' _ HCH.out.at (by omega)).mono ?_
          rintro e W3 ⟨rfl, hk3, hb3⟩
          have c0e := keepcell hb3 c0d
          have hb3' : Below wr.heap.size wr W3 := (below_drew (Below.refl _ _)).trans hb3
          have HB3 := Lib.hid hb3'
          have HK3 := Lib.hid (show Blk W3 wr.heap.size 5 (bc (wsec L.e (d.take 59))).toArray from hk3)
          clear hk3 hb3 hb3'
          refine hK.out _ _ c0e ?_
          clear hK K
          try simp only [Act.put, List.setIfInBounds_toArray, List.set_cons_zero, List.set_cons_succ]
          refine wpM_done (by decide +kernel) ?_
          simp only [List.drop_succ_cons, List.drop_zero]
          have HWR := Lib.hid (Write_any W3 p q s' (HDD.out.below HB3.out) (by omega) ((sd + j : Nat) : Int) (some ⟨wr.heap.size, 0, none⟩) 64 64 (wsec L.e (d.take 59)) (ba_of_blk HK3.out (wsec_len _ _ (take59 d)) (HDD.out.fresh (Nat.le_refl _))) (Nat.le_refl _))
          go_wp2_with fail
          refine HWR.out.mono ?_
          rintro e W4 ⟨rfl, hd4, hc4⟩
          have HD4 := Lib.hid hd4
          have HB4 := Lib.hid (HD1.out.below HB3.out |>.chg (hc4.mono (fun k hk => by rcases hk with e | e <;> rw [e] <;> assumption)))
          have HL4 := Lib.hid ((HLL.out.below HB3.out).chg hc4 (fun k hk => by rcases hk with e | e <;> rw [e] <;> assumption) hgp)
          have HC4 := Lib.hid (HC.out.trans ((Chg.of_below HB3.out).trans (hc4.mono (fun _ => G3_pq))))
          have hx4 := St.Wr_x s' ((sd + j : Nat) : Int) (wsec L.e (d.take 59))
          have hs4 : w.heap.size ≤ W4.heap.size := HC4.out.size
          clear hd4 hc4 HWR HLL HDD HC HCH HK3 HB3 HD1 c0d c0e
          obtain ⟨s4, cd, hs4e⟩ : ∃ a b, s'.Wr ((sd + j : Nat) : Int) (wsec L.e (d.take 59)) = (a, b) := ⟨_, _, rfl⟩
          rw [hs4e] at HD4 hx4
          rw [hs4e]
          have HSE := Lib.hid hs4e
          simp only at HD4 hx4
          clear hs4e
          by_cases hcd : cd = 0
          · subst hcd
            have HW2 : Hid (wl L.e s sd DT = wl L.e s4 (sd + (j + 1)) (d.drop 59)) := Lib.hid (by
              rw [HWL.out, wl_ok hdne (by rw [HSE.out]), HSE.out]
              rfl)
            obtain ⟨A9, cap9, hblk, -⟩ := HL4.out
            have c5 : W4.cell? ⟨g, 5, none⟩ = some (.slice A9 tl.length cap9) := hblk.cell 5
            have f5 : W4.frozen? ⟨g, 5, none⟩ = false := Joins.unfrozen_of_block hblk 5
            clear hblk
            have HL5 := Lib.hid (HL4.out.setT (A := none) (n := 0) (c := 0) (tl := []) hg ⟨rfl, fun h => absurd h (by omega)⟩ (Nat.le_refl _) (by decide))
            have hc5 : Chg (fun k => k = g) W4 (W4.setCell ⟨g, 5, none⟩ (.slice none 0 0)) := (Chg.refl _ _).set_ rfl
            have HD5 := Lib.hid (HD4.out.chg hc5 (fun e => hgp (.inl e.symm)) (fun e => hgp (.inr e.symm)))
            have HB5 := Lib.hid (HB4.out.chg (hc5.mono (fun k e => by rw [e]; exact hg)))
            have HC5 := Lib.hid (HC4.out.trans (hc5.mono (fun k e => .inr (.inr e))))
            clear hc5
            go_wp2
            go_roundw
            case rel => exact ⟨j + 1, 59 - 59, cap' - 59, (if cap' = 59 then some ⟨db, doff, none⟩ else some ⟨db, doff + 59, none⟩), d.drop 59, s4, [], by simp, by go_num, BA.nil_ _ _ _ (by omega) (by rw [List.length_drop, HDL1.out]), by omega, by omega, by omega, HW2.out, fun h => by
              have e1 := HT2.out hdne
              rw [← tailOf_more (by rw [HDL1.out]; omega), h] at e1
              exact e1, fun h => by
              have e1 := HT2.out hdne
              rw [← tailOf_more (by rw [HDL1.out]; omega)] at e1
              exact e1, HD5.out, HL5.out, by omega, HC5.out⟩
            case measure => simp <;> omega
          · have hq1 : (cd == 0) = false := by simpa using hcd
            have hq2 : (cd != 0) = true := by simpa using hcd
            have HAP : Hid (L.app s b = (L, s4, cd)) := Lib.hid (by
              unfold Lg.app
              rw [HFRM.out, HBL.out, if_neg (by omega), if_neg (by rw [hsf]; decide), HSD.out, HDT.out, HWL.out, wl_bad hdne (by rw [HSE.out]; exact hcd), HSE.out, if_neg hcd])
            go_wp2
            go_ret
            rw [HAP.out]
            exact ⟨rfl, HD4.out, fun e => absurd e hcd, HC4.out⟩
        · have h59i : (59 : Int) < (m' : Int) := by omega
          have h59c : ¬ cap' = 59 := by omega
          have c0d : wr.drew.cell? ⟨g, 0, none⟩ = some (.pointer (some ⟨p, 0, none⟩)) := c0
          have hnc : (59 : Int) ≤ (cap' : Int) := by omega
          have hn0 : (0 : Int) ≤ 59 := by omega
          have HCH := Lib.hid (show BA F wr.drew (some ⟨db, doff, none⟩) 59 (d.take 59) from HD1.out.take_ (k := 59) (by omega))
          go_wp2_with fail
          refine wp_region_mix 10 (fun w' => w'.cell? ⟨g, 0, none⟩ = some (.pointer (some ⟨p, 0, none⟩))) (by kernel_rfl) (by decide) ?_
          refine wpM_take (i := 0) (oi := ⟨some 46, _, _, _, _, _⟩) (v := ?_) rfl (by decide +kernel) (by decide +kernel) (by decide +kernel) (fun _ _ _ h => h) (Or.inl ⟨by rfl, ?_⟩) c0d ?_
          case refine_2 => (intro w hSw; (try dsimp only at hSw); go_simp; try (with_reducible rfl))
          try simp only [Act.put, List.setIfInBounds_toArray, List.set_cons_zero, List.set_cons_succ]
          refine wpM_take (i := 1) (oi := ⟨some 47, _, _, _, _, _⟩) (v := ?_) rfl (by decide +kernel) (by decide +kernel) (by decide +kernel) (fun _ _ _ h => h) (Or.inl ⟨by rfl, ?_⟩) c0d ?_
          case refine_2 => (intro w hSw; (try dsimp only at hSw); go_simp; try (with_reducible rfl))
          try simp only [Act.put, List.setIfInBounds_toArray, List.set_cons_zero, List.set_cons_succ]
          refine wpM_take (i := 2) (oi := ⟨some 48, _, _, _, _, _⟩) (v := ?_) rfl (by decide +kernel) (by decide +kernel) (by decide +kernel) (fun _ _ _ h => h) (Or.inl ⟨by rfl, ?_⟩) c0d ?_
          case refine_2 => (intro w hSw; (try dsimp only at hSw); go_simp; try (with_reducible rfl))
          try simp only [Act.put, List.setIfInBounds_toArray, List.set_cons_zero, List.set_cons_succ]
          refine wpM_take (i := 3) (oi := ⟨some 49, _, _, _, _, _⟩) (v := ?_) rfl (by decide +kernel) (by decide +kernel) (by decide +kernel) (fun _ _ _ h => h) (Or.inl ⟨by rfl, ?_⟩) c0d ?_
          case refine_2 => (intro w hSw; (try dsimp only at hSw); go_simp; try (with_reducible rfl))
          try simp only [Act.put, List.setIfInBounds_toArray, List.set_cons_zero, List.set_cons_succ]
          refine wpM_take (i := 4) (oi := ⟨some 50, _, _, _, _, _⟩) (v := ?_) rfl (by decide +kernel) (by decide +kernel) (by decide +kernel) (fun _ _ _ h => h) (Or.inl ⟨by rfl, ?_⟩) c0d ?_
          case refine_2 => (intro w hSw; (try dsimp only at hSw); go_simp; try (with_reducible rfl))
          try simp only [Act.put, List.setIfInBounds_toArray, List.set_cons_zero, List.set_cons_succ]
          refine wpM_take (i := 5) (oi := ⟨some 51, _, _, _, _, _⟩) (v := ?_) rfl (by decide +kernel) (by decide +kernel) (by decide +kernel) (fun _ _ _ h => h) (Or.inl ⟨by rfl, ?_⟩) c0d ?_
          case refine_2 => (intro w hSw; (try dsimp only at hSw); go_simp; try (with_reducible rfl))
          try simp only [Act.put, List.setIfInBounds_toArray, List.set_cons_zero, List.set_cons_succ]
          refine wpM_take (i := 6) (oi := ⟨some 52, _, _, _, _, _⟩) (v := ?_) rfl (by decide +kernel) (by decide +kernel) (by decide +kernel) (fun _ _ _ h => h) (Or.inl ⟨by rfl, ?_⟩) c0d ?_
          case refine_2 => (intro w hSw; (try dsimp only at hSw); go_simp; try (with_reducible rfl))
          try simp only [Act.put, List.setIfInBounds_toArray, List.set_cons_zero, List.set_cons_succ]
          refine wpM_take (i := 7) (oi := ⟨some 53, _, _, _, _, _⟩) (v := ?_) rfl (by decide +kernel) (by decide +kernel) (by decide +kernel) (fun _ _ _ h => h) (Or.inl ⟨by rfl, ?_⟩) c0d ?_
          case refine_2 => (intro w hSw; (try dsimp only at hSw); go_simp; try (with_reducible rfl))
          try simp only [Act.put, List.setIfInBounds_toArray, List.set_cons_zero, List.set_cons_succ]
          refine wpM_take (i := 8) (oi := ⟨some 54, _, _, _, _, _⟩) (v := ?_) rfl (by decide +kernel) (by decide +kernel) (by decide +kernel) (fun _ _ _ h => h) (Or.inl ⟨by rfl, ?_⟩) c0d ?_
          case refine_2 => (intro w hSw; (try dsimp only at hSw); go_simp; try (with_reducible rfl))
          try simp only [Act.put, List.setIfInBounds_toArray, List.set_cons_zero, List.set_cons_succ]
          refine wpM_step (i := 9) (o := ⟨some 55, _, _, _, _, _⟩) rfl (by decide +kernel) (by decide) (fun K hK => ?_)
          go_simp
          go_at_call 47
          refine (sec_any F _ g p _ (HLL.out.below (below_drew (Below.refl _ _))) he _ 59 cap' _ HCH.out.at (by omega)).mono ?_
          rintro e W3 ⟨rfl, hk3, hb3⟩
          have c0e := keepcell hb3 c0d
          have hb3' : Below wr.heap.size wr W3 := (below_drew (Below.refl _ _)).trans hb3
          have HB3 := Lib.hid hb3'
          have HK3 := Lib.hid (show Blk W3 wr.heap.size 5 (bc (wsec L.e (d.take 59))).toArray from hk3)
          clear hk3 hb3 hb3'
          refine hK.out _ _ c0e ?_
          clear hK K
          try simp only [Act.put, List.setIfInBounds_toArray, List.set_cons_zero, List.set_cons_succ]
          refine wpM_done (by decide +kernel) ?_
          simp only [List.drop_succ_cons, List.drop_zero]
          have HWR := Lib.hid (Write_any W3 p q s' (HDD.out.below HB3.out) (by omega) ((sd + j : Nat) : Int) (some ⟨wr.heap.size, 0, none⟩) 64 64 (wsec L.e (d.take 59)) (ba_of_blk HK3.out (wsec_len _ _ (take59 d)) (HDD.out.fresh (Nat.le_refl _))) (Nat.le_refl _))
          go_wp2_with fail
          refine HWR.out.mono ?_
          rintro e W4 ⟨rfl, hd4, hc4⟩
          have HD4 := Lib.hid hd4
          have HB4 := Lib.hid (HD1.out.below HB3.out |>.chg (hc4.mono (fun k hk => by rcases hk with e | e <;> rw [e] <;> assumption)))
          have HL4 := Lib.hid ((HLL.out.below HB3.out).chg hc4 (fun k hk => by rcases hk with e | e <;> rw [e] <;> assumption) hgp)
          have HC4 := Lib.hid (HC.out.trans ((Chg.of_below HB3.out).trans (hc4.mono (fun _ => G3_pq))))
          have hx4 := St.Wr_x s' ((sd + j : Nat) : Int) (wsec L.e (d.take 59))
          have hs4 : w.heap.size ≤ W4.heap.size := HC4.out.size
          clear hd4 hc4 HWR HLL HDD HC HCH HK3 HB3 HD1 c0d c0e
          obtain ⟨s4, cd, hs4e⟩ : ∃ a b, s'.Wr ((sd + j : Nat) : Int) (wsec L.e (d.take 59)) = (a, b) := ⟨_, _, rfl⟩
          rw [hs4e] at HD4 hx4
          rw [hs4e]
          have HSE := Lib.hid hs4e
          simp only at HD4 hx4
          clear hs4e
          by_cases hcd : cd = 0
          · subst hcd
            have HW2 : Hid (wl L.e s sd DT = wl L.e s4 (sd + (j + 1)) (d.drop 59)) := Lib.hid (by
              rw [HWL.out, wl_ok hdne (by rw [HSE.out]), HSE.out]
              rfl)
            obtain ⟨A9, cap9, hblk, -⟩ := HL4.out
            have c5 : W4.cell? ⟨g, 5, none⟩ = some (.slice A9 tl.length cap9) := hblk.cell 5
            have f5 : W4.frozen? ⟨g, 5, none⟩ = false := Joins.unfrozen_of_block hblk 5
            clear hblk
            have HL5 := Lib.hid (HL4.out.setT (A := none) (n := 0) (c := 0) (tl := []) hg ⟨rfl, fun h => absurd h (by omega)⟩ (Nat.le_refl _) (by decide))
            have hc5 : Chg (fun k => k = g) W4 (W4.setCell ⟨g, 5, none⟩ (.slice none 0 0)) := (Chg.refl _ _).set_ rfl
            have HD5 := Lib.hid (HD4.out.chg hc5 (fun e => hgp (.inl e.symm)) (fun e => hgp (.inr e.symm)))
            have HB5 := Lib.hid (HB4.out.chg (hc5.mono (fun k e => by rw [e]; exact hg)))
            have HC5 := Lib.hid (HC4.out.trans (hc5.mono (fun k e => .inr (.inr e))))
            clear hc5
            go_wp2
            go_roundw
            case rel => exact ⟨j + 1, m' - 59, _, _, d.drop 59, s4, [], rfl, by go_num, HB5.out.drop_ (by omega), by omega, by omega, by omega, HW2.out, fun h => by
              have e1 := HT2.out hdne
              rw [← tailOf_more (by rw [HDL1.out]; omega), h] at e1
              exact e1, fun h => by
              have e1 := HT2.out hdne
              rw [← tailOf_more (by rw [HDL1.out]; omega)] at e1
              exact e1, HD5.out, HL5.out, by omega, HC5.out⟩
            case measure => simp <;> omega
          · have hq1 : (cd == 0) = false := by simpa using hcd
            have hq2 : (cd != 0) = true := by simpa using hcd
            have HAP : Hid (L.app s b = (L, s4, cd)) := Lib.hid (by
              unfold Lg.app
              rw [HFRM.out, HBL.out, if_neg (by omega), if_neg (by rw [hsf]; decide), HSD.out, HDT.out, HWL.out, wl_bad hdne (by rw [HSE.out]; exact hcd), HSE.out, if_neg hcd])
            go_wp2
            go_ret
            rw [HAP.out]
            exact ⟨rfl, HD4.out, fun e => absurd e hcd, HC4.out⟩
end Go.Proofs.Ytgpofkabidginaa
