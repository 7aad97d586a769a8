/- Srr Srt in one text. -/
import Derived.Test.YthhpilkhcomhbaaDoorSnb
import Derived.Test.YthhpilkhcomhbaaDoorSrs
namespace Go.Proofs.YthhpilkhcomhbaaDoor
open Go.ChangeShapes Go.WideShapes Go.ChangeAt Go.RowKit Go.ChangeMaps
section
theorem own_take {w : World} {B : Nat} {A : Option Addr} {n c m : Nat} {l : List UInt8} (h : w.ownsRow B 5 1 (.slice A n c) l.length (bc l)) (hm : m ≤ l.length) : w.ownsRow B 5 1 (.slice A m c) (l.take m).length (bc (l.take m)) := by
  have hl : (l.take m).length = m := by rw [List.length_take]; omega
  have hb : bc (l.take m) = (bc l).take m := by unfold bc; rw [List.map_take]
  rw [hl, hb]
  obtain ⟨h0, h1⟩ := h
  refine ⟨by rw [List.length_take, h0]; omega, ?_⟩
  rcases h1 with ⟨h2, h3⟩ | ⟨g, cap, cur, e, hg, hh, hnc, hcap, hsz, htake⟩
  · injection h2 with e1 e2 e3
    subst e1 e3
    have : m = 0 := by omega
    subst this
    exact .inl ⟨rfl, rfl⟩
  · injection e with e1 e2 e3
    subst e1 e3
    refine .inr ⟨g, c, cur, rfl, hg, hh, by omega, hcap, hsz, ?_⟩
    rw [Nat.mul_one] at htake ⊢
    rw [← htake, List.take_take, Nat.min_eq_left hm]
theorem flat_take {f : Nat → List UInt8} {m n len : Nat} (h64 : ∀ i, i < n → (f i).length = 64) (hmn : m ≤ n) (hlen : len ≤ 64 * m) : ((List.range n).flatMap f).take len = ((List.range m).flatMap f).take len := by
  have e : List.range n = List.range m ++ (List.range (n - m)).map (m + ·) := by rw [← List.range_add, show m + (n - m) = n by omega]
  rw [e, List.flatMap_append, List.take_append_of_le_length (by rw [flat64_len m (fun i hi => h64 i (by omega))]; exact hlen)]
theorem flat_snoc (f : Nat → List UInt8) (i : Nat) : (List.range (i + 1)).flatMap f = (List.range i).flatMap f ++ f i := by rw [List.range_succ, List.flatMap_append]; simp
theorem bytes_mid {w : World} {b off n : Nat} {l : List UInt8} (h : BytesAt w (some ⟨b, off, none⟩) n l) {k m : Nat} (hk : k + m ≤ n) : BytesAt w (some ⟨b, off + k, none⟩) m ((l.drop k).take m) := bytes_part h hk
set_option maxRecDepth 100000 in
set_option maxHeartbeats 1000000 in
theorem RSR_fail (F : Nat → Prop) (w : World) (r t : Nat) (s : St) (h : Rk F w r t s) (hf : s.f = true) : Calls Tryd.prog 34 #[.pointer (some ⟨r, 0, none⟩)] w (GivesR w (SR s).1 (SR s).2.1 (SR s).2.2) := by
  have e0 : SR s = ([], 0, 15) := by unfold SR; rw [if_pos hf]
  rw [e0]
  have HC := Lib.hid (begin_fail w r t s h hf)
  unfold lay0 at HC
  clear h e0 hf
  go_enter Tryd.func34, Tryd.ntmps34
  go_wp2_with fail
  refine HC.out.mono ?_
  rintro e1 w1 ⟨rfl, hb⟩
  have HB := Lib.hid hb
  clear hb
  go_wp2
  go_ret3
  have hb2 : Below w1.heap.size w1 (w1.alloc (.cells #[.int .i64 0, .int .i64 0, .int .i64 0, .int .i64 0, .int .i64 0, .int .i64 0, .int .i64 0, .int .i64 0] 28)) := (Below.refl _ w1).alloc (Nat.le_refl _) _
  exact ⟨_, rfl, World.ownsRow_nil _ _ _ _, HB.out.trans (hb2.mono HB.out.size)⟩
set_option maxRecDepth 100000 in
set_option maxHeartbeats 1000000 in
theorem RSR_small (F : Nat → Prop) (w : World) (r t : Nat) (s : St) (h : Rk F w r t s) (hf : s.f = false) (hn7 : s.R.length < 7) : Calls Tryd.prog 34 #[.pointer (some ⟨r, 0, none⟩)] w (GivesR w (SR s).1 (SR s).2.1 (SR s).2.2) := by
  have e0 : SR s = ([], 0, 1) := by unfold SR; rw [if_neg (by rw [hf]; decide), if_pos hn7]
  rw [e0]
  have HC := Lib.hid (begin_small w r t s h hf hn7)
  unfold lay0 at HC
  clear h e0 hf hn7
  go_enter Tryd.func34, Tryd.ntmps34
  go_wp2_with fail
  refine HC.out.mono ?_
  rintro e1 w1 ⟨rfl, hb⟩
  have HB := Lib.hid hb
  clear hb
  go_wp2
  go_ret3
  have hb2 : Below w1.heap.size w1 (w1.alloc (.cells #[.int .i64 0, .int .i64 0, .int .i64 0, .int .i64 0, .int .i64 0, .int .i64 0, .int .i64 0, .int .i64 0] 28)) := (Below.refl _ w1).alloc (Nat.le_refl _) _
  exact ⟨_, rfl, World.ownsRow_nil _ _ _ _, HB.out.trans (hb2.mono HB.out.size)⟩
set_option maxRecDepth 100000 in
set_option maxHeartbeats 1000000 in
theorem RSR_slot (F : Nat → Prop) (w : World) (r t : Nat) (s : St) (h : Rk F w r t s) (hf : s.f = false) (hn7 : 7 ≤ s.R.length) (hsl : 1 < slotOf s) : Calls Tryd.prog 34 #[.pointer (some ⟨r, 0, none⟩)] w (GivesR w (SR s).1 (SR s).2.1 (SR s).2.2) := by
  have e0 : SR s = ([], 0, 17) := by unfold SR; rw [if_neg (by rw [hf]; decide), if_neg (by omega), if_pos hsl]
  rw [e0]
  have HC := Lib.hid (begin_slot w r t s h hf hn7 hsl)
  obtain ⟨ar, har⟩ : ∃ a : Nat, areaOf s.R.length = a := ⟨_, rfl⟩
  obtain ⟨rn, hrn⟩ : ∃ n, s.R.length = n := ⟨_, rfl⟩
  rw [har, hrn] at HC
  unfold layV at HC
  clear h e0 hf hn7 hsl har hrn
  go_enter Tryd.func34, Tryd.ntmps34
  go_wp2_with fail
  refine HC.out.mono ?_
  rintro e1 w1 ⟨rfl, hb⟩
  have HB := Lib.hid hb
  clear hb
  go_wp2
  go_ret3
  have hb2 : Below w1.heap.size w1 (w1.alloc (.cells #[.int .i64 0, .int .i64 1, .int .i64 2, .int .i64 3, .int .i64 (3 + (ar : Int)), .int .i64 (ar : Int), .int .i64 (3 + 2 * (ar : Int)), .int .i64 (rn - (3 + 2 * (ar : Int)))] 28)) := (Below.refl _ w1).alloc (Nat.le_refl _) _
  exact ⟨_, rfl, World.ownsRow_nil _ _ _ _, HB.out.trans (hb2.mono HB.out.size)⟩
set_option maxRecDepth 100000 in
set_option maxHeartbeats 1000000 in
theorem RSR_none0 (F : Nat → Prop) (w : World) (r t : Nat) (s : St) (h : Rk F w r t s) (hf : s.f = false) (hn7 : 7 ≤ s.R.length) (hsl : slotOf s = 0) (hE0 : epochOf s = 0) : Calls Tryd.prog 34 #[.pointer (some ⟨r, 0, none⟩)] w (GivesR w (SR s).1 (SR s).2.1 (SR s).2.2) := by
  have e0 : SR s = ([], 0, 4) := by
    unfold SR
    rw [if_neg (by rw [hf]; decide), if_neg (by omega), if_neg (by omega), if_pos hE0]
  rw [e0]
  have hn2 : s.R.length ≤ 65536 := h.ok.2.2.1
  have hl0 := getD_len64 (i := 1 + 0) h.ok.1 (by omega)
  obtain ⟨ar, har⟩ : ∃ a : Nat, areaOf s.R.length = a := ⟨_, rfl⟩
  have hb16 : 1 ≤ ar ∧ ar ≤ 16383 := by rw [← har]; unfold areaOf; omega
  have HCU := Lib.hid (begin_ok w r t s h hf hn7 (by omega))
  have HE := Lib.hid (show val ((s.R.getD (1 + 0) []).take 4) = epochOf s by unfold epochOf hdOf; rw [hsl])
  have HN := Lib.hid (show val (((s.R.getD (1 + 0) []).drop 4).take 4) = lenOf s by unfold lenOf hdOf; rw [hsl])
  have HS := Lib.hid (show val (((s.R.getD (1 + 0) []).drop 8).take 8) = sumOf s by unfold sumOf hdOf; rw [hsl])
  have HD := Lib.hid h
  have H0 := Lib.hid h
  have hEl := epochOf_lt s
  have hNl := lenOf_lt s
  obtain ⟨E, hE⟩ : ∃ x, epochOf s = x := ⟨_, rfl⟩
  obtain ⟨L, hN⟩ : ∃ x, lenOf s = x := ⟨_, rfl⟩
  obtain ⟨C, hC⟩ : ∃ x, sumOf s = x := ⟨_, rfl⟩
  obtain ⟨rn, hrn⟩ : ∃ n, s.R.length = n := ⟨_, rfl⟩
  have HRN := Lib.hid hrn
  have hr7 : 7 ≤ rn := by omega
  rw [har, hsl, hrn] at HCU
  rw [hE] at HE hE0 hEl
  rw [hN] at HN hNl
  rw [hC] at HS
  unfold layV at HCU
  have hE1 : ((E : Int) == 0) = true := beq_iff_eq.2 (by omega)
  clear h e0 hf hsl hE0 hE hN hC har hrn hn2 hl0
  go_enter Tryd.func34, Tryd.ntmps34
  go_wp2_with fail
  refine HCU.out.mono ?_
  rintro e1 w1 ⟨rfl, hb⟩
  obtain ⟨W, hW⟩ : ∃ W, W = w1.alloc (.cells #[.int .i64 0, .int .i64 1, .int .i64 2, .int .i64 3, .int .i64 (3 + (ar : Int)), .int .i64 (ar : Int), .int .i64 (3 + 2 * (ar : Int)), .int .i64 (rn - (3 + 2 * (ar : Int)))] 28) := ⟨_, rfl⟩
  have hb2 : Below w.heap.size w W := by rw [hW]; exact hb.trans (((Below.refl _ w1).alloc (Nat.le_refl _) _).mono hb.size)
  have HL := Lib.hid (show Blk W w1.heap.size 28 #[.int .i64 0, .int .i64 1, .int .i64 2, .int .i64 3, .int .i64 (3 + (ar : Int)), .int .i64 (ar : Int), .int .i64 (3 + 2 * (ar : Int)), .int .i64 (rn - (3 + 2 * (ar : Int)))] by rw [hW]; exact Blk.new w1 28 _)
  replace HD := Lib.hid (HD.out.below hb2)
  have HB := Lib.hid hb2
  clear hb hb2 HCU
  go_upto_region 2 with fail
  rw [← hW]
  clear hW
  generalize w1.heap.size = gl at *
  obtain ⟨cap2, hcap2, k0, -⟩ := HD.out.cells
  rw [HRN.out] at k0 hcap2
  obtain ⟨A9, c9, k1w, hc9, -, hba, -⟩ := H0.out.sec (1 + 0) (by rw [HRN.out]; omega)
  have k1 : W.cell? ⟨t, 1, none⟩ = some (.slice A9 64 c9) := keepcell HB.out k1w
  obtain ⟨b9, o9, rfl⟩ := hba.at.some (by decide)
  have HBA0 := Lib.hid hba.at
  have HBA := Lib.hid (HBA0.out.below HB.out)
  clear k1w
  have k2 : W.cell? ⟨gl, 1, none⟩ = some (.int .i64 1) := HL.out.cell 1
  have k3 : W.cell? ⟨gl, 5, none⟩ = some (.int .i64 (ar : Int)) := HL.out.cell 5
  have x1 : ((1 : Int) + 0) < rn := by omega
  have x2 : 1 < rn := by omega
  have x3 : (4 : Int) ≤ c9 := by omega
  have x4 : (1 : Int) < rn := by omega
  have x5 : (8 : Int) ≤ c9 := by omega
  have x6 : (16 : Int) ≤ c9 := by omega
  clear hba
  go_wp2_with fail
  go_quiet (fail)
  have hq : Below W.heap.size W (W.drewN nq) := below_drewN (Below.refl _ W)
  replace HD := Lib.hid (HD.out.below hq)
  replace HL := Lib.hid (HL.out.below hq)
  replace HBA := Lib.hid (HBA.out.below hq)
  replace HB := Lib.hid (HB.out.trans (hq.mono HB.out.size))
  have k3 : (W.drewN nq).cell? ⟨gl, 5, none⟩ = some (.int .i64 (ar : Int)) := HL.out.cell 5
  clear hq k0 k1 k2
  generalize W.drewN nq = W at *
  have CV1 := Lib.hid (fun (m : Nat) => value_any (some ⟨b9, o9, none⟩) 4 c9 _ (W.drewN m) (bytes_first (m := 4) (HBA.out.below (below_drewN (Below.refl _ W))) (by decide)) (by decide))
  have CV2 := Lib.hid (fun (m : Nat) => value_any (some ⟨b9, o9 + 4, none⟩) 4 (c9 - 4) _ (W.drewN m) (bytes_mid (k := 4) (m := 4) (HBA.out.below (below_drewN (Below.refl _ W))) (by decide)) (by decide))
  have CV3 := Lib.hid (fun (W' : World) (hW : Below W.heap.size W W') => value_any (some ⟨b9, o9 + 8, none⟩) 8 (c9 - 8) _ W' (bytes_mid (k := 8) (m := 8) (HBA.out.below hW) (by decide)) (by decide))
  rw [HE.out] at CV1
  rw [HN.out] at CV2
  rw [HS.out] at CV3
  go_wp2_with fail
  go_quiet ((first | (go_at_call 42; with_reducible exact Calls.quiet_of_same (CV1.out _)) | (go_at_call 42; with_reducible exact Calls.quiet_of_same (CV2.out _))))
  skip
  go_wp2
  go_ret3
  exact ⟨_, rfl, World.ownsRow_nil _ _ _ _, by first | exact below_drewN (below_drewN HB.out) | exact below_drewN HB.out⟩
set_option maxRecDepth 100000 in
set_option maxHeartbeats 1000000 in
theorem RSR_long0 (F : Nat → Prop) (w : World) (r t : Nat) (s : St) (h : Rk F w r t s) (hf : s.f = false) (hn7 : 7 ≤ s.R.length) (hsl : slotOf s = 0) (hE0 : epochOf s ≠ 0) (hlong : 64 * areaOf s.R.length < lenOf s) : Calls Tryd.prog 34 #[.pointer (some ⟨r, 0, none⟩)] w (GivesR w (SR s).1 (SR s).2.1 (SR s).2.2) := by
  have e0 : SR s = ([], 0, 17) := by
    unfold SR
    rw [if_neg (by rw [hf]; decide), if_neg (by omega), if_neg (by omega), if_neg hE0, if_pos hlong]
  rw [e0]
  have hn2 : s.R.length ≤ 65536 := h.ok.2.2.1
  have hl0 := getD_len64 (i := 1 + 0) h.ok.1 (by omega)
  obtain ⟨ar, har⟩ : ∃ a : Nat, areaOf s.R.length = a := ⟨_, rfl⟩
  have hb16 : 1 ≤ ar ∧ ar ≤ 16383 := by rw [← har]; unfold areaOf; omega
  have HCU := Lib.hid (begin_ok w r t s h hf hn7 (by omega))
  have HE := Lib.hid (show val ((s.R.getD (1 + 0) []).take 4) = epochOf s by unfold epochOf hdOf; rw [hsl])
  have HN := Lib.hid (show val (((s.R.getD (1 + 0) []).drop 4).take 4) = lenOf s by unfold lenOf hdOf; rw [hsl])
  have HS := Lib.hid (show val (((s.R.getD (1 + 0) []).drop 8).take 8) = sumOf s by unfold sumOf hdOf; rw [hsl])
  have HD := Lib.hid h
  have H0 := Lib.hid h
  have hEl := epochOf_lt s
  have hNl := lenOf_lt s
  obtain ⟨E, hE⟩ : ∃ x, epochOf s = x := ⟨_, rfl⟩
  obtain ⟨L, hN⟩ : ∃ x, lenOf s = x := ⟨_, rfl⟩
  obtain ⟨C, hC⟩ : ∃ x, sumOf s = x := ⟨_, rfl⟩
  obtain ⟨rn, hrn⟩ : ∃ n, s.R.length = n := ⟨_, rfl⟩
  have HRN := Lib.hid hrn
  have hr7 : 7 ≤ rn := by omega
  rw [har, hsl, hrn] at HCU
  rw [hE] at HE hE0 hEl
  rw [hN] at HN hNl
  rw [hC] at HS
  unfold layV at HCU
  have hfi : 64 * (ar : Int) < (L : Int) := by omega
  have hE1 : ((E : Int) == 0) = false := beq_eq_false_iff_ne.2 (by omega)
  have hwa : IntKind.i64.wrap (64 * (ar : Int)) = 64 * (ar : Int) := by rw [IntWalk.i64_in _ (by omega)]
  have hwb : IntKind.u64.wrap (64 * (ar : Int)) = 64 * (ar : Int) := by rw [IntKind.wrap_u64]; omega
  have hfj : decide (64 * (ar : Int) < (L : Int)) = true := decide_eq_true hfi
  have hfk : (ar : Int) * 64 < (L : Int) := by omega
  clear h e0 hf hsl hE0 hE hN hC har hrn hn2 hl0 hlong
  go_enter Tryd.func34, Tryd.ntmps34
  go_wp2_with fail
  refine HCU.out.mono ?_
  rintro e1 w1 ⟨rfl, hb⟩
  obtain ⟨W, hW⟩ : ∃ W, W = w1.alloc (.cells #[.int .i64 0, .int .i64 1, .int .i64 2, .int .i64 3, .int .i64 (3 + (ar : Int)), .int .i64 (ar : Int), .int .i64 (3 + 2 * (ar : Int)), .int .i64 (rn - (3 + 2 * (ar : Int)))] 28) := ⟨_, rfl⟩
  have hb2 : Below w.heap.size w W := by rw [hW]; exact hb.trans (((Below.refl _ w1).alloc (Nat.le_refl _) _).mono hb.size)
  have HL := Lib.hid (show Blk W w1.heap.size 28 #[.int .i64 0, .int .i64 1, .int .i64 2, .int .i64 3, .int .i64 (3 + (ar : Int)), .int .i64 (ar : Int), .int .i64 (3 + 2 * (ar : Int)), .int .i64 (rn - (3 + 2 * (ar : Int)))] by rw [hW]; exact Blk.new w1 28 _)
  replace HD := Lib.hid (HD.out.below hb2)
  have HB := Lib.hid hb2
  clear hb hb2 HCU
  go_upto_region 2 with fail
  rw [← hW]
  clear hW
  generalize w1.heap.size = gl at *
  obtain ⟨cap2, hcap2, k0, -⟩ := HD.out.cells
  rw [HRN.out] at k0 hcap2
  obtain ⟨A9, c9, k1w, hc9, -, hba, -⟩ := H0.out.sec (1 + 0) (by rw [HRN.out]; omega)
  have k1 : W.cell? ⟨t, 1, none⟩ = some (.slice A9 64 c9) := keepcell HB.out k1w
  obtain ⟨b9, o9, rfl⟩ := hba.at.some (by decide)
  have HBA0 := Lib.hid hba.at
  have HBA := Lib.hid (HBA0.out.below HB.out)
  clear k1w
  have k2 : W.cell? ⟨gl, 1, none⟩ = some (.int .i64 1) := HL.out.cell 1
  have k3 : W.cell? ⟨gl, 5, none⟩ = some (.int .i64 (ar : Int)) := HL.out.cell 5
  have x1 : ((1 : Int) + 0) < rn := by omega
  have x2 : 1 < rn := by omega
  have x3 : (4 : Int) ≤ c9 := by omega
  have x4 : (1 : Int) < rn := by omega
  have x5 : (8 : Int) ≤ c9 := by omega
  have x6 : (16 : Int) ≤ c9 := by omega
  clear hba
  go_wp2_with fail
  go_quiet (fail)
  have hq : Below W.heap.size W (W.drewN nq) := below_drewN (Below.refl _ W)
  replace HD := Lib.hid (HD.out.below hq)
  replace HL := Lib.hid (HL.out.below hq)
  replace HBA := Lib.hid (HBA.out.below hq)
  replace HB := Lib.hid (HB.out.trans (hq.mono HB.out.size))
  have k3 : (W.drewN nq).cell? ⟨gl, 5, none⟩ = some (.int .i64 (ar : Int)) := HL.out.cell 5
  clear hq k0 k1 k2
  generalize W.drewN nq = W at *
  have CV1 := Lib.hid (fun (m : Nat) => value_any (some ⟨b9, o9, none⟩) 4 c9 _ (W.drewN m) (bytes_first (m := 4) (HBA.out.below (below_drewN (Below.refl _ W))) (by decide)) (by decide))
  have CV2 := Lib.hid (fun (m : Nat) => value_any (some ⟨b9, o9 + 4, none⟩) 4 (c9 - 4) _ (W.drewN m) (bytes_mid (k := 4) (m := 4) (HBA.out.below (below_drewN (Below.refl _ W))) (by decide)) (by decide))
  have CV3 := Lib.hid (fun (W' : World) (hW : Below W.heap.size W W') => value_any (some ⟨b9, o9 + 8, none⟩) 8 (c9 - 8) _ W' (bytes_mid (k := 8) (m := 8) (HBA.out.below hW) (by decide)) (by decide))
  rw [HE.out] at CV1
  rw [HN.out] at CV2
  rw [HS.out] at CV3
  go_wp2_with fail
  go_quiet ((first | (go_at_call 42; with_reducible exact Calls.quiet_of_same (CV1.out _)) | (go_at_call 42; with_reducible exact Calls.quiet_of_same (CV2.out _))))
  skip
  go_wp2
  go_ret3
  exact ⟨_, rfl, World.ownsRow_nil _ _ _ _, by first | exact below_drewN (below_drewN HB.out) | exact below_drewN HB.out⟩
set_option maxRecDepth 100000 in
set_option maxHeartbeats 1000000 in
theorem RSR_none1 (F : Nat → Prop) (w : World) (r t : Nat) (s : St) (h : Rk F w r t s) (hf : s.f = false) (hn7 : 7 ≤ s.R.length) (hsl : slotOf s = 1) (hE0 : epochOf s = 0) : Calls Tryd.prog 34 #[.pointer (some ⟨r, 0, none⟩)] w (GivesR w (SR s).1 (SR s).2.1 (SR s).2.2) := by
  have e0 : SR s = ([], 0, 4) := by
    unfold SR
    rw [if_neg (by rw [hf]; decide), if_neg (by omega), if_neg (by omega), if_pos hE0]
  rw [e0]
  have hn2 : s.R.length ≤ 65536 := h.ok.2.2.1
  have hl0 := getD_len64 (i := 1 + 1) h.ok.1 (by omega)
  obtain ⟨ar, har⟩ : ∃ a : Nat, areaOf s.R.length = a := ⟨_, rfl⟩
  have hb16 : 1 ≤ ar ∧ ar ≤ 16383 := by rw [← har]; unfold areaOf; omega
  have HCU := Lib.hid (begin_ok w r t s h hf hn7 (by omega))
  have HE := Lib.hid (show val ((s.R.getD (1 + 1) []).take 4) = epochOf s by unfold epochOf hdOf; rw [hsl])
  have HN := Lib.hid (show val (((s.R.getD (1 + 1) []).drop 4).take 4) = lenOf s by unfold lenOf hdOf; rw [hsl])
  have HS := Lib.hid (show val (((s.R.getD (1 + 1) []).drop 8).take 8) = sumOf s by unfold sumOf hdOf; rw [hsl])
  have HD := Lib.hid h
  have H0 := Lib.hid h
  have hEl := epochOf_lt s
  have hNl := lenOf_lt s
  obtain ⟨E, hE⟩ : ∃ x, epochOf s = x := ⟨_, rfl⟩
  obtain ⟨L, hN⟩ : ∃ x, lenOf s = x := ⟨_, rfl⟩
  obtain ⟨C, hC⟩ : ∃ x, sumOf s = x := ⟨_, rfl⟩
  obtain ⟨rn, hrn⟩ : ∃ n, s.R.length = n := ⟨_, rfl⟩
  have HRN := Lib.hid hrn
  have hr7 : 7 ≤ rn := by omega
  rw [har, hsl, hrn] at HCU
  rw [hE] at HE hE0 hEl
  rw [hN] at HN hNl
  rw [hC] at HS
  unfold layV at HCU
  have hE1 : ((E : Int) == 0) = true := beq_iff_eq.2 (by omega)
  clear h e0 hf hsl hE0 hE hN hC har hrn hn2 hl0
  go_enter Tryd.func34, Tryd.ntmps34
  go_wp2_with fail
  refine HCU.out.mono ?_
  rintro e1 w1 ⟨rfl, hb⟩
  obtain ⟨W, hW⟩ : ∃ W, W = w1.alloc (.cells #[.int .i64 0, .int .i64 1, .int .i64 2, .int .i64 3, .int .i64 (3 + (ar : Int)), .int .i64 (ar : Int), .int .i64 (3 + 2 * (ar : Int)), .int .i64 (rn - (3 + 2 * (ar : Int)))] 28) := ⟨_, rfl⟩
  have hb2 : Below w.heap.size w W := by rw [hW]; exact hb.trans (((Below.refl _ w1).alloc (Nat.le_refl _) _).mono hb.size)
  have HL := Lib.hid (show Blk W w1.heap.size 28 #[.int .i64 0, .int .i64 1, .int .i64 2, .int .i64 3, .int .i64 (3 + (ar : Int)), .int .i64 (ar : Int), .int .i64 (3 + 2 * (ar : Int)), .int .i64 (rn - (3 + 2 * (ar : Int)))] by rw [hW]; exact Blk.new w1 28 _)
  replace HD := Lib.hid (HD.out.below hb2)
  have HB := Lib.hid hb2
  clear hb hb2 HCU
  go_upto_region 2 with fail
  rw [← hW]
  clear hW
  generalize w1.heap.size = gl at *
  obtain ⟨cap2, hcap2, k0, -⟩ := HD.out.cells
  rw [HRN.out] at k0 hcap2
  obtain ⟨A9, c9, k1w, hc9, -, hba, -⟩ := H0.out.sec (1 + 1) (by rw [HRN.out]; omega)
  have k1 : W.cell? ⟨t, 2, none⟩ = some (.slice A9 64 c9) := keepcell HB.out k1w
  obtain ⟨b9, o9, rfl⟩ := hba.at.some (by decide)
  have HBA0 := Lib.hid hba.at
  have HBA := Lib.hid (HBA0.out.below HB.out)
  clear k1w
  have k2 : W.cell? ⟨gl, 2, none⟩ = some (.int .i64 2) := HL.out.cell 2
  have k3 : W.cell? ⟨gl, 5, none⟩ = some (.int .i64 (ar : Int)) := HL.out.cell 5
  have x1 : ((1 : Int) + 1) < rn := by omega
  have x2 : 2 < rn := by omega
  have x3 : (4 : Int) ≤ c9 := by omega
  have x4 : (2 : Int) < rn := by omega
  have x5 : (8 : Int) ≤ c9 := by omega
  have x6 : (16 : Int) ≤ c9 := by omega
  clear hba
  go_wp2_with fail
  go_quiet (fail)
  have hq : Below W.heap.size W (W.drewN nq) := below_drewN (Below.refl _ W)
  replace HD := Lib.hid (HD.out.below hq)
  replace HL := Lib.hid (HL.out.below hq)
  replace HBA := Lib.hid (HBA.out.below hq)
  replace HB := Lib.hid (HB.out.trans (hq.mono HB.out.size))
  have k3 : (W.drewN nq).cell? ⟨gl, 5, none⟩ = some (.int .i64 (ar : Int)) := HL.out.cell 5
  clear hq k0 k1 k2
  generalize W.drewN nq = W at *
  have CV1 := Lib.hid (fun (m : Nat) => value_any (some ⟨b9, o9, none⟩) 4 c9 _ (W.drewN m) (bytes_first (m := 4) (HBA.out.below (below_drewN (Below.refl _ W))) (by decide)) (by decide))
  have CV2 := Lib.hid (fun (m : Nat) => value_any (some ⟨b9, o9 + 4, none⟩) 4 (c9 - 4) _ (W.drewN m) (bytes_mid (k := 4) (m := 4) (HBA.out.below (below_drewN (Below.refl _ W))) (by decide)) (by decide))
  have CV3 := Lib.hid (fun (W' : World) (hW : Below W.heap.size W W') => value_any (some ⟨b9, o9 + 8, none⟩) 8 (c9 - 8) _ W' (bytes_mid (k := 8) (m := 8) (HBA.out.below hW) (by decide)) (by decide))
  rw [HE.out] at CV1
  rw [HN.out] at CV2
  rw [HS.out] at CV3
  go_wp2_with fail
  go_quiet ((first | (go_at_call 42; with_reducible exact Calls.quiet_of_same (CV1.out _)) | (go_at_call 42; with_reducible exact Calls.quiet_of_same (CV2.out _))))
  skip
  go_wp2
  go_ret3
  exact ⟨_, rfl, World.ownsRow_nil _ _ _ _, by first | exact below_drewN (below_drewN HB.out) | exact below_drewN HB.out⟩
set_option maxRecDepth 100000 in
set_option maxHeartbeats 1000000 in
theorem RSR_long1 (F : Nat → Prop) (w : World) (r t : Nat) (s : St) (h : Rk F w r t s) (hf : s.f = false) (hn7 : 7 ≤ s.R.length) (hsl : slotOf s = 1) (hE0 : epochOf s ≠ 0) (hlong : 64 * areaOf s.R.length < lenOf s) : Calls Tryd.prog 34 #[.pointer (some ⟨r, 0, none⟩)] w (GivesR w (SR s).1 (SR s).2.1 (SR s).2.2) := by
  have e0 : SR s = ([], 0, 17) := by
    unfold SR
    rw [if_neg (by rw [hf]; decide), if_neg (by omega), if_neg (by omega), if_neg hE0, if_pos hlong]
  rw [e0]
  have hn2 : s.R.length ≤ 65536 := h.ok.2.2.1
  have hl0 := getD_len64 (i := 1 + 1) h.ok.1 (by omega)
  obtain ⟨ar, har⟩ : ∃ a : Nat, areaOf s.R.length = a := ⟨_, rfl⟩
  have hb16 : 1 ≤ ar ∧ ar ≤ 16383 := by rw [← har]; unfold areaOf; omega
  have HCU := Lib.hid (begin_ok w r t s h hf hn7 (by omega))
  have HE := Lib.hid (show val ((s.R.getD (1 + 1) []).take 4) = epochOf s by unfold epochOf hdOf; rw [hsl])
  have HN := Lib.hid (show val (((s.R.getD (1 + 1) []).drop 4).take 4) = lenOf s by unfold lenOf hdOf; rw [hsl])
  have HS := Lib.hid (show val (((s.R.getD (1 + 1) []).drop 8).take 8) = sumOf s by unfold sumOf hdOf; rw [hsl])
  have HD := Lib.hid h
  have H0 := Lib.hid h
  have hEl := epochOf_lt s
  have hNl := lenOf_lt s
  obtain ⟨E, hE⟩ : ∃ x, epochOf s = x := ⟨_, rfl⟩
  obtain ⟨L, hN⟩ : ∃ x, lenOf s = x := ⟨_, rfl⟩
  obtain ⟨C, hC⟩ : ∃ x, sumOf s = x := ⟨_, rfl⟩
  obtain ⟨rn, hrn⟩ : ∃ n, s.R.length = n := ⟨_, rfl⟩
  have HRN := Lib.hid hrn
  have hr7 : 7 ≤ rn := by omega
  rw [har, hsl, hrn] at HCU
  rw [hE] at HE hE0 hEl
  rw [hN] at HN hNl
  rw [hC] at HS
  unfold layV at HCU
  have hfi : 64 * (ar : Int) < (L : Int) := by omega
  have hE1 : ((E : Int) == 0) = false := beq_eq_false_iff_ne.2 (by omega)
  have hwa : IntKind.i64.wrap (64 * (ar : Int)) = 64 * (ar : Int) := by rw [IntWalk.i64_in _ (by omega)]
  have hwb : IntKind.u64.wrap (64 * (ar : Int)) = 64 * (ar : Int) := by rw [IntKind.wrap_u64]; omega
  have hfj : decide (64 * (ar : Int) < (L : Int)) = true := decide_eq_true hfi
  have hfk : (ar : Int) * 64 < (L : Int) := by omega
  clear h e0 hf hsl hE0 hE hN hC har hrn hn2 hl0 hlong
  go_enter Tryd.func34, Tryd.ntmps34
  go_wp2_with fail
  refine HCU.out.mono ?_
  rintro e1 w1 ⟨rfl, hb⟩
  obtain ⟨W, hW⟩ : ∃ W, W = w1.alloc (.cells #[.int .i64 0, .int .i64 1, .int .i64 2, .int .i64 3, .int .i64 (3 + (ar : Int)), .int .i64 (ar : Int), .int .i64 (3 + 2 * (ar : Int)), .int .i64 (rn - (3 + 2 * (ar : Int)))] 28) := ⟨_, rfl⟩
  have hb2 : Below w.heap.size w W := by rw [hW]; exact hb.trans (((Below.refl _ w1).alloc (Nat.le_refl _) _).mono hb.size)
  have HL := Lib.hid (show Blk W w1.heap.size 28 #[.int .i64 0, .int .i64 1, .int .i64 2, .int .i64 3, .int .i64 (3 + (ar : Int)), .int .i64 (ar : Int), .int .i64 (3 + 2 * (ar : Int)), .int .i64 (rn - (3 + 2 * (ar : Int)))] by rw [hW]; exact Blk.new w1 28 _)
  replace HD := Lib.hid (HD.out.below hb2)
  have HB := Lib.hid hb2
  clear hb hb2 HCU
  go_upto_region 2 with fail
  rw [← hW]
  clear hW
  generalize w1.heap.size = gl at *
  obtain ⟨cap2, hcap2, k0, -⟩ := HD.out.cells
  rw [HRN.out] at k0 hcap2
  obtain ⟨A9, c9, k1w, hc9, -, hba, -⟩ := H0.out.sec (1 + 1) (by rw [HRN.out]; omega)
  have k1 : W.cell? ⟨t, 2, none⟩ = some (.slice A9 64 c9) := keepcell HB.out k1w
  obtain ⟨b9, o9, rfl⟩ := hba.at.some (by decide)
  have HBA0 := Lib.hid hba.at
  have HBA := Lib.hid (HBA0.out.below HB.out)
  clear k1w
  have k2 : W.cell? ⟨gl, 2, none⟩ = some (.int .i64 2) := HL.out.cell 2
  have k3 : W.cell? ⟨gl, 5, none⟩ = some (.int .i64 (ar : Int)) := HL.out.cell 5
  have x1 : ((1 : Int) + 1) < rn := by omega
  have x2 : 2 < rn := by omega
  have x3 : (4 : Int) ≤ c9 := by omega
  have x4 : (2 : Int) < rn := by omega
  have x5 : (8 : Int) ≤ c9 := by omega
  have x6 : (16 : Int) ≤ c9 := by omega
  clear hba
  go_wp2_with fail
  go_quiet (fail)
  have hq : Below W.heap.size W (W.drewN nq) := below_drewN (Below.refl _ W)
  replace HD := Lib.hid (HD.out.below hq)
  replace HL := Lib.hid (HL.out.below hq)
  replace HBA := Lib.hid (HBA.out.below hq)
  replace HB := Lib.hid (HB.out.trans (hq.mono HB.out.size))
  have k3 : (W.drewN nq).cell? ⟨gl, 5, none⟩ = some (.int .i64 (ar : Int)) := HL.out.cell 5
  clear hq k0 k1 k2
  generalize W.drewN nq = W at *
  have CV1 := Lib.hid (fun (m : Nat) => value_any (some ⟨b9, o9, none⟩) 4 c9 _ (W.drewN m) (bytes_first (m := 4) (HBA.out.below (below_drewN (Below.refl _ W))) (by decide)) (by decide))
  have CV2 := Lib.hid (fun (m : Nat) => value_any (some ⟨b9, o9 + 4, none⟩) 4 (c9 - 4) _ (W.drewN m) (bytes_mid (k := 4) (m := 4) (HBA.out.below (below_drewN (Below.refl _ W))) (by decide)) (by decide))
  have CV3 := Lib.hid (fun (W' : World) (hW : Below W.heap.size W W') => value_any (some ⟨b9, o9 + 8, none⟩) 8 (c9 - 8) _ W' (bytes_mid (k := 8) (m := 8) (HBA.out.below hW) (by decide)) (by decide))
  rw [HE.out] at CV1
  rw [HN.out] at CV2
  rw [HS.out] at CV3
  go_wp2_with fail
  go_quiet ((first | (go_at_call 42; with_reducible exact Calls.quiet_of_same (CV1.out _)) | (go_at_call 42; with_reducible exact Calls.quiet_of_same (CV2.out _))))
  skip
  go_wp2
  go_ret3
  exact ⟨_, rfl, World.ownsRow_nil _ _ _ _, by first | exact below_drewN (below_drewN HB.out) | exact below_drewN HB.out⟩
end

section
set_option maxRecDepth 100000 in
set_option maxHeartbeats 1000000 in
theorem RSR_ok0 (F : Nat → Prop) (w : World) (r t : Nat) (s : St) (h : Rk F w r t s) (hf : s.f = false) (hn7 : 7 ≤ s.R.length) (hsl : slotOf s = 0) (hE0 : epochOf s ≠ 0) (hle : lenOf s ≤ 64 * areaOf s.R.length) : Calls Tryd.prog 34 #[.pointer (some ⟨r, 0, none⟩)] w (GivesR w (SR s).1 (SR s).2.1 (SR s).2.2) := by
  obtain ⟨i0, hi, hz0, hz1, hz2⟩ := info_parts Tryd.info5
  have e0 : SR s = if crc 0 (rall s (baseOf s (slotOf s)) (lenOf s)) ≠ sumOf s then ([], 0, 17) else (rall s (baseOf s (slotOf s)) (lenOf s), epochOf s, 0) := by
    unfold SR
    rw [if_neg (by rw [hf]; decide), if_neg (by omega), if_neg (by omega), if_neg hE0, if_neg (by omega)]
  obtain ⟨bb, hbb⟩ : ∃ x, 3 + 0 * areaOf s.R.length = x := ⟨_, rfl⟩
  have hfit := area_fit (o := 0) hn7 (by decide)
  have e1 : baseOf s (slotOf s) = bb := by unfold baseOf; rw [hsl]; exact hbb
  rw [e1] at e0
  have HFL := Lib.hid (show ((List.range (areaOf s.R.length)).flatMap fun i => s.R.getD (bb + i) []).take (lenOf s) = rall s bb (lenOf s) from flat_take (f := fun i => s.R.getD (bb + i) []) (fun i hi => getD_len64 h.ok.1 (by omega)) (nch_area hle) (nch_le _))
  have HF64 := Lib.hid (show ∀ i, i < areaOf s.R.length → (s.R.getD (bb + i) []).length = 64 from fun i hi => getD_len64 h.ok.1 (by omega))
  have hn2 : s.R.length ≤ 65536 := h.ok.2.2.1
  have hl0 := getD_len64 (i := 1 + 0) h.ok.1 (by omega)
  obtain ⟨ar, har⟩ : ∃ a : Nat, areaOf s.R.length = a := ⟨_, rfl⟩
  have hb16 : 1 ≤ ar ∧ ar ≤ 16383 := by rw [← har]; unfold areaOf; omega
  have HCU := Lib.hid (begin_ok w r t s h hf hn7 (by omega))
  have HE := Lib.hid (show val ((s.R.getD (1 + 0) []).take 4) = epochOf s by unfold epochOf hdOf; rw [hsl])
  have HN := Lib.hid (show val (((s.R.getD (1 + 0) []).drop 4).take 4) = lenOf s by unfold lenOf hdOf; rw [hsl])
  have HS := Lib.hid (show val (((s.R.getD (1 + 0) []).drop 8).take 8) = sumOf s by unfold sumOf hdOf; rw [hsl])
  have HD := Lib.hid h
  have H0 := Lib.hid h
  have hEl := epochOf_lt s
  have hNl := lenOf_lt s
  obtain ⟨E, hE⟩ : ∃ x, epochOf s = x := ⟨_, rfl⟩
  obtain ⟨L, hN⟩ : ∃ x, lenOf s = x := ⟨_, rfl⟩
  obtain ⟨C, hC⟩ : ∃ x, sumOf s = x := ⟨_, rfl⟩
  obtain ⟨rn, hrn⟩ : ∃ n, s.R.length = n := ⟨_, rfl⟩
  have HRN := Lib.hid hrn
  have hr7 : 7 ≤ rn := by omega
  rw [har, hsl, hrn] at HCU
  rw [hE] at HE hE0 hEl
  rw [hN] at HN hNl
  rw [hC] at HS
  unfold layV at HCU
  rw [har] at hbb hfit HFL HF64
  rw [hbb, hrn] at hfit
  rw [hE, hN, hC] at e0
  rw [hN] at HFL
  rw [har, hN] at hle
  have HSR := Lib.hid e0
  have hbI : (bb : Int) = 3 := by rw [← hbb]; omega
  have hE1 : ((E : Int) == 0) = false := beq_eq_false_iff_ne.2 (by omega)
  have HBI := Lib.hid hbI
  have hrn6 : rn ≤ 65536 := by omega
  clear hbI
  have hwa : IntKind.i64.wrap (64 * (ar : Int)) = 64 * (ar : Int) := by rw [IntWalk.i64_in _ (by omega)]
  have hwb : IntKind.u64.wrap (64 * (ar : Int)) = 64 * (ar : Int) := by rw [IntKind.wrap_u64]; omega
  have hfj : decide (64 * (ar : Int) < (L : Int)) = false := decide_eq_false (by omega)
  have hfk : ¬ (ar : Int) * 64 < (L : Int) := by omega
  have hfl : ¬ 64 * (ar : Int) < (L : Int) := by omega
  obtain ⟨fl, hfd⟩ : ∃ fl : Nat → List UInt8, fl = fun m => (List.range m).flatMap fun i => s.R.getD (bb + i) [] := ⟨_, rfl⟩
  have HF0 := Lib.hid (show fl 0 = [] by rw [hfd]; rfl)
  have HFS := Lib.hid (show ∀ i, fl (i + 1) = fl i ++ s.R.getD (bb + i) [] from fun i => by rw [hfd]; exact flat_snoc _ i)
  have HFE := Lib.hid (show (fl ar).take L = rall s bb L by rw [hfd]; exact HFL.out)
  have HFN := Lib.hid (show ∀ m, m ≤ ar → (fl m).length = 64 * m from fun m hm => by rw [hfd]; exact flat64_len m (fun i hi => HF64.out i (by omega)))
  clear hfd HFL
  clear h e0 e1 hf hsl hE0 hE hN hC har hrn hn2 hl0 hbb
  go_enter Tryd.func34, Tryd.ntmps34
  go_wp2_with fail
  refine HCU.out.mono ?_
  rintro e1 w1 ⟨rfl, hb⟩
  obtain ⟨W, hW⟩ : ∃ W, W = w1.alloc (.cells #[.int .i64 0, .int .i64 1, .int .i64 2, .int .i64 3, .int .i64 (3 + (ar : Int)), .int .i64 (ar : Int), .int .i64 (3 + 2 * (ar : Int)), .int .i64 (rn - (3 + 2 * (ar : Int)))] 28) := ⟨_, rfl⟩
  have hb2 : Below w.heap.size w W := by rw [hW]; exact hb.trans (((Below.refl _ w1).alloc (Nat.le_refl _) _).mono hb.size)
  have HL := Lib.hid (show Blk W w1.heap.size 28 #[.int .i64 0, .int .i64 1, .int .i64 2, .int .i64 3, .int .i64 (3 + (ar : Int)), .int .i64 (ar : Int), .int .i64 (3 + 2 * (ar : Int)), .int .i64 (rn - (3 + 2 * (ar : Int)))] by rw [hW]; exact Blk.new w1 28 _)
  replace HD := Lib.hid (HD.out.below hb2)
  have HB := Lib.hid hb2
  clear hb hb2 HCU
  go_upto_region 2 with fail
  rw [← hW]
  clear hW
  generalize w1.heap.size = gl at *
  obtain ⟨cap2, hcap2, k0, -⟩ := HD.out.cells
  rw [HRN.out] at k0 hcap2
  obtain ⟨A9, c9, k1w, hc9, -, hba, -⟩ := H0.out.sec (1 + 0) (by rw [HRN.out]; omega)
  have k1 : W.cell? ⟨t, 1, none⟩ = some (.slice A9 64 c9) := keepcell HB.out k1w
  obtain ⟨b9, o9, rfl⟩ := hba.at.some (by decide)
  have HBA0 := Lib.hid hba.at
  have HBA := Lib.hid (HBA0.out.below HB.out)
  clear k1w
  have k2 : W.cell? ⟨gl, 1, none⟩ = some (.int .i64 1) := HL.out.cell 1
  have k3 : W.cell? ⟨gl, 5, none⟩ = some (.int .i64 (ar : Int)) := HL.out.cell 5
  have x1 : ((1 : Int) + 0) < rn := by omega
  have x2 : 1 < rn := by omega
  have x3 : (4 : Int) ≤ c9 := by omega
  have x4 : (1 : Int) < rn := by omega
  have x5 : (8 : Int) ≤ c9 := by omega
  have x6 : (16 : Int) ≤ c9 := by omega
  clear hba
  go_wp2_with fail
  go_quiet (fail)
  have hq : Below W.heap.size W (W.drewN nq) := below_drewN (Below.refl _ W)
  replace HD := Lib.hid (HD.out.below hq)
  replace HL := Lib.hid (HL.out.below hq)
  replace HBA := Lib.hid (HBA.out.below hq)
  replace HB := Lib.hid (HB.out.trans (hq.mono HB.out.size))
  have k3 : (W.drewN nq).cell? ⟨gl, 5, none⟩ = some (.int .i64 (ar : Int)) := HL.out.cell 5
  clear hq k0 k1 k2
  generalize W.drewN nq = W at *
  have CV1 := Lib.hid (fun (m : Nat) => value_any (some ⟨b9, o9, none⟩) 4 c9 _ (W.drewN m) (bytes_first (m := 4) (HBA.out.below (below_drewN (Below.refl _ W))) (by decide)) (by decide))
  have CV2 := Lib.hid (fun (m : Nat) => value_any (some ⟨b9, o9 + 4, none⟩) 4 (c9 - 4) _ (W.drewN m) (bytes_mid (k := 4) (m := 4) (HBA.out.below (below_drewN (Below.refl _ W))) (by decide)) (by decide))
  have CV3 := Lib.hid (fun (W' : World) (hW : Below W.heap.size W W') => value_any (some ⟨b9, o9 + 8, none⟩) 8 (c9 - 8) _ W' (bytes_mid (k := 8) (m := 8) (HBA.out.below hW) (by decide)) (by decide))
  rw [HE.out] at CV1
  rw [HN.out] at CV2
  rw [HS.out] at CV3
  go_wp2_with fail
  go_quiet ((first | (go_at_call 42; with_reducible exact Calls.quiet_of_same (CV1.out _)) | (go_at_call 42; with_reducible exact Calls.quiet_of_same (CV2.out _))))
  have hq : Below W.heap.size W (W.drewN nq) := below_drewN (Below.refl _ W)
  replace HL := Lib.hid (HL.out.below hq)
  replace HBA := Lib.hid (HBA.out.below hq)
  replace HB := Lib.hid (HB.out.trans (hq.mono HB.out.size))
  have CV3 := Lib.hid (fun (W' : World) (hW : Below (W.drewN nq).heap.size (W.drewN nq) W') => CV3.out W' (hq.trans hW))
  clear hq k3 HD CV1 CV2
  generalize W.drewN nq = W at *
  have k3 : W.cell? ⟨gl, 5, none⟩ = some (.int .i64 (ar : Int)) := HL.out.cell 5
  obtain ⟨W1, hW1⟩ : ∃ W', W' = W.alloc (.cells #[] 5) := ⟨_, rfl⟩
  have hb1 : Below W.heap.size W W1 := by rw [hW1]; exact (Below.refl _ W).alloc (Nat.le_refl _) _
  have HO0 := Lib.hid (show W1.ownsRow w.heap.size 5 1 (.slice (some ⟨W.heap.size, 0, none⟩) 0 0) (fl 0).length (bc (fl 0)) by rw [hW1, HF0.out]; exact own_mono (own_empty W) HB.out.size)
  have HB1 := Lib.hid (HB.out.trans (hb1.mono HB.out.size))
  have HL1 := Lib.hid (HL.out.below hb1)
  clear hb1 HBA HL HB CV3
  go_upto_region 11 with fail
  rw [← hW1]
  clear hW1 k3
  go_wp2
  go_loopw [11, 12] (fun s11 s12 wr => ∃ i : Nat, s12 = .int .i64 (i : Int) ∧ i ≤ ar ∧ wr.ownsRow w.heap.size 5 1 s11 (fl i).length (bc (fl i)) ∧ Blk wr gl 28 #[.int .i64 0, .int .i64 1, .int .i64 2, .int .i64 3, .int .i64 (3 + (ar : Int)), .int .i64 (ar : Int), .int .i64 (3 + 2 * (ar : Int)), .int .i64 (rn - (3 + 2 * (ar : Int)))] ∧ Below w.heap.size w wr) (fun _ s12 _ => ar - (intOf s12).toNat)
  case atStart => exact ⟨0, rfl, Nat.zero_le _, HO0.out, HL1.out, HB1.out⟩
  case round =>
    obtain ⟨i, rfl, hia, hO, hL, hB⟩ := hrel
    have HO := Lib.hid hO
    have HL := Lib.hid hL
    have HB := Lib.hid hB
    clear hO hL hB HO0 HL1 HB1
    have k3 : wr.cell? ⟨gl, 5, none⟩ = some (.int .i64 (ar : Int)) := HL.out.cell 5
    obtain ⟨A11, c11, rfl, -, -, -⟩ := own_bytes3 (F := fun _ => False) HO.out (fun _ h => h.elim)
    have HLN := Lib.hid (HFN.out i hia)
    rw [HLN.out]
    by_cases hlt : i < ar
    · have hki : (i : Int) < ar := by omega
      obtain ⟨ix, hix⟩ : ∃ x, bb + i = x := ⟨_, rfl⟩
      have h0 : (bb : Int) + (i : Int) = (ix : Int) := by omega
      have hwi : IntKind.i64.wrap ((bb : Int) + (i : Int)) = (ix : Int) := by rw [IntWalk.i64_in _ (by omega)]; exact h0
      have hwj : IntKind.i64.wrap (ix : Int) = (ix : Int) := by rw [IntWalk.i64_in _ (by omega)]
      have h1 : (ix : Int) < rn := by omega
      have h2 : (0 : Int) ≤ (ix : Int) := by omega
      have h3 : ix < rn := by omega
      obtain ⟨cap3, hcap3, q0, -⟩ := H0.out.cells
      rw [HRN.out] at q0 hcap3
      obtain ⟨A8, c8, q1, -, -, hb8, -⟩ := H0.out.sec ix (by rw [HRN.out]; exact h3)
      have HB8 := Lib.hid hb8.at
      have HSN := Lib.hid (HFS.out i)
      rw [hix] at HSN
      clear hix
      clear hb8
      go_wp2_with fail
      refine region_tail 13 (by kernel_rfl) (by kernel_rfl) (fun D hD hs => ?_)
      simp only [List.take_succ_cons, List.take_zero, List.drop_succ_cons, List.drop_zero]
      have HOD := Lib.hid (own_below HO.out hD)
      have HLD := Lib.hid (HL.out.below hD)
      have HBD := Lib.hid (HB.out.trans (hD.mono HB.out.size))
      have q0 := keepcell HBD.out q0
      have q1 := keepcell HBD.out q1
      have q2 : D.cell? ⟨gl, 3, none⟩ = some (.int .i64 (bb : Int)) := by rw [HBI.out]; exact HLD.out.cell 3
      rw [HLN.out] at HOD
      have HSRC := Lib.hid (src_at (c := c8) (HB8.out.below HBD.out))
      have HSZ := Lib.hid HBD.out.size
      clear hD hs HO HL HB k3
      repeat still_step
      refine wpStill_nil ?_
      rw [← HLN.out] at HOD
      go_wp2_with (at_builtin; refine wpList_app rfl (.tmp 53) (.tmp 65) 36 36 rfl w.heap.size _ _ 5 i0 Tryd.underlying36 hi hz0 hz1 hz2 _ (fl i) (by rw [HLN.out]; rfl) (Grows.refl HOD.out HSZ.out) _ 64 _ rfl HSRC.out (by rw [HLN.out]; omega) ?_; intro v2 w2 G2 z2 k2)
      have HON := Lib.hid G2.1
      rw [← HSN.out] at HON
      have HBN := Lib.hid (HBD.out.trans (show Below w.heap.size D w2 from G2.below_of HOD.out HSZ.out))
      have HLQ := Lib.hid (k2 gl 28 _ (by decide) HLD.out)
      clear G2 z2 k2 HOD HLD HBD q0 q1 q2
      go_roundw
      case rel => exact ⟨i + 1, by go_num, hlt, HON.out, HLQ.out, HBN.out⟩
      case measure => simp [intOf]; omega
    · obtain rfl : i = ar := by omega
      have hli : ((L : Nat) : Int) ≤ ((64 * i : Nat) : Int) := by omega
      obtain ⟨out, hout⟩ : ∃ x, rall s bb L = x := ⟨_, rfl⟩
      rw [hout] at HFE HSR
      have hc64 : 64 * i ≤ c11 := by
        obtain ⟨A5, c5, e5, -, h5, -⟩ := own_bytes3 (F := fun _ => False) HO.out (fun _ h => h.elim)
        injection e5 with _ _ e5
        rw [e5, ← HLN.out]
        exact h5
      have HOT := Lib.hid (own_take (m := L) HO.out (by rw [HLN.out]; exact hle))
      rw [HFE.out] at HOT
      have HOL := Lib.hid (show out.length = L by rw [← HFE.out, List.length_take, HLN.out]; omega)
      have hba : BytesAt wr A11 L out := by
        obtain ⟨A5, c5, e5, h5, -, -⟩ := own_bytes3 (F := fun _ => False) HOT.out (fun _ h => h.elim)
        injection e5 with e5 _ _
        rw [e5, ← HOL.out]
        exact h5.at
      have x9 : (L : Int) ≤ c11 := by omega
      have CS := Lib.hid (fun (m : Nat) => flipC (Sum_ref A11 L c11 out (wr.drewN m) (hba.below (below_drewN (Below.refl _ wr))) (by omega)))
      have CV3 := Lib.hid (fun (m : Nat) => value_any (some ⟨b9, o9 + 8, none⟩) 8 (c9 - 8) _ (wr.drewN m) (bytes_mid (k := 8) (m := 8) (HBA0.out.below (HB.out.trans ((below_drewN (Below.refl wr.heap.size wr)).mono HB.out.size))) (by decide)) (by decide))
      rw [HS.out] at CV3
      obtain ⟨cc, hcc⟩ : ∃ x, crc 0 out = x := ⟨_, rfl⟩
      rw [hcc] at CS HSR
      clear hba hcc hout
      obtain ⟨bq, oq, rfl⟩ | hnil : (∃ b o, A11 = some ⟨b, o, none⟩) ∨ A11 = none := by
        rcases A11 with _ | ⟨b, o, sp⟩
        · exact .inr rfl
        · left
          rcases HO.out.2 with ⟨h9, _⟩ | ⟨g, _, _, h9, _⟩
          · injection h9 with h9; cases h9
          · injection h9 with h9; injection h9 with h9; injection h9 with h9 h8 h7; subst h7; exact ⟨b, o, rfl⟩
      · go_wp2_with fail
        go_quiet ((first | (go_at_call 45; with_reducible exact Calls.quiet_of_same (CS.out _)) | (go_at_call 42; with_reducible exact Calls.quiet_of_same (CV3.out _))))
        by_cases hcs : cc = C
        · have y1 : ((cc : Int) != (C : Int)) = false := by rw [hcs]; simp
          have y2 : ((cc : Int) == (C : Int)) = true := by rw [hcs]; simp
          have hE32 : IntKind.u32.wrap (E : Int) = (E : Int) := by rw [IntKind.wrap_u32]; omega
          go_wp2
          go_ret3
          rw [HSR.out, if_neg (by simpa using hcs)]
          exact ⟨_, rfl, HOT.out, below_drewN HB.out⟩
        · have y1 : ((cc : Int) != (C : Int)) = true := bne_iff_ne.2 (by omega)
          have y2 : ((cc : Int) == (C : Int)) = false := beq_eq_false_iff_ne.2 (by omega)
          go_wp2
          go_ret3
          rw [HSR.out, if_pos (by simpa using hcs)]
          exact ⟨_, rfl, World.ownsRow_nil _ _ _ _, below_drewN HB.out⟩
      · exfalso
        subst hnil
        rcases HO.out.2 with ⟨_, h9⟩ | ⟨g, _, _, h9, _⟩
        · rw [HLN.out] at h9; omega
        · injection h9 with h9; cases h9
set_option maxRecDepth 100000 in
set_option maxHeartbeats 1000000 in
theorem RSR_ok1 (F : Nat → Prop) (w : World) (r t : Nat) (s : St) (h : Rk F w r t s) (hf : s.f = false) (hn7 : 7 ≤ s.R.length) (hsl : slotOf s = 1) (hE0 : epochOf s ≠ 0) (hle : lenOf s ≤ 64 * areaOf s.R.length) : Calls Tryd.prog 34 #[.pointer (some ⟨r, 0, none⟩)] w (GivesR w (SR s).1 (SR s).2.1 (SR s).2.2) := by
  obtain ⟨i0, hi, hz0, hz1, hz2⟩ := info_parts Tryd.info5
  have e0 : SR s = if crc 0 (rall s (baseOf s (slotOf s)) (lenOf s)) ≠ sumOf s then ([], 0, 17) else (rall s (baseOf s (slotOf s)) (lenOf s), epochOf s, 0) := by
    unfold SR
    rw [if_neg (by rw [hf]; decide), if_neg (by omega), if_neg (by omega), if_neg hE0, if_neg (by omega)]
  obtain ⟨bb, hbb⟩ : ∃ x, 3 + 1 * areaOf s.R.length = x := ⟨_, rfl⟩
  have hfit := area_fit (o := 1) hn7 (by decide)
  have e1 : baseOf s (slotOf s) = bb := by unfold baseOf; rw [hsl]; exact hbb
  rw [e1] at e0
  have HFL := Lib.hid (show ((List.range (areaOf s.R.length)).flatMap fun i => s.R.getD (bb + i) []).take (lenOf s) = rall s bb (lenOf s) from flat_take (f := fun i => s.R.getD (bb + i) []) (fun i hi => getD_len64 h.ok.1 (by omega)) (nch_area hle) (nch_le _))
  have HF64 := Lib.hid (show ∀ i, i < areaOf s.R.length → (s.R.getD (bb + i) []).length = 64 from fun i hi => getD_len64 h.ok.1 (by omega))
  have hn2 : s.R.length ≤ 65536 := h.ok.2.2.1
  have hl0 := getD_len64 (i := 1 + 1) h.ok.1 (by omega)
  obtain ⟨ar, har⟩ : ∃ a : Nat, areaOf s.R.length = a := ⟨_, rfl⟩
  have hb16 : 1 ≤ ar ∧ ar ≤ 16383 := by rw [← har]; unfold areaOf; omega
  have HCU := Lib.hid (begin_ok w r t s h hf hn7 (by omega))
  have HE := Lib.hid (show val ((s.R.getD (1 + 1) []).take 4) = epochOf s by unfold epochOf hdOf; rw [hsl])
  have HN := Lib.hid (show val (((s.R.getD (1 + 1) []).drop 4).take 4) = lenOf s by unfold lenOf hdOf; rw [hsl])
  have HS := Lib.hid (show val (((s.R.getD (1 + 1) []).drop 8).take 8) = sumOf s by unfold sumOf hdOf; rw [hsl])
  have HD := Lib.hid h
  have H0 := Lib.hid h
  have hEl := epochOf_lt s
  have hNl := lenOf_lt s
  obtain ⟨E, hE⟩ : ∃ x, epochOf s = x := ⟨_, rfl⟩
  obtain ⟨L, hN⟩ : ∃ x, lenOf s = x := ⟨_, rfl⟩
  obtain ⟨C, hC⟩ : ∃ x, sumOf s = x := ⟨_, rfl⟩
  obtain ⟨rn, hrn⟩ : ∃ n, s.R.length = n := ⟨_, rfl⟩
  have HRN := Lib.hid hrn
  have hr7 : 7 ≤ rn := by omega
  rw [har, hsl, hrn] at HCU
  rw [hE] at HE hE0 hEl
  rw [hN] at HN hNl
  rw [hC] at HS
  unfold layV at HCU
  rw [har] at hbb hfit HFL HF64
  rw [hbb, hrn] at hfit
  rw [hE, hN, hC] at e0
  rw [hN] at HFL
  rw [har, hN] at hle
  have HSR := Lib.hid e0
  have hbI : (bb : Int) = 3 + (ar : Int) := by rw [← hbb]; omega
  have hE1 : ((E : Int) == 0) = false := beq_eq_false_iff_ne.2 (by omega)
  have HBI := Lib.hid hbI
  have hrn6 : rn ≤ 65536 := by omega
  clear hbI
  have hwa : IntKind.i64.wrap (64 * (ar : Int)) = 64 * (ar : Int) := by rw [IntWalk.i64_in _ (by omega)]
  have hwb : IntKind.u64.wrap (64 * (ar : Int)) = 64 * (ar : Int) := by rw [IntKind.wrap_u64]; omega
  have hfj : decide (64 * (ar : Int) < (L : Int)) = false := decide_eq_false (by omega)
  have hfk : ¬ (ar : Int) * 64 < (L : Int) := by omega
  have hfl : ¬ 64 * (ar : Int) < (L : Int) := by omega
  obtain ⟨fl, hfd⟩ : ∃ fl : Nat → List UInt8, fl = fun m => (List.range m).flatMap fun i => s.R.getD (bb + i) [] := ⟨_, rfl⟩
  have HF0 := Lib.hid (show fl 0 = [] by rw [hfd]; rfl)
  have HFS := Lib.hid (show ∀ i, fl (i + 1) = fl i ++ s.R.getD (bb + i) [] from fun i => by rw [hfd]; exact flat_snoc _ i)
  have HFE := Lib.hid (show (fl ar).take L = rall s bb L by rw [hfd]; exact HFL.out)
  have HFN := Lib.hid (show ∀ m, m ≤ ar → (fl m).length = 64 * m from fun m hm => by rw [hfd]; exact flat64_len m (fun i hi => HF64.out i (by omega)))
  clear hfd HFL
  clear h e0 e1 hf hsl hE0 hE hN hC har hrn hn2 hl0 hbb
  go_enter Tryd.func34, Tryd.ntmps34
  go_wp2_with fail
  refine HCU.out.mono ?_
  rintro e1 w1 ⟨rfl, hb⟩
  obtain ⟨W, hW⟩ : ∃ W, W = w1.alloc (.cells #[.int .i64 0, .int .i64 1, .int .i64 2, .int .i64 3, .int .i64 (3 + (ar : Int)), .int .i64 (ar : Int), .int .i64 (3 + 2 * (ar : Int)), .int .i64 (rn - (3 + 2 * (ar : Int)))] 28) := ⟨_, rfl⟩
  have hb2 : Below w.heap.size w W := by rw [hW]; exact hb.trans (((Below.refl _ w1).alloc (Nat.le_refl _) _).mono hb.size)
  have HL := Lib.hid (show Blk W w1.heap.size 28 #[.int .i64 0, .int .i64 1, .int .i64 2, .int .i64 3, .int .i64 (3 + (ar : Int)), .int .i64 (ar : Int), .int .i64 (3 + 2 * (ar : Int)), .int .i64 (rn - (3 + 2 * (ar : Int)))] by rw [hW]; exact Blk.new w1 28 _)
  replace HD := Lib.hid (HD.out.below hb2)
  have HB := Lib.hid hb2
  clear hb hb2 HCU
  go_upto_region 2 with fail
  rw [← hW]
  clear hW
  generalize w1.heap.size = gl at *
  obtain ⟨cap2, hcap2, k0, -⟩ := HD.out.cells
  rw [HRN.out] at k0 hcap2
  obtain ⟨A9, c9, k1w, hc9, -, hba, -⟩ := H0.out.sec (1 + 1) (by rw [HRN.out]; omega)
  have k1 : W.cell? ⟨t, 2, none⟩ = some (.slice A9 64 c9) := keepcell HB.out k1w
  obtain ⟨b9, o9, rfl⟩ := hba.at.some (by decide)
  have HBA0 := Lib.hid hba.at
  have HBA := Lib.hid (HBA0.out.below HB.out)
  clear k1w
  have k2 : W.cell? ⟨gl, 2, none⟩ = some (.int .i64 2) := HL.out.cell 2
  have k3 : W.cell? ⟨gl, 5, none⟩ = some (.int .i64 (ar : Int)) := HL.out.cell 5
  have x1 : ((1 : Int) + 1) < rn := by omega
  have x2 : 2 < rn := by omega
  have x3 : (4 : Int) ≤ c9 := by omega
  have x4 : (2 : Int) < rn := by omega
  have x5 : (8 : Int) ≤ c9 := by omega
  have x6 : (16 : Int) ≤ c9 := by omega
  clear hba
  go_wp2_with fail
  go_quiet (fail)
  have hq : Below W.heap.size W (W.drewN nq) := below_drewN (Below.refl _ W)
  replace HD := Lib.hid (HD.out.below hq)
  replace HL := Lib.hid (HL.out.below hq)
  replace HBA := Lib.hid (HBA.out.below hq)
  replace HB := Lib.hid (HB.out.trans (hq.mono HB.out.size))
  have k3 : (W.drewN nq).cell? ⟨gl, 5, none⟩ = some (.int .i64 (ar : Int)) := HL.out.cell 5
  clear hq k0 k1 k2
  generalize W.drewN nq = W at *
  have CV1 := Lib.hid (fun (m : Nat) => value_any (some ⟨b9, o9, none⟩) 4 c9 _ (W.drewN m) (bytes_first (m := 4) (HBA.out.below (below_drewN (Below.refl _ W))) (by decide)) (by decide))
  have CV2 := Lib.hid (fun (m : Nat) => value_any (some ⟨b9, o9 + 4, none⟩) 4 (c9 - 4) _ (W.drewN m) (bytes_mid (k := 4) (m := 4) (HBA.out.below (below_drewN (Below.refl _ W))) (by decide)) (by decide))
  have CV3 := Lib.hid (fun (W' : World) (hW : Below W.heap.size W W') => value_any (some ⟨b9, o9 + 8, none⟩) 8 (c9 - 8) _ W' (bytes_mid (k := 8) (m := 8) (HBA.out.below hW) (by decide)) (by decide))
  rw [HE.out] at CV1
  rw [HN.out] at CV2
  rw [HS.out] at CV3
  go_wp2_with fail
  go_quiet ((first | (go_at_call 42; with_reducible exact Calls.quiet_of_same (CV1.out _)) | (go_at_call 42; with_reducible exact Calls.quiet_of_same (CV2.out _))))
  have hq : Below W.heap.size W (W.drewN nq) := below_drewN (Below.refl _ W)
  replace HL := Lib.hid (HL.out.below hq)
  replace HBA := Lib.hid (HBA.out.below hq)
  replace HB := Lib.hid (HB.out.trans (hq.mono HB.out.size))
  have CV3 := Lib.hid (fun (W' : World) (hW : Below (W.drewN nq).heap.size (W.drewN nq) W') => CV3.out W' (hq.trans hW))
  clear hq k3 HD CV1 CV2
  generalize W.drewN nq = W at *
  have k3 : W.cell? ⟨gl, 5, none⟩ = some (.int .i64 (ar : Int)) := HL.out.cell 5
  obtain ⟨W1, hW1⟩ : ∃ W', W' = W.alloc (.cells #[] 5) := ⟨_, rfl⟩
  have hb1 : Below W.heap.size W W1 := by rw [hW1]; exact (Below.refl _ W).alloc (Nat.le_refl _) _
  have HO0 := Lib.hid (show W1.ownsRow w.heap.size 5 1 (.slice (some ⟨W.heap.size, 0, none⟩) 0 0) (fl 0).length (bc (fl 0)) by rw [hW1, HF0.out]; exact own_mono (own_empty W) HB.out.size)
  have HB1 := Lib.hid (HB.out.trans (hb1.mono HB.out.size))
  have HL1 := Lib.hid (HL.out.below hb1)
  clear hb1 HBA HL HB CV3
  go_upto_region 11 with fail
  rw [← hW1]
  clear hW1 k3
  go_wp2
  go_loopw [11, 12] (fun s11 s12 wr => ∃ i : Nat, s12 = .int .i64 (i : Int) ∧ i ≤ ar ∧ wr.ownsRow w.heap.size 5 1 s11 (fl i).length (bc (fl i)) ∧ Blk wr gl 28 #[.int .i64 0, .int .i64 1, .int .i64 2, .int .i64 3, .int .i64 (3 + (ar : Int)), .int .i64 (ar : Int), .int .i64 (3 + 2 * (ar : Int)), .int .i64 (rn - (3 + 2 * (ar : Int)))] ∧ Below w.heap.size w wr) (fun _ s12 _ => ar - (intOf s12).toNat)
  case atStart => exact ⟨0, rfl, Nat.zero_le _, HO0.out, HL1.out, HB1.out⟩
  case round =>
    obtain ⟨i, rfl, hia, hO, hL, hB⟩ := hrel
    have HO := Lib.hid hO
    have HL := Lib.hid hL
    have HB := Lib.hid hB
    clear hO hL hB HO0 HL1 HB1
    have k3 : wr.cell? ⟨gl, 5, none⟩ = some (.int .i64 (ar : Int)) := HL.out.cell 5
    obtain ⟨A11, c11, rfl, -, -, -⟩ := own_bytes3 (F := fun _ => False) HO.out (fun _ h => h.elim)
    have HLN := Lib.hid (HFN.out i hia)
    rw [HLN.out]
    by_cases hlt : i < ar
    · have hki : (i : Int) < ar := by omega
      obtain ⟨ix, hix⟩ : ∃ x, bb + i = x := ⟨_, rfl⟩
      have h0 : (bb : Int) + (i : Int) = (ix : Int) := by omega
      have hwi : IntKind.i64.wrap ((bb : Int) + (i : Int)) = (ix : Int) := by rw [IntWalk.i64_in _ (by omega)]; exact h0
      have hwj : IntKind.i64.wrap (ix : Int) = (ix : Int) := by rw [IntWalk.i64_in _ (by omega)]
      have h1 : (ix : Int) < rn := by omega
      have h2 : (0 : Int) ≤ (ix : Int) := by omega
      have h3 : ix < rn := by omega
      obtain ⟨cap3, hcap3, q0, -⟩ := H0.out.cells
      rw [HRN.out] at q0 hcap3
      obtain ⟨A8, c8, q1, -, -, hb8, -⟩ := H0.out.sec ix (by rw [HRN.out]; exact h3)
      have HB8 := Lib.hid hb8.at
      have HSN := Lib.hid (HFS.out i)
      rw [hix] at HSN
      clear hix
      clear hb8
      go_wp2_with fail
      refine region_tail 13 (by kernel_rfl) (by kernel_rfl) (fun D hD hs => ?_)
      simp only [List.take_succ_cons, List.take_zero, List.drop_succ_cons, List.drop_zero]
      have HOD := Lib.hid (own_below HO.out hD)
      have HLD := Lib.hid (HL.out.below hD)
      have HBD := Lib.hid (HB.out.trans (hD.mono HB.out.size))
      have q0 := keepcell HBD.out q0
      have q1 := keepcell HBD.out q1
      have q2 : D.cell? ⟨gl, 4, none⟩ = some (.int .i64 (bb : Int)) := by rw [HBI.out]; exact HLD.out.cell 4
      rw [HLN.out] at HOD
      have HSRC := Lib.hid (src_at (c := c8) (HB8.out.below HBD.out))
      have HSZ := Lib.hid HBD.out.size
      clear hD hs HO HL HB k3
      repeat still_step
      refine wpStill_nil ?_
      rw [← HLN.out] at HOD
      go_wp2_with (at_builtin; refine wpList_app rfl (.tmp 53) (.tmp 65) 36 36 rfl w.heap.size _ _ 5 i0 Tryd.underlying36 hi hz0 hz1 hz2 _ (fl i) (by rw [HLN.out]; rfl) (Grows.refl HOD.out HSZ.out) _ 64 _ rfl HSRC.out (by rw [HLN.out]; omega) ?_; intro v2 w2 G2 z2 k2)
      have HON := Lib.hid G2.1
      rw [← HSN.out] at HON
      have HBN := Lib.hid (HBD.out.trans (show Below w.heap.size D w2 from G2.below_of HOD.out HSZ.out))
      have HLQ := Lib.hid (k2 gl 28 _ (by decide) HLD.out)
      clear G2 z2 k2 HOD HLD HBD q0 q1 q2
      go_roundw
      case rel => exact ⟨i + 1, by go_num, hlt, HON.out, HLQ.out, HBN.out⟩
      case measure => simp [intOf]; omega
    · obtain rfl : i = ar := by omega
      have hli : ((L : Nat) : Int) ≤ ((64 * i : Nat) : Int) := by omega
      obtain ⟨out, hout⟩ : ∃ x, rall s bb L = x := ⟨_, rfl⟩
      rw [hout] at HFE HSR
      have hc64 : 64 * i ≤ c11 := by
        obtain ⟨A5, c5, e5, -, h5, -⟩ := own_bytes3 (F := fun _ => False) HO.out (fun _ h => h.elim)
        injection e5 with _ _ e5
        rw [e5, ← HLN.out]
        exact h5
      have HOT := Lib.hid (own_take (m := L) HO.out (by rw [HLN.out]; exact hle))
      rw [HFE.out] at HOT
      have HOL := Lib.hid (show out.length = L by rw [← HFE.out, List.length_take, HLN.out]; omega)
      have hba : BytesAt wr A11 L out := by
        obtain ⟨A5, c5, e5, h5, -, -⟩ := own_bytes3 (F := fun _ => False) HOT.out (fun _ h => h.elim)
        injection e5 with e5 _ _
        rw [e5, ← HOL.out]
        exact h5.at
      have x9 : (L : Int) ≤ c11 := by omega
      have CS := Lib.hid (fun (m : Nat) => flipC (Sum_ref A11 L c11 out (wr.drewN m) (hba.below (below_drewN (Below.refl _ wr))) (by omega)))
      have CV3 := Lib.hid (fun (m : Nat) => value_any (some ⟨b9, o9 + 8, none⟩) 8 (c9 - 8) _ (wr.drewN m) (bytes_mid (k := 8) (m := 8) (HBA0.out.below (HB.out.trans ((below_drewN (Below.refl wr.heap.size wr)).mono HB.out.size))) (by decide)) (by decide))
      rw [HS.out] at CV3
      obtain ⟨cc, hcc⟩ : ∃ x, crc 0 out = x := ⟨_, rfl⟩
      rw [hcc] at CS HSR
      clear hba hcc hout
      obtain ⟨bq, oq, rfl⟩ | hnil : (∃ b o, A11 = some ⟨b, o, none⟩) ∨ A11 = none := by
        rcases A11 with _ | ⟨b, o, sp⟩
        · exact .inr rfl
        · left
          rcases HO.out.2 with ⟨h9, _⟩ | ⟨g, _, _, h9, _⟩
          · injection h9 with h9; cases h9
          · injection h9 with h9; injection h9 with h9; injection h9 with h9 h8 h7; subst h7; exact ⟨b, o, rfl⟩
      · go_wp2_with fail
        go_quiet ((first | (go_at_call 45; with_reducible exact Calls.quiet_of_same (CS.out _)) | (go_at_call 42; with_reducible exact Calls.quiet_of_same (CV3.out _))))
        by_cases hcs : cc = C
        · have y1 : ((cc : Int) != (C : Int)) = false := by rw [hcs]; simp
          have y2 : ((cc : Int) == (C : Int)) = true := by rw [hcs]; simp
          have hE32 : IntKind.u32.wrap (E : Int) = (E : Int) := by rw [IntKind.wrap_u32]; omega
          go_wp2
          go_ret3
          rw [HSR.out, if_neg (by simpa using hcs)]
          exact ⟨_, rfl, HOT.out, below_drewN HB.out⟩
        · have y1 : ((cc : Int) != (C : Int)) = true := bne_iff_ne.2 (by omega)
          have y2 : ((cc : Int) == (C : Int)) = false := beq_eq_false_iff_ne.2 (by omega)
          go_wp2
          go_ret3
          rw [HSR.out, if_pos (by simpa using hcs)]
          exact ⟨_, rfl, World.ownsRow_nil _ _ _ _, below_drewN HB.out⟩
      · exfalso
        subst hnil
        rcases HO.out.2 with ⟨_, h9⟩ | ⟨g, _, _, h9, _⟩
        · rw [HLN.out] at h9; omega
        · injection h9 with h9; cases h9
theorem RSR_any (F : Nat → Prop) (w : World) (r t : Nat) (s : St) (h : Rk F w r t s) : Calls Tryd.prog 34 #[.pointer (some ⟨r, 0, none⟩)] w (GivesR w (SR s).1 (SR s).2.1 (SR s).2.2) := by
  by_cases hf : s.f = true
  · exact RSR_fail F w r t s h hf
  · have hf : s.f = false := by simpa using hf
    by_cases hn7 : s.R.length < 7
    · exact RSR_small F w r t s h hf hn7
    · have hn7 : 7 ≤ s.R.length := by omega
      rcases (show slotOf s = 0 ∨ slotOf s = 1 ∨ 1 < slotOf s by omega) with hs | hs | hs
      · by_cases he : epochOf s = 0
        · exact RSR_none0 F w r t s h hf hn7 hs he
        · by_cases hle : 64 * areaOf s.R.length < lenOf s
          · exact RSR_long0 F w r t s h hf hn7 hs he hle
          · exact RSR_ok0 F w r t s h hf hn7 hs he (by omega)
      · by_cases he : epochOf s = 0
        · exact RSR_none1 F w r t s h hf hn7 hs he
        · by_cases hle : 64 * areaOf s.R.length < lenOf s
          · exact RSR_long1 F w r t s h hf hn7 hs he hle
          · exact RSR_ok1 F w r t s h hf hn7 hs he (by omega)
      · exact RSR_slot F w r t s h hf hn7 hs
end
end Go.Proofs.YthhpilkhcomhbaaDoor
