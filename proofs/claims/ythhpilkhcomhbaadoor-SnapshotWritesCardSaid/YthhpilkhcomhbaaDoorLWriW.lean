/- The walk of the law SnapshotWrites. -/
import Derived.Test.YthhpilkhcomhbaaDoorLmt
namespace Go.Proofs.YthhpilkhcomhbaaDoor
open Go.ChangeShapes Go.WideShapes Go.ChangeAt Go.RowKit Go.ChangeMaps

set_option maxRecDepth 100000 in
set_option maxHeartbeats 4000000 in
theorem snapshotWrites_walk (x0 y0 : Int) (A : Option Addr) (n c : Nat) (l : List UInt8) (w : World) (hx0 : 0 ≤ x0 ∧ x0 ≤ 255) (hy0 : 0 ≤ y0 ∧ y0 ≤ 4294967295) (hA0 : BytesAt w A n l ∧ n ≤ c ∧ c ≤ 9223372036854775807) (hev : Env w) :
    Calls Tryd.prog 9 #[.agg #[.int .u8 x0, .int .u32 y0, .slice A n c]] w fun e w' => e = .returned (.bool true) ∧ Below w.heap.size w w' := by
  obtain ⟨S, rfl⟩ : ∃ S : Nat, x0 = S := ⟨x0.toNat, by omega⟩
  obtain ⟨E, rfl⟩ : ∃ E : Nat, y0 = E := ⟨y0.toNat, by omega⟩
  obtain ⟨hA, hnc, hcm⟩ := hA0
  have hln : l.length = n := hA.1
  have hE32 : E < 4294967296 := by omega
  by_cases hok : okV S E n
  · obtain ⟨r, hr, r0, rf, rh, rx, rn, r64, ra, rb, rs⟩ := ver_facts hok hln hE32
    have HOK := Lib.hid hok
    have HR := Lib.hid hr
    have HRH := Lib.hid rh
    have HR64 := Lib.hid r64
    have HRS := Lib.hid rs
    have HRN := Lib.hid rn
    have HLN := Lib.hid hln
    have hS60 : S ≤ 60 := hok.2.1
    have hS7 : 7 ≤ S := hok.1
    have hn600 : n ≤ 600 := hok.2.2.2.1
    have CF := Lib.hid (fun W => fresh_ok W S E n c A (by omega) hok)
    have HEV := Lib.hid hev
    have hbx : Below w.heap.size w (w.alloc (.cells #[.int .u8 (S : Int), .int .u32 (E : Int), .slice A n c] 49)) := (Below.refl _ _).alloc (Nat.le_refl _) _
    have HB := Lib.hid hbx
    replace HEV := Lib.hid (HEV.out.below hbx)
    have HX := Lib.hid (show Blk (w.alloc (.cells #[.int .u8 (S : Int), .int .u32 (E : Int), .slice A n c] 49)) w.heap.size 49 #[.int .u8 (S : Int), .int .u32 (E : Int), .slice A n c] from Blk.new w 49 _)
    have HA0 := Lib.hid (hA.below hbx)
    have hbs : w.heap.size < (w.alloc (.cells #[.int .u8 (S : Int), .int .u32 (E : Int), .slice A n c] 49)).heap.size := HX.out.lt
    have HE0 := Lib.hid hok.2.2.2.2
    clear hev hok hA hx0 hy0 hbx hr rh r64 rs rn hln
    go_enter Tryd.func9, Tryd.ntmps9
    go_wp2_with fail
    refine (CF.out _).mono ?_
    rintro e w1 ⟨p, q, rfl, hp, hq, hd, hb⟩
    have HPQ := Lib.hid (show ∀ k, PQ p q k → (w.alloc (.cells #[.int .u8 (S : Int), .int .u32 (E : Int), .slice A n c] 49)).heap.size ≤ k from fun k hk => by rcases hk with e | e <;> omega)
    have HPW := Lib.hid (show ∀ k, PQ p q k → w.heap.size ≤ k from fun k hk => Nat.le_trans (Nat.le_of_lt hbs) (HPQ.out k hk))
    have HNP := Lib.hid (show ¬ PQ p q 0 ∧ ¬ PQ p q w.heap.size from ⟨fun hk => by have := HPQ.out 0 hk; omega, fun hk => by have := HPQ.out _ hk; omega⟩)
    have HA := Lib.hid (BA.of_at HA0.out HPQ.out)
    replace HB := Lib.hid (HB.out.trans (hb.mono HB.out.size))
    replace HEV := Lib.hid (HEV.out.below hb)
    replace HX := Lib.hid (HX.out.below hb)
    replace HA := Lib.hid (HA.out.below hb)
    clear hb
    have HD := Lib.hid hd
    clear hd CF HA0 hbs hp hq
    go_wp2_with fail
    refine (awake_any _ HEV.out).mono ?_
    rintro e w2 ⟨rfl, hb⟩
    replace HB := Lib.hid (HB.out.trans (hb.mono HB.out.size))
    replace HEV := Lib.hid (HEV.out.below hb)
    replace HX := Lib.hid (HX.out.below hb)
    replace HA := Lib.hid (HA.out.below hb)
    replace HD := Lib.hid (HD.out.below hb)
    clear hb
    have e1 := nch_int n (by omega)
    have hnc2 : (nch n : Int) ≤ 20 := by unfold nch; omega
    have hn600i : (n : Int) ≤ 600 := by omega
    have e2 : ((nch n + 2 : Nat) : Int) = (nch n : Int) + 2 := by omega
    have e3 : IntKind.i64.wrap ((n : Int) + 63) = (n : Int) + 63 := by rw [IntWalk.i64_in _ (by omega)]
    have e4 : IntKind.i64.wrap ((nch n : Int) + 2) = (nch n : Int) + 2 := by rw [IntWalk.i64_in _ (by omega)]
    generalize nch n = N at *
    go_wp2_with fail
    have hb : Below w2.heap.size w2 w2.drew := below_drew (Below.refl _ _)
    replace HB := Lib.hid (HB.out.trans (hb.mono HB.out.size))
    replace HEV := Lib.hid (HEV.out.below hb)
    replace HX := Lib.hid (HX.out.below hb)
    replace HA := Lib.hid (HA.out.below hb)
    replace HD := Lib.hid (HD.out.below hb)
    clear hb
    refine wp_region_mix 18 (fun w' => w'.cell? ⟨w.heap.size, 1, none⟩ = some (.int .u32 (E : Int)) ∧ w'.cell? ⟨w.heap.size, 2, none⟩ = some (.slice A n c)) (by kernel_rfl) (by decide) ?_
    generalize w2.drew = D at *
    have hS0 : D.cell? ⟨w.heap.size, 1, none⟩ = some (.int .u32 (E : Int)) ∧ D.cell? ⟨w.heap.size, 2, none⟩ = some (.slice A n c) := ⟨HX.out.cell 1, HX.out.cell 2⟩
    have HDL := Lib.hid (show ∀ k, PQ p q k → k < D.heap.size from fun k hk => by
      rcases hk with e | e
      · rw [e]; exact HD.out.1.lt
      · rw [e]; exact HD.out.2.1.lt)
    refine wpM_take (i := 0) (oi := ⟨some 13, _, _, _, _, _⟩) (v := ?_) rfl (by decide +kernel) (by decide +kernel) (by decide +kernel) (fun _ _ _ h => h) (Or.inl ⟨by rfl, ?_⟩) hS0 ?_
    case refine_2 => (intro w hSw; (try dsimp only at hSw); go_simp; try (with_reducible rfl))
    try simp only [Act.put, List.setIfInBounds_toArray, List.set_cons_zero, List.set_cons_succ]
    refine wpM_take (i := 1) (oi := ⟨some 14, _, _, _, _, _⟩) (v := ?_) rfl (by decide +kernel) (by decide +kernel) (by decide +kernel) (fun _ _ _ h => h) (Or.inl ⟨by rfl, ?_⟩) hS0 ?_
    case refine_2 => (intro w hSw; (try dsimp only at hSw); go_simp; try (with_reducible rfl))
    try simp only [Act.put, List.setIfInBounds_toArray, List.set_cons_zero, List.set_cons_succ]
    refine wpM_take (i := 2) (oi := ⟨some 15, _, _, _, _, _⟩) (v := ?_) rfl (by decide +kernel) (by decide +kernel) (by decide +kernel) (fun _ _ _ h => h) (Or.inl ⟨by rfl, ?_⟩) hS0 ?_
    case refine_2 => (intro w hSw; (try dsimp only at hSw); go_simp; try (with_reducible rfl))
    try simp only [Act.put, List.setIfInBounds_toArray, List.set_cons_zero, List.set_cons_succ]
    refine wpM_take (i := 3) (oi := ⟨some 16, _, _, _, _, _⟩) (v := ?_) rfl (by decide +kernel) (by decide +kernel) (by decide +kernel) (fun _ _ _ h => h) (Or.inl ⟨by rfl, ?_⟩) hS0 ?_
    case refine_2 => (intro w hSw; (try dsimp only at hSw); go_simp; try (with_reducible rfl))
    try simp only [Act.put, List.setIfInBounds_toArray, List.set_cons_zero, List.set_cons_succ]
    refine wpM_take (i := 4) (oi := ⟨some 17, _, _, _, _, _⟩) (v := ?_) rfl (by decide +kernel) (by decide +kernel) (by decide +kernel) (fun _ _ _ h => h) (Or.inl ⟨by rfl, ?_⟩) hS0 ?_
    case refine_2 => (intro w hSw; (try dsimp only at hSw); go_simp; try (with_reducible rfl))
    try simp only [Act.put, List.setIfInBounds_toArray, List.set_cons_zero, List.set_cons_succ]
    refine wpM_step (i := 5) (o := ⟨some 18, _, _, _, _, _⟩) rfl (by decide +kernel) (by decide) (fun K hK => ?_)
    go_simp
    go_at_call 21
    refine (cp_any A n c l D HA.out.at (by omega)).mono ?_
    rintro e9 w9 ⟨v9, rfl, ho9, hb9⟩
    have hS1 : w9.cell? ⟨w.heap.size, 1, none⟩ = some (.int .u32 (E : Int)) ∧ w9.cell? ⟨w.heap.size, 2, none⟩ = some (.slice A n c) := ⟨keepcell hb9 hS0.1, keepcell hb9 hS0.2⟩
    refine hK.out _ _ hS1 ?_
    clear hK K
    try simp only [Act.put, List.setIfInBounds_toArray, List.set_cons_zero, List.set_cons_succ]
    obtain ⟨A9, c9, hv9, hba9, hc9, hcm9⟩ := own_bytes3 (F := PQ p q) ho9 HDL.out
    rw [HLN.out] at hv9 hba9 hc9
    have HBA9 := Lib.hid hba9
    subst hv9
    replace HB := Lib.hid (HB.out.trans (hb9.mono HB.out.size))
    replace HEV := Lib.hid (HEV.out.below hb9)
    replace HX := Lib.hid (HX.out.below hb9)
    replace HA := Lib.hid (HA.out.below hb9)
    replace HD := Lib.hid (HD.out.below hb9)
    clear hb9
    clear ho9 hba9 hS0 HDL
    refine wpM_step (i := 6) (o := ⟨some 19, _, _, _, _, _⟩) rfl (by decide +kernel) (by decide) (fun K hK => ?_)
    go_simp
    go_at_call 20
    refine (SWrite_any w9 p q _ HD.out HNP.out.1 HEV.out E n c9 (by have : (St.new S).x = 0 := rfl; omega) hE32 A9 l HBA9.out (by omega) hc9 hcm9).mono ?_
    rintro e w10 ⟨rfl, hd, hc⟩
    rw [HR.out] at hd ⊢
    rw [r0]
    replace HB := Lib.hid (hc.below HB.out HPW.out HB.out.size)
    replace HEV := Lib.hid (HEV.out.chg hc HNP.out.1)
    replace HX := Lib.hid (HX.out.chg hc HNP.out.2)
    replace HA := Lib.hid (HA.out.chg hc)
    replace HD := Lib.hid hd
    clear hd hc
    have hS2 : w10.cell? ⟨w.heap.size, 1, none⟩ = some (.int .u32 (E : Int)) ∧ w10.cell? ⟨w.heap.size, 2, none⟩ = some (.slice A n c) := ⟨HX.out.cell 1, HX.out.cell 2⟩
    refine hK.out _ _ hS2 ?_
    clear hK K
    try simp only [Act.put, List.setIfInBounds_toArray, List.set_cons_zero, List.set_cons_succ]
    refine wpM_take (i := 7) (oi := ⟨some 20, _, _, _, _, _⟩) (v := ?_) rfl (by decide +kernel) (by decide +kernel) (by decide +kernel) (fun _ _ _ h => h) (Or.inl ⟨by rfl, ?_⟩) hS2 ?_
    case refine_2 => (intro w hSw; (try dsimp only at hSw); go_simp; try (with_reducible rfl))
    try simp only [Act.put, List.setIfInBounds_toArray, List.set_cons_zero, List.set_cons_succ]
    refine wpM_take (i := 8) (oi := ⟨some 21, _, _, _, _, _⟩) (v := ?_) rfl (by decide +kernel) (by decide +kernel) (by decide +kernel) (fun _ _ _ h => h) (Or.inl ⟨by rfl, ?_⟩) hS2 ?_
    case refine_2 => (intro w hSw; (try dsimp only at hSw); go_simp; try (with_reducible rfl))
    try simp only [Act.put, List.setIfInBounds_toArray, List.set_cons_zero, List.set_cons_succ]
    refine wpM_take (i := 9) (oi := ⟨some 22, _, _, _, _, _⟩) (v := ?_) rfl (by decide +kernel) (by decide +kernel) (by decide +kernel) (fun _ _ _ h => h) (Or.inl ⟨by rfl, ?_⟩) hS2 ?_
    case refine_2 => (intro w hSw; (try dsimp only at hSw); go_simp; try (with_reducible rfl))
    try simp only [Act.put, List.setIfInBounds_toArray, List.set_cons_zero, List.set_cons_succ]
    refine wpM_take (i := 11) (oi := ⟨some 24, _, _, _, _, _⟩) (v := ?_) rfl (by decide +kernel) (by decide +kernel) (by decide +kernel) (fun _ _ _ h => h) (Or.inl ⟨by rfl, ?_⟩) hS2 ?_
    case refine_2 => (intro w hSw; (try dsimp only at hSw); go_simp; try (with_reducible rfl))
    try simp only [Act.put, List.setIfInBounds_toArray, List.set_cons_zero, List.set_cons_succ]
    refine wpM_take (i := 12) (oi := ⟨some 25, _, _, _, _, _⟩) (v := ?_) rfl (by decide +kernel) (by decide +kernel) (by decide +kernel) (fun _ _ _ h => h) (Or.inl ⟨by rfl, ?_⟩) hS2 ?_
    case refine_2 => (intro w hSw; (try dsimp only at hSw); go_simp; try (with_reducible rfl))
    try simp only [Act.put, List.setIfInBounds_toArray, List.set_cons_zero, List.set_cons_succ]
    refine wpM_take (i := 13) (oi := ⟨some 26, _, _, _, _, _⟩) (v := ?_) rfl (by decide +kernel) (by decide +kernel) (by decide +kernel) (fun _ _ _ h => h) (Or.inl ⟨by rfl, ?_⟩) hS2 ?_
    case refine_2 => (intro w hSw; (try dsimp only at hSw); go_simp; try (with_reducible rfl))
    try simp only [Act.put, List.setIfInBounds_toArray, List.set_cons_zero, List.set_cons_succ]
    refine wpM_take (i := 14) (oi := ⟨some 27, _, _, _, _, _⟩) (v := ?_) rfl (by decide +kernel) (by decide +kernel) (by decide +kernel) (fun _ _ _ h => h) (Or.inl ⟨by rfl, ?_⟩) hS2 ?_
    case refine_2 => (intro w hSw; (try dsimp only at hSw); go_simp; try (with_reducible rfl))
    try simp only [Act.put, List.setIfInBounds_toArray, List.set_cons_zero, List.set_cons_succ]
    refine wpM_take (i := 15) (oi := ⟨some 28, _, _, _, _, _⟩) (v := ?_) rfl (by decide +kernel) (by decide +kernel) (by decide +kernel) (fun _ _ _ h => h) (Or.inl ⟨by rfl, ?_⟩) hS2 ?_
    case refine_2 => (intro w hSw; (try dsimp only at hSw); go_simp; try (with_reducible rfl))
    try simp only [Act.put, List.setIfInBounds_toArray, List.set_cons_zero, List.set_cons_succ]
    refine wpM_take (i := 16) (oi := ⟨some 29, _, _, _, _, _⟩) (v := ?_) rfl (by decide +kernel) (by decide +kernel) (by decide +kernel) (fun _ _ _ h => h) (Or.inl ⟨by rfl, ?_⟩) hS2 ?_
    case refine_2 => (intro w hSw; (try dsimp only at hSw); go_simp; try (with_reducible rfl))
    try simp only [Act.put, List.setIfInBounds_toArray, List.set_cons_zero, List.set_cons_succ]
    refine wpM_step (i := 10) (o := ⟨some 23, _, _, _, _, _⟩) rfl (by decide +kernel) (by decide) (fun K hK => ?_)
    go_simp
    go_at_call 28
    refine (Writes_any w10 p q _ HD.out).mono ?_
    rintro e w11 ⟨rfl, rfl⟩
    rw [rx]
    refine hK.out _ _ hS2 ?_
    clear hK K
    try simp only [Act.put, List.setIfInBounds_toArray, List.set_cons_zero, List.set_cons_succ]
    refine wpM_take (i := 17) (oi := ⟨some 30, _, _, _, _, _⟩) (v := ?_) rfl (by decide +kernel) (by decide +kernel) (by decide +kernel) (fun _ _ _ h => h) (Or.inl ⟨by rfl, ?_⟩) hS2 ?_
    case refine_2 => (intro w hSw; (try dsimp only at hSw); go_simp; try (with_reducible rfl))
    try simp only [Act.put, List.setIfInBounds_toArray, List.set_cons_zero, List.set_cons_succ]
    refine wpM_done (by decide +kernel) ?_
    simp only [List.drop_succ_cons, List.drop_zero]
    go_wp2
    go_ret
    exact ⟨by simp, HB.out⟩
  · have CF := Lib.hid (fun W => fresh_no W S E n c A (by omega) (by omega) hok)
    have HEV := Lib.hid hev
    have hbx : Below w.heap.size w (w.alloc (.cells #[.int .u8 (S : Int), .int .u32 (E : Int), .slice A n c] 49)) := (Below.refl _ _).alloc (Nat.le_refl _) _
    have HB := Lib.hid hbx
    replace HEV := Lib.hid (HEV.out.below hbx)
    clear hev hok hA hx0 hy0 hbx
    go_enter Tryd.func9, Tryd.ntmps9
    go_wp2_with fail
    refine (CF.out _).mono ?_
    rintro e w1 ⟨rfl, hb⟩
    replace HB := Lib.hid (HB.out.trans (hb.mono HB.out.size))
    replace HEV := Lib.hid (HEV.out.below hb)
    clear hb
    go_wp2_with fail
    refine (awake_any _ HEV.out).mono ?_
    rintro e w2 ⟨rfl, hb⟩
    replace HB := Lib.hid (HB.out.trans (hb.mono HB.out.size))
    replace HEV := Lib.hid (HEV.out.below hb)
    clear hb
    go_wp2_with fail
    refine (awake_any _ HEV.out).mono ?_
    rintro e w3 ⟨rfl, hb⟩
    replace HB := Lib.hid (HB.out.trans (hb.mono HB.out.size))
    replace HEV := Lib.hid (HEV.out.below hb)
    clear hb
    go_wp2
    go_ret
    exact ⟨rfl, HB.out⟩
end Go.Proofs.YthhpilkhcomhbaaDoor
