/- The walk of the law SnapshotFull. -/
import Derived.Test.YthhpilkhcomhbaaDoorLmt
namespace Go.Proofs.YthhpilkhcomhbaaDoor
open Go.ChangeShapes Go.WideShapes Go.ChangeAt Go.RowKit Go.ChangeMaps

theorem make_bytes (m : Nat) (hm : m ≤ 1000000) (w : World) : (Instr.makeSlice 36 (.int .i64 (m : Int)) (.int .i64 (m : Int))).run Tryd.prog w = .ok (.slice (some ⟨w.heap.size, 0, none⟩) m m) (w.alloc (.cells (bc (List.replicate m 0)).toArray 5)) := by
  obtain ⟨i, hi, hz, hs, hb⟩ := info_parts Tryd.info5
  have := run_make (P := Tryd.prog) w 36 5 i _ Tryd.underlying36 hi hz .i64 .i64 m m (by omega) (Int.le_refl _) (by rw [hb]; omega) (by omega)
  have e : madeCells (Value.int IntKind.u8 0).cells m = (bc (List.replicate m 0)).toArray := by
    rw [bc_rep]
    exact made_rep 1 m _ (by decide)
  simp only [Int.toNat_natCast] at this
  rw [hs, Nat.mul_one, e] at this
  simpa using this
set_option maxRecDepth 100000 in
set_option maxHeartbeats 4000000 in
theorem snapshotFull_walk (x0 y0 : Int) (A : Option Addr) (n c : Nat) (l : List UInt8) (m0 : Int) (w : World) (hx0 : 0 ≤ x0 ∧ x0 ≤ 255) (hy0 : 0 ≤ y0 ∧ y0 ≤ 4294967295) (hA0 : BytesAt w A n l ∧ n ≤ c ∧ c ≤ 9223372036854775807) (hm0 : 0 ≤ m0) (hm1 : m0 ≤ 255) (hev : Env w) :
    Calls Tryd.prog 8 #[.agg #[.int .u8 x0, .int .u32 y0, .slice A n c], .int .u8 m0] w fun e w' => e = .returned (.bool true) ∧ Below w.heap.size w w' := by
  obtain ⟨S, rfl⟩ : ∃ S : Nat, x0 = S := ⟨x0.toNat, by omega⟩
  obtain ⟨E, rfl⟩ : ∃ E : Nat, y0 = E := ⟨y0.toNat, by omega⟩
  obtain ⟨hA, hnc, hcm⟩ := hA0
  have hln : l.length = n := hA.1
  have hE32 : E < 4294967296 := by omega
  obtain ⟨M, rfl⟩ : ∃ M : Nat, m0 = M := ⟨m0.toNat, by omega⟩
  by_cases hok : okV S E n
  · obtain ⟨r, hr, r0, rf, rh, rx, rn, r64, ra, rb, rs⟩ := ver_facts hok hln hE32
    have HOK := Lib.hid hok
    have HR := Lib.hid hr
    have HRH := Lib.hid rh
    have HR64 := Lib.hid r64
    have HRS := Lib.hid rs
    have HRN := Lib.hid rn
    have HLN := Lib.hid hln
    have hS60 : S ≤ 60 := hok.2.1
    have hS7 : 7 ≤ S := hok.1
    have hn600 : n ≤ 600 := hok.2.2.2.1
    have CF := Lib.hid (fun W => fresh_ok W S E n c A (by omega) hok)
    have HEV := Lib.hid hev
    have hbx : Below w.heap.size w (w.alloc (.cells #[.int .u8 (S : Int), .int .u32 (E : Int), .slice A n c] 49)) := (Below.refl _ _).alloc (Nat.le_refl _) _
    have HB := Lib.hid hbx
    replace HEV := Lib.hid (HEV.out.below hbx)
    have HX := Lib.hid (show Blk (w.alloc (.cells #[.int .u8 (S : Int), .int .u32 (E : Int), .slice A n c] 49)) w.heap.size 49 #[.int .u8 (S : Int), .int .u32 (E : Int), .slice A n c] from Blk.new w 49 _)
    have HA0 := Lib.hid (hA.below hbx)
    have hbs : w.heap.size < (w.alloc (.cells #[.int .u8 (S : Int), .int .u32 (E : Int), .slice A n c] 49)).heap.size := HX.out.lt
    have HE0 := Lib.hid hok.2.2.2.2
    clear hev hok hA hx0 hy0 hbx hr rh r64 rs rn hln
    go_enter Tryd.func8, Tryd.ntmps8
    go_wp2_with fail
    refine (CF.out _).mono ?_
    rintro e w1 ⟨p, q, rfl, hp, hq, hd, hb⟩
    have HPQ := Lib.hid (show ∀ k, PQ p q k → (w.alloc (.cells #[.int .u8 (S : Int), .int .u32 (E : Int), .slice A n c] 49)).heap.size ≤ k from fun k hk => by rcases hk with e | e <;> omega)
    have HPW := Lib.hid (show ∀ k, PQ p q k → w.heap.size ≤ k from fun k hk => Nat.le_trans (Nat.le_of_lt hbs) (HPQ.out k hk))
    have HNP := Lib.hid (show ¬ PQ p q 0 ∧ ¬ PQ p q w.heap.size from ⟨fun hk => by have := HPQ.out 0 hk; omega, fun hk => by have := HPQ.out _ hk; omega⟩)
    have HA := Lib.hid (BA.of_at HA0.out HPQ.out)
    replace HB := Lib.hid (HB.out.trans (hb.mono HB.out.size))
    replace HEV := Lib.hid (HEV.out.below hb)
    replace HX := Lib.hid (HX.out.below hb)
    replace HA := Lib.hid (HA.out.below hb)
    clear hb
    have HD := Lib.hid hd
    clear hd CF HA0 hbs hp hq
    go_wp2_with fail
    refine (awake_any _ HEV.out).mono ?_
    rintro e w2 ⟨rfl, hb⟩
    replace HB := Lib.hid (HB.out.trans (hb.mono HB.out.size))
    replace HEV := Lib.hid (HEV.out.below hb)
    replace HX := Lib.hid (HX.out.below hb)
    replace HA := Lib.hid (HA.out.below hb)
    replace HD := Lib.hid (HD.out.below hb)
    clear hb
    have HRE := Lib.hid (read_of (s := r.1) HRH.out rf HE0.out)
    have CC := Lib.hid (fun W => RCapacity_any W (S : Int))
    have hcap : capM (S : Int) = ((64 * areaOf S : Nat) : Int) := by unfold capM; rw [if_pos ⟨by omega, by omega⟩, Int.toNat_natCast]; omega
    rw [hcap] at CC
    have hK : 64 * areaOf S ≤ 960 := by unfold areaOf; omega
    obtain ⟨K, hKK⟩ : ∃ K, 64 * areaOf S = K := ⟨_, rfl⟩
    rw [hKK] at CC hK
    obtain ⟨long, hlong⟩ : ∃ x, K + 1 + M = x := ⟨_, rfl⟩
    have HMK := Lib.hid (fun W => make_bytes long (by omega) W)
    have hSR := HRN.out
    obtain ⟨t, E2, e5, e6, hE2⟩ : ∃ t E2 : Nat, (M : Int).tmod (E : Int) = (t : Int) ∧ IntKind.u32.wrap ((E : Int) - (t : Int)) = (E2 : Int) ∧ E2 ≤ E := by
      have hE1 := HE0.out
      have hlt : M % E < E := Nat.mod_lt _ (by omega)
      exact ⟨M % E, E - M % E, by rw [Int.tmod_eq_emod_of_nonneg (by omega)]; exact (Int.natCast_emod M E).symm, by rw [IntKind.wrap_u32]; omega, by omega⟩
    have e3 : IntKind.u32.wrap (M : Int) = M := by rw [IntKind.wrap_u32]; omega
    have hEn : ¬ E = 0 := HE0.out
    have hEi : ¬ (E : Int) = 0 := by have := HE0.out; omega
    have hEb : ((E : Int) == 0) = false := by simp; omega
    have hEd : decide ((E : Int) = 0) = false := by simp; omega
    have HNC := Lib.hid (show r.1.x ≤ 22 by rw [rx]; unfold nch; omega)
    have hLI : ((K : Int) + 1 + (M : Int)) = (long : Int) := by omega
    have hKi : (K : Int) ≤ 960 := by omega
    have hMi : (M : Int) ≤ 255 := by omega
    have HMK2 : ∀ W, (Instr.makeSlice 36 (.int .i64 ((K : Int) + 1 + (M : Int))) (.int .i64 ((K : Int) + 1 + (M : Int)))).run Tryd.prog W = .ok (.slice (some ⟨W.heap.size, 0, none⟩) long long) (W.alloc (.cells (bc (List.replicate long 0)).toArray 5)) := fun W => by rw [hLI]; exact HMK.out W
    have HHL := Lib.hid (show K < long ∧ long ≤ 1300 by omega)
    have HLL := Lib.hid hLI
    have HK2 := Lib.hid hKK
    have CWB := Lib.hid (fun W (hW : Dk W p q r.1) (he : Env W) => SWrite_any W p q _ hW HNP.out.1 he E2 0 0 (by have := HNC.out; omega) (by omega) none [] ⟨rfl, fun h => absurd h (by omega)⟩ (by omega) (by omega) (by omega))
    rw [SW_old HRH.out rf hE2] at CWB
    clear hlong HMK hcap hLI hKK hSR
    rcases (show E + 1 = 4294967296 ∨ E + 1 < 4294967296 by omega) with hE1 | hE1
    · have e1 : IntKind.u32.wrap ((E : Int) + 1) = 0 := by rw [IntKind.wrap_u32]; omega
      have CWA := Lib.hid (fun W (hW : Dk W p q r.1) (he : Env W) A (hA : BA (PQ p q) W A long (List.replicate long 0)) => SWrite_any W p q _ hW HNP.out.1 he 0 long long (by have := HNC.out; have := HHL.out; omega) (by omega) A (List.replicate long 0) hA (by have := HHL.out; omega) (by omega) (by have := HHL.out; omega))
      rw [SW_old HRH.out rf (Nat.zero_le E)] at CWA
      clear hE1
      go_wp2_with fail
      have hb : Below w2.heap.size w2 w2.drew := below_drew (Below.refl _ _)
      replace HB := Lib.hid (HB.out.trans (hb.mono HB.out.size))
      replace HEV := Lib.hid (HEV.out.below hb)
      replace HX := Lib.hid (HX.out.below hb)
      replace HA := Lib.hid (HA.out.below hb)
      replace HD := Lib.hid (HD.out.below hb)
      clear hb
      refine wp_region_mix 6 (fun w' => w'.cell? ⟨w.heap.size, 1, none⟩ = some (.int .u32 (E : Int)) ∧ w'.cell? ⟨w.heap.size, 2, none⟩ = some (.slice A n c)) (by kernel_rfl) (by decide) ?_
      generalize w2.drew = D at *
      have hS0 : D.cell? ⟨w.heap.size, 1, none⟩ = some (.int .u32 (E : Int)) ∧ D.cell? ⟨w.heap.size, 2, none⟩ = some (.slice A n c) := ⟨HX.out.cell 1, HX.out.cell 2⟩
      have HDL := Lib.hid (show ∀ k, PQ p q k → k < D.heap.size from fun k hk => by
        rcases hk with e | e
        · rw [e]; exact HD.out.1.lt
        · rw [e]; exact HD.out.2.1.lt)
      refine wpM_take (i := 0) (oi := ⟨some 22, _, _, _, _, _⟩) (v := ?_) rfl (by decide +kernel) (by decide +kernel) (by decide +kernel) (fun _ _ _ h => h) (Or.inl ⟨by rfl, ?_⟩) hS0 ?_
      case refine_2 => (intro w hSw; (try dsimp only at hSw); go_simp; try (with_reducible rfl))
      try simp only [Act.put, List.setIfInBounds_toArray, List.set_cons_zero, List.set_cons_succ]
      refine wpM_take (i := 1) (oi := ⟨some 23, _, _, _, _, _⟩) (v := ?_) rfl (by decide +kernel) (by decide +kernel) (by decide +kernel) (fun _ _ _ h => h) (Or.inl ⟨by rfl, ?_⟩) hS0 ?_
      case refine_2 => (intro w hSw; (try dsimp only at hSw); go_simp; try (with_reducible rfl))
      try simp only [Act.put, List.setIfInBounds_toArray, List.set_cons_zero, List.set_cons_succ]
      refine wpM_take (i := 2) (oi := ⟨some 24, _, _, _, _, _⟩) (v := ?_) rfl (by decide +kernel) (by decide +kernel) (by decide +kernel) (fun _ _ _ h => h) (Or.inl ⟨by rfl, ?_⟩) hS0 ?_
      case refine_2 => (intro w hSw; (try dsimp only at hSw); go_simp; try (with_reducible rfl))
      try simp only [Act.put, List.setIfInBounds_toArray, List.set_cons_zero, List.set_cons_succ]
      refine wpM_take (i := 3) (oi := ⟨some 25, _, _, _, _, _⟩) (v := ?_) rfl (by decide +kernel) (by decide +kernel) (by decide +kernel) (fun _ _ _ h => h) (Or.inl ⟨by rfl, ?_⟩) hS0 ?_
      case refine_2 => (intro w hSw; (try dsimp only at hSw); go_simp; try (with_reducible rfl))
      try simp only [Act.put, List.setIfInBounds_toArray, List.set_cons_zero, List.set_cons_succ]
      refine wpM_take (i := 4) (oi := ⟨some 26, _, _, _, _, _⟩) (v := ?_) rfl (by decide +kernel) (by decide +kernel) (by decide +kernel) (fun _ _ _ h => h) (Or.inl ⟨by rfl, ?_⟩) hS0 ?_
      case refine_2 => (intro w hSw; (try dsimp only at hSw); go_simp; try (with_reducible rfl))
      try simp only [Act.put, List.setIfInBounds_toArray, List.set_cons_zero, List.set_cons_succ]
      refine wpM_step (i := 5) (o := ⟨some 27, _, _, _, _, _⟩) rfl (by decide +kernel) (by decide) (fun K hK => ?_)
      go_simp
      go_at_call 21
      refine (cp_any A n c l D HA.out.at (by omega)).mono ?_
      rintro e9 w9 ⟨v9, rfl, ho9, hb9⟩
      have hS1 : w9.cell? ⟨w.heap.size, 1, none⟩ = some (.int .u32 (E : Int)) ∧ w9.cell? ⟨w.heap.size, 2, none⟩ = some (.slice A n c) := ⟨keepcell hb9 hS0.1, keepcell hb9 hS0.2⟩
      refine hK.out _ _ hS1 ?_
      clear hK K
      try simp only [Act.put, List.setIfInBounds_toArray, List.set_cons_zero, List.set_cons_succ]
      refine wpM_done (by decide +kernel) ?_
      simp only [List.drop_succ_cons, List.drop_zero]
      obtain ⟨A9, c9, hv9, hba9, hc9, hcm9⟩ := own_bytes3 (F := PQ p q) ho9 HDL.out
      rw [HLN.out] at hv9 hba9 hc9
      have HBA9 := Lib.hid hba9
      subst hv9
      replace HB := Lib.hid (HB.out.trans (hb9.mono HB.out.size))
      replace HEV := Lib.hid (HEV.out.below hb9)
      replace HX := Lib.hid (HX.out.below hb9)
      replace HA := Lib.hid (HA.out.below hb9)
      replace HD := Lib.hid (HD.out.below hb9)
      clear hb9
      clear ho9 hba9 hS0 hS1 HDL
      go_wp2_with fail
      refine (SWrite_any w9 p q _ HD.out HNP.out.1 HEV.out E n c9 (by have : (St.new S).x = 0 := rfl; omega) hE32 A9 l HBA9.out (by omega) hc9 hcm9).mono ?_
      rintro e w10 ⟨rfl, hd, hc⟩
      rw [HR.out] at hd ⊢
      rw [r0]
      replace HB := Lib.hid (hc.below HB.out HPW.out HB.out.size)
      replace HEV := Lib.hid (HEV.out.chg hc HNP.out.1)
      replace HX := Lib.hid (HX.out.chg hc HNP.out.2)
      replace HA := Lib.hid (HA.out.chg hc)
      replace HD := Lib.hid hd
      clear hd hc
      clear HBA9 hc9 hcm9
      go_wp2_with fail
      refine (Writes_any w10 p q _ HD.out).mono ?_
      rintro e w11 ⟨rfl, rfl⟩
      have c0 : w10.cell? ⟨w.heap.size, 0, none⟩ = some (.int .u8 (S : Int)) := HX.out.cell 0
      go_wp2_with fail
      refine (CC.out _).mono ?_
      rintro e w13 ⟨rfl, hb⟩
      replace HB := Lib.hid (HB.out.trans (hb.mono HB.out.size))
      replace HEV := Lib.hid (HEV.out.below hb)
      replace HX := Lib.hid (HX.out.below hb)
      replace HA := Lib.hid (HA.out.below hb)
      replace HD := Lib.hid (HD.out.below hb)
      clear hb
      go_wp2_with fail
      have hb : Below w13.heap.size w13 (w13.alloc (.cells (bc (List.replicate long 0)).toArray 5)) := (Below.refl _ _).alloc (Nat.le_refl _) _
      have HLO := Lib.hid (ba_of_blk (F := PQ p q) (n := long) (Blk.new w13 5 (bc (List.replicate long 0)).toArray) (by simp) (HD.out.fresh (Nat.le_refl _)))
      replace HB := Lib.hid (HB.out.trans (hb.mono HB.out.size))
      replace HEV := Lib.hid (HEV.out.below hb)
      replace HX := Lib.hid (HX.out.below hb)
      replace HA := Lib.hid (HA.out.below hb)
      replace HD := Lib.hid (HD.out.below hb)
      clear hb
      clear c0
      generalize w13.heap.size = gl at *
      generalize w13.alloc (.cells (bc (List.replicate long 0)).toArray 5) = wz at *
      go_wp2_with fail
      have hb : Below wz.heap.size wz wz.drew := below_drew (Below.refl _ _)
      replace HLO := Lib.hid (HLO.out.below hb)
      replace HB := Lib.hid (HB.out.trans (hb.mono HB.out.size))
      replace HEV := Lib.hid (HEV.out.below hb)
      replace HX := Lib.hid (HX.out.below hb)
      replace HA := Lib.hid (HA.out.below hb)
      replace HD := Lib.hid (HD.out.below hb)
      clear hb
      refine wp_region_mix 16 (fun w' => w'.cell? ⟨w.heap.size, 1, none⟩ = some (.int .u32 (E : Int)) ∧ w'.cell? ⟨w.heap.size, 2, none⟩ = some (.slice A n c)) (by kernel_rfl) (by decide) ?_
      generalize wz.drew = D at *
      have hS0 : D.cell? ⟨w.heap.size, 1, none⟩ = some (.int .u32 (E : Int)) ∧ D.cell? ⟨w.heap.size, 2, none⟩ = some (.slice A n c) := ⟨HX.out.cell 1, HX.out.cell 2⟩
      refine wpM_take (i := 0) (oi := ⟨some 41, _, _, _, _, _⟩) (v := ?_) rfl (by decide +kernel) (by decide +kernel) (by decide +kernel) (fun _ _ _ h => h) (Or.inl ⟨by rfl, ?_⟩) hS0 ?_
      case refine_2 => (intro w hSw; (try dsimp only at hSw); go_simp; try (with_reducible rfl))
      try simp only [Act.put, List.setIfInBounds_toArray, List.set_cons_zero, List.set_cons_succ]
      refine wpM_take (i := 1) (oi := ⟨some 42, _, _, _, _, _⟩) (v := ?_) rfl (by decide +kernel) (by decide +kernel) (by decide +kernel) (fun _ _ _ h => h) (Or.inl ⟨by rfl, ?_⟩) hS0 ?_
      case refine_2 => (intro w hSw; (try dsimp only at hSw); go_simp; try (with_reducible rfl))
      try simp only [Act.put, List.setIfInBounds_toArray, List.set_cons_zero, List.set_cons_succ]
      refine wpM_take (i := 2) (oi := ⟨some 43, _, _, _, _, _⟩) (v := ?_) rfl (by decide +kernel) (by decide +kernel) (by decide +kernel) (fun _ _ _ h => h) (Or.inl ⟨by rfl, ?_⟩) hS0 ?_
      case refine_2 => (intro w hSw; (try dsimp only at hSw); go_simp; try (with_reducible rfl))
      try simp only [Act.put, List.setIfInBounds_toArray, List.set_cons_zero, List.set_cons_succ]
      refine wpM_take (i := 3) (oi := ⟨some 44, _, _, _, _, _⟩) (v := ?_) rfl (by decide +kernel) (by decide +kernel) (by decide +kernel) (fun _ _ _ h => h) (Or.inl ⟨by rfl, ?_⟩) hS0 ?_
      case refine_2 => (intro w hSw; (try dsimp only at hSw); go_simp; try (with_reducible rfl))
      try simp only [Act.put, List.setIfInBounds_toArray, List.set_cons_zero, List.set_cons_succ]
      refine wpM_take (i := 4) (oi := ⟨some 45, _, _, _, _, _⟩) (v := ?_) rfl (by decide +kernel) (by decide +kernel) (by decide +kernel) (fun _ _ _ h => h) (Or.inl ⟨by rfl, ?_⟩) hS0 ?_
      case refine_2 => (intro w hSw; (try dsimp only at hSw); go_simp; try (with_reducible rfl))
      try simp only [Act.put, List.setIfInBounds_toArray, List.set_cons_zero, List.set_cons_succ]
      refine wpM_take (i := 6) (oi := ⟨some 47, _, _, _, _, _⟩) (v := ?_) rfl (by decide +kernel) (by decide +kernel) (by decide +kernel) (fun _ _ _ h => h) (Or.inl ⟨by rfl, ?_⟩) hS0 ?_
      case refine_2 => (intro w hSw; (try dsimp only at hSw); go_simp; try (with_reducible rfl))
      try simp only [Act.put, List.setIfInBounds_toArray, List.set_cons_zero, List.set_cons_succ]
      refine wpM_take (i := 7) (oi := ⟨some 48, _, _, _, _, _⟩) (v := ?_) rfl (by decide +kernel) (by decide +kernel) (by decide +kernel) (fun _ _ _ h => h) (Or.inl ⟨by rfl, ?_⟩) hS0 ?_
      case refine_2 => (intro w hSw; (try dsimp only at hSw); go_simp; try (with_reducible rfl))
      try simp only [Act.put, List.setIfInBounds_toArray, List.set_cons_zero, List.set_cons_succ]
      refine wpM_take (i := 8) (oi := ⟨some 49, _, _, _, _, _⟩) (v := ?_) rfl (by decide +kernel) (by decide +kernel) (by decide +kernel) (fun _ _ _ h => h) (Or.inl ⟨by rfl, ?_⟩) hS0 ?_
      case refine_2 => (intro w hSw; (try dsimp only at hSw); go_simp; try (with_reducible rfl))
      try simp only [Act.put, List.setIfInBounds_toArray, List.set_cons_zero, List.set_cons_succ]
      refine wpM_take (i := 9) (oi := ⟨some 50, _, _, _, _, _⟩) (v := ?_) rfl (by decide +kernel) (by decide +kernel) (by decide +kernel) (fun _ _ _ h => h) (Or.inl ⟨by rfl, ?_⟩) hS0 ?_
      case refine_2 => (intro w hSw; (try dsimp only at hSw); go_simp; try (with_reducible rfl))
      try simp only [Act.put, List.setIfInBounds_toArray, List.set_cons_zero, List.set_cons_succ]
      refine wpM_take (i := 10) (oi := ⟨some 51, _, _, _, _, _⟩) (v := ?_) rfl (by decide +kernel) (by decide +kernel) (by decide +kernel) (fun _ _ _ h => h) (Or.inl ⟨by rfl, ?_⟩) hS0 ?_
      case refine_2 => (intro w hSw; (try dsimp only at hSw); go_simp; try (with_reducible rfl))
      try simp only [Act.put, List.setIfInBounds_toArray, List.set_cons_zero, List.set_cons_succ]
      refine wpM_take (i := 11) (oi := ⟨some 52, _, _, _, _, _⟩) (v := ?_) rfl (by decide +kernel) (by decide +kernel) (by decide +kernel) (fun _ _ _ h => h) (Or.inl ⟨by rfl, ?_⟩) hS0 ?_
      case refine_2 => (intro w hSw; (try dsimp only at hSw); go_simp; try (with_reducible rfl))
      try simp only [Act.put, List.setIfInBounds_toArray, List.set_cons_zero, List.set_cons_succ]
      refine wpM_take (i := 12) (oi := ⟨some 53, _, _, _, _, _⟩) (v := ?_) rfl (by decide +kernel) (by decide +kernel) (by decide +kernel) (fun _ _ _ h => h) (Or.inl ⟨by rfl, ?_⟩) hS0 ?_
      case refine_2 => (intro w hSw; (try dsimp only at hSw); go_simp; try (with_reducible rfl))
      try simp only [Act.put, List.setIfInBounds_toArray, List.set_cons_zero, List.set_cons_succ]
      refine wpM_take (i := 13) (oi := ⟨some 54, _, _, _, _, _⟩) (v := ?_) rfl (by decide +kernel) (by decide +kernel) (by decide +kernel) (fun _ _ _ h => h) (Or.inl ⟨by rfl, ?_⟩) hS0 ?_
      case refine_2 => (intro w hSw; (try dsimp only at hSw); go_simp; try (with_reducible rfl))
      try simp only [Act.put, List.setIfInBounds_toArray, List.set_cons_zero, List.set_cons_succ]
      refine wpM_take (i := 14) (oi := ⟨some 55, _, _, _, _, _⟩) (v := ?_) rfl (by decide +kernel) (by decide +kernel) (by decide +kernel) (fun _ _ _ h => h) (Or.inl ⟨by rfl, ?_⟩) hS0 ?_
      case refine_2 => (intro w hSw; (try dsimp only at hSw); go_simp; try (with_reducible rfl))
      try simp only [Act.put, List.setIfInBounds_toArray, List.set_cons_zero, List.set_cons_succ]
      refine wpM_step (i := 5) (o := ⟨some 46, _, _, _, _, _⟩) rfl (by decide +kernel) (by decide) (fun K hK => ?_)
      go_simp
      go_at_call 20
      refine (CWA.out D HD.out HEV.out _ HLO.out).mono ?_
      rintro e w14 ⟨rfl, hd, hc⟩
      replace HB := Lib.hid (hc.below HB.out HPW.out HB.out.size)
      replace HEV := Lib.hid (HEV.out.chg hc HNP.out.1)
      replace HX := Lib.hid (HX.out.chg hc HNP.out.2)
      replace HA := Lib.hid (HA.out.chg hc)
      replace HLO := Lib.hid (HLO.out.chg hc)
      replace HD := Lib.hid hd
      clear hd hc
      have hS1 : w14.cell? ⟨w.heap.size, 1, none⟩ = some (.int .u32 (E : Int)) ∧ w14.cell? ⟨w.heap.size, 2, none⟩ = some (.slice A n c) := ⟨HX.out.cell 1, HX.out.cell 2⟩
      refine hK.out _ _ hS1 ?_
      clear hK K
      try simp only [Act.put, List.setIfInBounds_toArray, List.set_cons_zero, List.set_cons_succ]
      refine wpM_step (i := 15) (o := ⟨some 56, _, _, _, _, _⟩) rfl (by decide +kernel) (by decide) (fun K hK => ?_)
      go_simp
      go_at_call 20
      refine (CWB.out w14 HD.out HEV.out).mono ?_
      rintro e w15 ⟨rfl, hd, hc⟩
      replace HB := Lib.hid (hc.below HB.out HPW.out HB.out.size)
      replace HEV := Lib.hid (HEV.out.chg hc HNP.out.1)
      replace HX := Lib.hid (HX.out.chg hc HNP.out.2)
      replace HA := Lib.hid (HA.out.chg hc)
      replace HLO := Lib.hid (HLO.out.chg hc)
      replace HD := Lib.hid hd
      clear hd hc
      have hS2 : w15.cell? ⟨w.heap.size, 1, none⟩ = some (.int .u32 (E : Int)) ∧ w15.cell? ⟨w.heap.size, 2, none⟩ = some (.slice A n c) := ⟨HX.out.cell 1, HX.out.cell 2⟩
      refine hK.out _ _ hS2 ?_
      clear hK K
      try simp only [Act.put, List.setIfInBounds_toArray, List.set_cons_zero, List.set_cons_succ]
      refine wpM_done (by decide +kernel) ?_
      simp only [List.drop_succ_cons, List.drop_zero]
      go_wp2_with fail
      have CR := Lib.hid (SRead_any w15 p q _ HD.out HNP.out.1 HEV.out)
      rw [HRE.out] at CR
      go_wp2_with fail
      refine CR.out.mono ?_
      rintro e w16 ⟨v16, rfl, ho16, hb⟩
      replace HB := Lib.hid (HB.out.trans (hb.mono HB.out.size))
      replace HEV := Lib.hid (HEV.out.below hb)
      replace HX := Lib.hid (HX.out.below hb)
      replace HA := Lib.hid (HA.out.below hb)
      replace HD := Lib.hid (HD.out.below hb)
      clear hb
      clear CR
      obtain ⟨A16, c16, hv16, hb16⟩ := own_bytes ho16
      rw [HLN.out] at hv16 hb16
      subst hv16
      have hst := string_at (c := c16) hb16
      have hst2 := string_at (c := c) HA.out.at
      clear ho16 hb16
      have c1 : w16.cell? ⟨w.heap.size, 1, none⟩ = some (.int .u32 (E : Int)) := HX.out.cell 1
      have c2 : w16.cell? ⟨w.heap.size, 2, none⟩ = some (.slice A n c) := HX.out.cell 2
      go_wp2_with fail
      refine (Writes_any w16 p q _ HD.out).mono ?_
      rintro e w17 ⟨rfl, rfl⟩
      go_wp2
      go_ret
      exact ⟨by simp, HB.out⟩
    · have e1 : IntKind.u32.wrap ((E : Int) + 1) = ((E + 1 : Nat) : Int) := by rw [IntKind.wrap_u32]; omega
      have CWA := Lib.hid (fun W (hW : Dk W p q r.1) (he : Env W) A (hA : BA (PQ p q) W A long (List.replicate long 0)) => SWrite_any W p q _ hW HNP.out.1 he (E + 1) long long (by have := HNC.out; have := HHL.out; omega) hE1 A (List.replicate long 0) hA (by have := HHL.out; omega) (by omega) (by have := HHL.out; omega))
      rw [SW_full HRH.out rf (Nat.lt_succ_self E) (by rw [HRN.out, HK2.out, List.length_replicate]; exact HHL.out.1)] at CWA
      clear hE1
      go_wp2_with fail
      have hb : Below w2.heap.size w2 w2.drew := below_drew (Below.refl _ _)
      replace HB := Lib.hid (HB.out.trans (hb.mono HB.out.size))
      replace HEV := Lib.hid (HEV.out.below hb)
      replace HX := Lib.hid (HX.out.below hb)
      replace HA := Lib.hid (HA.out.below hb)
      replace HD := Lib.hid (HD.out.below hb)
      clear hb
      refine wp_region_mix 6 (fun w' => w'.cell? ⟨w.heap.size, 1, none⟩ = some (.int .u32 (E : Int)) ∧ w'.cell? ⟨w.heap.size, 2, none⟩ = some (.slice A n c)) (by kernel_rfl) (by decide) ?_
      generalize w2.drew = D at *
      have hS0 : D.cell? ⟨w.heap.size, 1, none⟩ = some (.int .u32 (E : Int)) ∧ D.cell? ⟨w.heap.size, 2, none⟩ = some (.slice A n c) := ⟨HX.out.cell 1, HX.out.cell 2⟩
      have HDL := Lib.hid (show ∀ k, PQ p q k → k < D.heap.size from fun k hk => by
        rcases hk with e | e
        · rw [e]; exact HD.out.1.lt
        · rw [e]; exact HD.out.2.1.lt)
      refine wpM_take (i := 0) (oi := ⟨some 22, _, _, _, _, _⟩) (v := ?_) rfl (by decide +kernel) (by decide +kernel) (by decide +kernel) (fun _ _ _ h => h) (Or.inl ⟨by rfl, ?_⟩) hS0 ?_
      case refine_2 => (intro w hSw; (try dsimp only at hSw); go_simp; try (with_reducible rfl))
      try simp only [Act.put, List.setIfInBounds_toArray, List.set_cons_zero, List.set_cons_succ]
      refine wpM_take (i := 1) (oi := ⟨some 23, _, _, _, _, _⟩) (v := ?_) rfl (by decide +kernel) (by decide +kernel) (by decide +kernel) (fun _ _ _ h => h) (Or.inl ⟨by rfl, ?_⟩) hS0 ?_
      case refine_2 => (intro w hSw; (try dsimp only at hSw); go_simp; try (with_reducible rfl))
      try simp only [Act.put, List.setIfInBounds_toArray, List.set_cons_zero, List.set_cons_succ]
      refine wpM_take (i := 2) (oi := ⟨some 24, _, _, _, _, _⟩) (v := ?_) rfl (by decide +kernel) (by decide +kernel) (by decide +kernel) (fun _ _ _ h => h) (Or.inl ⟨by rfl, ?_⟩) hS0 ?_
      case refine_2 => (intro w hSw; (try dsimp only at hSw); go_simp; try (with_reducible rfl))
      try simp only [Act.put, List.setIfInBounds_toArray, List.set_cons_zero, List.set_cons_succ]
      refine wpM_take (i := 3) (oi := ⟨some 25, _, _, _, _, _⟩) (v := ?_) rfl (by decide +kernel) (by decide +kernel) (by decide +kernel) (fun _ _ _ h => h) (Or.inl ⟨by rfl, ?_⟩) hS0 ?_
      case refine_2 => (intro w hSw; (try dsimp only at hSw); go_simp; try (with_reducible rfl))
      try simp only [Act.put, List.setIfInBounds_toArray, List.set_cons_zero, List.set_cons_succ]
      refine wpM_take (i := 4) (oi := ⟨some 26, _, _, _, _, _⟩) (v := ?_) rfl (by decide +kernel) (by decide +kernel) (by decide +kernel) (fun _ _ _ h => h) (Or.inl ⟨by rfl, ?_⟩) hS0 ?_
      case refine_2 => (intro w hSw; (try dsimp only at hSw); go_simp; try (with_reducible rfl))
      try simp only [Act.put, List.setIfInBounds_toArray, List.set_cons_zero, List.set_cons_succ]
      refine wpM_step (i := 5) (o := ⟨some 27, _, _, _, _, _⟩) rfl (by decide +kernel) (by decide) (fun K hK => ?_)
      go_simp
      go_at_call 21
      refine (cp_any A n c l D HA.out.at (by omega)).mono ?_
      rintro e9 w9 ⟨v9, rfl, ho9, hb9⟩
      have hS1 : w9.cell? ⟨w.heap.size, 1, none⟩ = some (.int .u32 (E : Int)) ∧ w9.cell? ⟨w.heap.size, 2, none⟩ = some (.slice A n c) := ⟨keepcell hb9 hS0.1, keepcell hb9 hS0.2⟩
      refine hK.out _ _ hS1 ?_
      clear hK K
      try simp only [Act.put, List.setIfInBounds_toArray, List.set_cons_zero, List.set_cons_succ]
      refine wpM_done (by decide +kernel) ?_
      simp only [List.drop_succ_cons, List.drop_zero]
      obtain ⟨A9, c9, hv9, hba9, hc9, hcm9⟩ := own_bytes3 (F := PQ p q) ho9 HDL.out
      rw [HLN.out] at hv9 hba9 hc9
      have HBA9 := Lib.hid hba9
      subst hv9
      replace HB := Lib.hid (HB.out.trans (hb9.mono HB.out.size))
      replace HEV := Lib.hid (HEV.out.below hb9)
      replace HX := Lib.hid (HX.out.below hb9)
      replace HA := Lib.hid (HA.out.below hb9)
      replace HD := Lib.hid (HD.out.below hb9)
      clear hb9
      clear ho9 hba9 hS0 hS1 HDL
      go_wp2_with fail
      refine (SWrite_any w9 p q _ HD.out HNP.out.1 HEV.out E n c9 (by have : (St.new S).x = 0 := rfl; omega) hE32 A9 l HBA9.out (by omega) hc9 hcm9).mono ?_
      rintro e w10 ⟨rfl, hd, hc⟩
      rw [HR.out] at hd ⊢
      rw [r0]
      replace HB := Lib.hid (hc.below HB.out HPW.out HB.out.size)
      replace HEV := Lib.hid (HEV.out.chg hc HNP.out.1)
      replace HX := Lib.hid (HX.out.chg hc HNP.out.2)
      replace HA := Lib.hid (HA.out.chg hc)
      replace HD := Lib.hid hd
      clear hd hc
      clear HBA9 hc9 hcm9
      go_wp2_with fail
      refine (Writes_any w10 p q _ HD.out).mono ?_
      rintro e w11 ⟨rfl, rfl⟩
      have c0 : w10.cell? ⟨w.heap.size, 0, none⟩ = some (.int .u8 (S : Int)) := HX.out.cell 0
      go_wp2_with fail
      refine (CC.out _).mono ?_
      rintro e w13 ⟨rfl, hb⟩
      replace HB := Lib.hid (HB.out.trans (hb.mono HB.out.size))
      replace HEV := Lib.hid (HEV.out.below hb)
      replace HX := Lib.hid (HX.out.below hb)
      replace HA := Lib.hid (HA.out.below hb)
      replace HD := Lib.hid (HD.out.below hb)
      clear hb
      go_wp2_with fail
      have hb : Below w13.heap.size w13 (w13.alloc (.cells (bc (List.replicate long 0)).toArray 5)) := (Below.refl _ _).alloc (Nat.le_refl _) _
      have HLO := Lib.hid (ba_of_blk (F := PQ p q) (n := long) (Blk.new w13 5 (bc (List.replicate long 0)).toArray) (by simp) (HD.out.fresh (Nat.le_refl _)))
      replace HB := Lib.hid (HB.out.trans (hb.mono HB.out.size))
      replace HEV := Lib.hid (HEV.out.below hb)
      replace HX := Lib.hid (HX.out.below hb)
      replace HA := Lib.hid (HA.out.below hb)
      replace HD := Lib.hid (HD.out.below hb)
      clear hb
      clear c0
      generalize w13.heap.size = gl at *
      generalize w13.alloc (.cells (bc (List.replicate long 0)).toArray 5) = wz at *
      go_wp2_with fail
      have hb : Below wz.heap.size wz wz.drew := below_drew (Below.refl _ _)
      replace HLO := Lib.hid (HLO.out.below hb)
      replace HB := Lib.hid (HB.out.trans (hb.mono HB.out.size))
      replace HEV := Lib.hid (HEV.out.below hb)
      replace HX := Lib.hid (HX.out.below hb)
      replace HA := Lib.hid (HA.out.below hb)
      replace HD := Lib.hid (HD.out.below hb)
      clear hb
      refine wp_region_mix 16 (fun w' => w'.cell? ⟨w.heap.size, 1, none⟩ = some (.int .u32 (E : Int)) ∧ w'.cell? ⟨w.heap.size, 2, none⟩ = some (.slice A n c)) (by kernel_rfl) (by decide) ?_
      generalize wz.drew = D at *
      have hS0 : D.cell? ⟨w.heap.size, 1, none⟩ = some (.int .u32 (E : Int)) ∧ D.cell? ⟨w.heap.size, 2, none⟩ = some (.slice A n c) := ⟨HX.out.cell 1, HX.out.cell 2⟩
      refine wpM_take (i := 0) (oi := ⟨some 41, _, _, _, _, _⟩) (v := ?_) rfl (by decide +kernel) (by decide +kernel) (by decide +kernel) (fun _ _ _ h => h) (Or.inl ⟨by rfl, ?_⟩) hS0 ?_
      case refine_2 => (intro w hSw; (try dsimp only at hSw); go_simp; try (with_reducible rfl))
      try simp only [Act.put, List.setIfInBounds_toArray, List.set_cons_zero, List.set_cons_succ]
      refine wpM_take (i := 1) (oi := ⟨some 42, _, _, _, _, _⟩) (v := ?_) rfl (by decide +kernel) (by decide +kernel) (by decide +kernel) (fun _ _ _ h => h) (Or.inl ⟨by rfl, ?_⟩) hS0 ?_
      case refine_2 => (intro w hSw; (try dsimp only at hSw); go_simp; try (with_reducible rfl))
      try simp only [Act.put, List.setIfInBounds_toArray, List.set_cons_zero, List.set_cons_succ]
      refine wpM_take (i := 2) (oi := ⟨some 43, _, _, _, _, _⟩) (v := ?_) rfl (by decide +kernel) (by decide +kernel) (by decide +kernel) (fun _ _ _ h => h) (Or.inl ⟨by rfl, ?_⟩) hS0 ?_
      case refine_2 => (intro w hSw; (try dsimp only at hSw); go_simp; try (with_reducible rfl))
      try simp only [Act.put, List.setIfInBounds_toArray, List.set_cons_zero, List.set_cons_succ]
      refine wpM_take (i := 3) (oi := ⟨some 44, _, _, _, _, _⟩) (v := ?_) rfl (by decide +kernel) (by decide +kernel) (by decide +kernel) (fun _ _ _ h => h) (Or.inl ⟨by rfl, ?_⟩) hS0 ?_
      case refine_2 => (intro w hSw; (try dsimp only at hSw); go_simp; try (with_reducible rfl))
      try simp only [Act.put, List.setIfInBounds_toArray, List.set_cons_zero, List.set_cons_succ]
      refine wpM_take (i := 4) (oi := ⟨some 45, _, _, _, _, _⟩) (v := ?_) rfl (by decide +kernel) (by decide +kernel) (by decide +kernel) (fun _ _ _ h => h) (Or.inl ⟨by rfl, ?_⟩) hS0 ?_
      case refine_2 => (intro w hSw; (try dsimp only at hSw); go_simp; try (with_reducible rfl))
      try simp only [Act.put, List.setIfInBounds_toArray, List.set_cons_zero, List.set_cons_succ]
      refine wpM_take (i := 6) (oi := ⟨some 47, _, _, _, _, _⟩) (v := ?_) rfl (by decide +kernel) (by decide +kernel) (by decide +kernel) (fun _ _ _ h => h) (Or.inl ⟨by rfl, ?_⟩) hS0 ?_
      case refine_2 => (intro w hSw; (try dsimp only at hSw); go_simp; try (with_reducible rfl))
      try simp only [Act.put, List.setIfInBounds_toArray, List.set_cons_zero, List.set_cons_succ]
      refine wpM_take (i := 7) (oi := ⟨some 48, _, _, _, _, _⟩) (v := ?_) rfl (by decide +kernel) (by decide +kernel) (by decide +kernel) (fun _ _ _ h => h) (Or.inl ⟨by rfl, ?_⟩) hS0 ?_
      case refine_2 => (intro w hSw; (try dsimp only at hSw); go_simp; try (with_reducible rfl))
      try simp only [Act.put, List.setIfInBounds_toArray, List.set_cons_zero, List.set_cons_succ]
      refine wpM_take (i := 8) (oi := ⟨some 49, _, _, _, _, _⟩) (v := ?_) rfl (by decide +kernel) (by decide +kernel) (by decide +kernel) (fun _ _ _ h => h) (Or.inl ⟨by rfl, ?_⟩) hS0 ?_
      case refine_2 => (intro w hSw; (try dsimp only at hSw); go_simp; try (with_reducible rfl))
      try simp only [Act.put, List.setIfInBounds_toArray, List.set_cons_zero, List.set_cons_succ]
      refine wpM_take (i := 9) (oi := ⟨some 50, _, _, _, _, _⟩) (v := ?_) rfl (by decide +kernel) (by decide +kernel) (by decide +kernel) (fun _ _ _ h => h) (Or.inl ⟨by rfl, ?_⟩) hS0 ?_
      case refine_2 => (intro w hSw; (try dsimp only at hSw); go_simp; try (with_reducible rfl))
      try simp only [Act.put, List.setIfInBounds_toArray, List.set_cons_zero, List.set_cons_succ]
      refine wpM_take (i := 10) (oi := ⟨some 51, _, _, _, _, _⟩) (v := ?_) rfl (by decide +kernel) (by decide +kernel) (by decide +kernel) (fun _ _ _ h => h) (Or.inl ⟨by rfl, ?_⟩) hS0 ?_
      case refine_2 => (intro w hSw; (try dsimp only at hSw); go_simp; try (with_reducible rfl))
      try simp only [Act.put, List.setIfInBounds_toArray, List.set_cons_zero, List.set_cons_succ]
      refine wpM_take (i := 11) (oi := ⟨some 52, _, _, _, _, _⟩) (v := ?_) rfl (by decide +kernel) (by decide +kernel) (by decide +kernel) (fun _ _ _ h => h) (Or.inl ⟨by rfl, ?_⟩) hS0 ?_
      case refine_2 => (intro w hSw; (try dsimp only at hSw); go_simp; try (with_reducible rfl))
      try simp only [Act.put, List.setIfInBounds_toArray, List.set_cons_zero, List.set_cons_succ]
      refine wpM_take (i := 12) (oi := ⟨some 53, _, _, _, _, _⟩) (v := ?_) rfl (by decide +kernel) (by decide +kernel) (by decide +kernel) (fun _ _ _ h => h) (Or.inl ⟨by rfl, ?_⟩) hS0 ?_
      case refine_2 => (intro w hSw; (try dsimp only at hSw); go_simp; try (with_reducible rfl))
      try simp only [Act.put, List.setIfInBounds_toArray, List.set_cons_zero, List.set_cons_succ]
      refine wpM_take (i := 13) (oi := ⟨some 54, _, _, _, _, _⟩) (v := ?_) rfl (by decide +kernel) (by decide +kernel) (by decide +kernel) (fun _ _ _ h => h) (Or.inl ⟨by rfl, ?_⟩) hS0 ?_
      case refine_2 => (intro w hSw; (try dsimp only at hSw); go_simp; try (with_reducible rfl))
      try simp only [Act.put, List.setIfInBounds_toArray, List.set_cons_zero, List.set_cons_succ]
      refine wpM_take (i := 14) (oi := ⟨some 55, _, _, _, _, _⟩) (v := ?_) rfl (by decide +kernel) (by decide +kernel) (by decide +kernel) (fun _ _ _ h => h) (Or.inl ⟨by rfl, ?_⟩) hS0 ?_
      case refine_2 => (intro w hSw; (try dsimp only at hSw); go_simp; try (with_reducible rfl))
      try simp only [Act.put, List.setIfInBounds_toArray, List.set_cons_zero, List.set_cons_succ]
      refine wpM_step (i := 5) (o := ⟨some 46, _, _, _, _, _⟩) rfl (by decide +kernel) (by decide) (fun K hK => ?_)
      go_simp
      go_at_call 20
      refine (CWA.out D HD.out HEV.out _ HLO.out).mono ?_
      rintro e w14 ⟨rfl, hd, hc⟩
      replace HB := Lib.hid (hc.below HB.out HPW.out HB.out.size)
      replace HEV := Lib.hid (HEV.out.chg hc HNP.out.1)
      replace HX := Lib.hid (HX.out.chg hc HNP.out.2)
      replace HA := Lib.hid (HA.out.chg hc)
      replace HLO := Lib.hid (HLO.out.chg hc)
      replace HD := Lib.hid hd
      clear hd hc
      have hS1 : w14.cell? ⟨w.heap.size, 1, none⟩ = some (.int .u32 (E : Int)) ∧ w14.cell? ⟨w.heap.size, 2, none⟩ = some (.slice A n c) := ⟨HX.out.cell 1, HX.out.cell 2⟩
      refine hK.out _ _ hS1 ?_
      clear hK K
      try simp only [Act.put, List.setIfInBounds_toArray, List.set_cons_zero, List.set_cons_succ]
      refine wpM_step (i := 15) (o := ⟨some 56, _, _, _, _, _⟩) rfl (by decide +kernel) (by decide) (fun K hK => ?_)
      go_simp
      go_at_call 20
      refine (CWB.out w14 HD.out HEV.out).mono ?_
      rintro e w15 ⟨rfl, hd, hc⟩
      replace HB := Lib.hid (hc.below HB.out HPW.out HB.out.size)
      replace HEV := Lib.hid (HEV.out.chg hc HNP.out.1)
      replace HX := Lib.hid (HX.out.chg hc HNP.out.2)
      replace HA := Lib.hid (HA.out.chg hc)
      replace HLO := Lib.hid (HLO.out.chg hc)
      replace HD := Lib.hid hd
      clear hd hc
      have hS2 : w15.cell? ⟨w.heap.size, 1, none⟩ = some (.int .u32 (E : Int)) ∧ w15.cell? ⟨w.heap.size, 2, none⟩ = some (.slice A n c) := ⟨HX.out.cell 1, HX.out.cell 2⟩
      refine hK.out _ _ hS2 ?_
      clear hK K
      try simp only [Act.put, List.setIfInBounds_toArray, List.set_cons_zero, List.set_cons_succ]
      refine wpM_done (by decide +kernel) ?_
      simp only [List.drop_succ_cons, List.drop_zero]
      go_wp2_with fail
      have CR := Lib.hid (SRead_any w15 p q _ HD.out HNP.out.1 HEV.out)
      rw [HRE.out] at CR
      go_wp2_with fail
      refine CR.out.mono ?_
      rintro e w16 ⟨v16, rfl, ho16, hb⟩
      replace HB := Lib.hid (HB.out.trans (hb.mono HB.out.size))
      replace HEV := Lib.hid (HEV.out.below hb)
      replace HX := Lib.hid (HX.out.below hb)
      replace HA := Lib.hid (HA.out.below hb)
      replace HD := Lib.hid (HD.out.below hb)
      clear hb
      clear CR
      obtain ⟨A16, c16, hv16, hb16⟩ := own_bytes ho16
      rw [HLN.out] at hv16 hb16
      subst hv16
      have hst := string_at (c := c16) hb16
      have hst2 := string_at (c := c) HA.out.at
      clear ho16 hb16
      have c1 : w16.cell? ⟨w.heap.size, 1, none⟩ = some (.int .u32 (E : Int)) := HX.out.cell 1
      have c2 : w16.cell? ⟨w.heap.size, 2, none⟩ = some (.slice A n c) := HX.out.cell 2
      go_wp2_with fail
      refine (Writes_any w16 p q _ HD.out).mono ?_
      rintro e w17 ⟨rfl, rfl⟩
      go_wp2
      go_ret
      exact ⟨by simp, HB.out⟩
  · have CF := Lib.hid (fun W => fresh_no W S E n c A (by omega) (by omega) hok)
    have HEV := Lib.hid hev
    have hbx : Below w.heap.size w (w.alloc (.cells #[.int .u8 (S : Int), .int .u32 (E : Int), .slice A n c] 49)) := (Below.refl _ _).alloc (Nat.le_refl _) _
    have HB := Lib.hid hbx
    replace HEV := Lib.hid (HEV.out.below hbx)
    clear hev hok hA hx0 hy0 hbx hm0 hm1
    go_enter Tryd.func8, Tryd.ntmps8
    go_wp2_with fail
    refine (CF.out _).mono ?_
    rintro e w1 ⟨rfl, hb⟩
    replace HB := Lib.hid (HB.out.trans (hb.mono HB.out.size))
    replace HEV := Lib.hid (HEV.out.below hb)
    clear hb
    go_wp2_with fail
    refine (awake_any _ HEV.out).mono ?_
    rintro e w2 ⟨rfl, hb⟩
    replace HB := Lib.hid (HB.out.trans (hb.mono HB.out.size))
    replace HEV := Lib.hid (HEV.out.below hb)
    clear hb
    go_wp2_with fail
    refine (awake_any _ HEV.out).mono ?_
    rintro e w3 ⟨rfl, hb⟩
    replace HB := Lib.hid (HB.out.trans (hb.mono HB.out.size))
    replace HEV := Lib.hid (HEV.out.below hb)
    clear hb
    go_wp2
    go_ret
    exact ⟨rfl, HB.out⟩
end Go.Proofs.YthhpilkhcomhbaaDoor
