/- Law WalCapacity: for every input the call returns true, and its arguments read afterwards as before. -/
import Derived.Test.YtgpofkabidginaaWge
namespace Go.Proofs.Ytgpofkabidginaa
open Go.ChangeShapes Go.WideShapes Go.ChangeAt Go.RowKit Go.ChangeMaps

theorem zc_rep (m : Nat) : madeCells #[.int .u8 0] m = (bc (List.replicate m 0)).toArray := by
  rw [bc_rep]
  exact made_rep 1 m _ (by decide)
theorem makeB (n : Nat) (hn : n ≤ 100000) (w : World) : (Instr.makeSlice 38 (.int .i64 (n : Int)) (.int .i64 (n : Int))).run Try.prog w = .ok (.slice (some ⟨w.heap.size, 0, none⟩) n n) (w.alloc (.cells (bc (List.replicate n 0)).toArray 5)) := by
  obtain ⟨i, hi, hz, hs, hb⟩ := info_parts Try.info5
  have := run_make (P := Try.prog) w 38 5 i _ Try.underlying38 hi hz .i64 .i64 n n (by omega) (Int.le_refl _) (by rw [hb]; omega) (by omega)
  rw [hs] at this
  simp only [Int.toNat_natCast, Nat.mul_one] at this
  rw [this, ← zc_rep]
  rfl
set_option maxRecDepth 100000 in
set_option maxHeartbeats 4000000 in
theorem walCapacity_walk (n0 : Int) (w : World) (h0 : -9223372036854775808 ≤ n0) (h1 : n0 ≤ 9223372036854775807) : Calls Try.prog 10 #[.int .i64 n0] w fun e w' => e = .returned (.bool true) ∧ Below w.heap.size w w' := by
  obtain ⟨cm, hcm⟩ : ∃ x, capM n0 = x := ⟨_, rfl⟩
  have HC1 := Lib.hid (fun W => Cap_any W n0)
  have HC2 := Lib.hid (fun W => RCap_any W n0)
  rw [hcm] at HC1 HC2
  have HCM := Lib.hid hcm
  clear hcm
  by_cases hin : 1 ≤ n0 ∧ n0 ≤ 12
  · obtain ⟨i1, i2⟩ := hin
    obtain ⟨N, rfl⟩ : ∃ N : Nat, n0 = (N : Int) := ⟨n0.toNat, by omega⟩
    have hN1 : 1 ≤ N := by omega
    have hN2 : N ≤ 12 := by omega
    obtain ⟨k, hk⟩ : ∃ k : Nat, k + 4 = 59 * N := ⟨59 * N - 4, by omega⟩
    have hcmk : cm = (k : Int) := by
      rw [← HCM.out]
      unfold capM freeM
      rw [if_neg (by omega)]
      omega
    subst hcmk
    clear HCM
    have HFM := Lib.hid (show freeM (59 * (N : Int) - ((0 : Nat) : Int)) = (k : Int) from by unfold freeM; omega)
    go_enter Try.func10, Try.ntmps10
    go_wp2_with fail
    refine (awake_any _).mono ?_
    rintro e w1 ⟨rfl, hb⟩
    have HB := Lib.hid hb
    clear hb
    go_wp2_with (first | (go_at_call 34; refine (HC1.out _).mono ?_; rintro e w2 ⟨rfl, rfl⟩) | (go_at_call 35; refine (HC2.out _).mono ?_; rintro e w2 ⟨rfl, rfl⟩))
    have hs1 := HB.out.size
    refine (New_ok w1 N hN1 (by omega)).mono ?_
    rintro e w2 ⟨rfl, hd, hb⟩
    have HD := Lib.hid hd
    replace HB := Lib.hid (HB.out.trans (hb.mono HB.out.size))
    have hpl := hd.1.lt
    clear hd hb
    have hR : (St.new N).R.length = N := by simp [St.new]
    go_wp2_with fail
    refine (NewL_ok w2 (w1.heap.size + 1) w1.heap.size (St.new N) HD.out 0 N 1 (by unfold mayB; rw [hR]; simp; omega)).mono ?_
    rintro e w3 ⟨rfl, hl, hb⟩
    have HL := Lib.hid (hl (G3 (w1.heap.size + 1) w1.heap.size w2.heap.size))
    have hgl : w2.heap.size < w3.heap.size := by obtain ⟨A, cap, hh, -⟩ := hl (fun _ => False); exact hh.lt
    have HD3 := Lib.hid (HD.out.below hb)
    replace HB := Lib.hid (HB.out.trans (hb.mono HB.out.size))
    clear hl hb HD
    generalize hp : w1.heap.size + 1 = p at *
    generalize hq : w1.heap.size = q at *
    generalize w2.heap.size = g at *
    have HF := Lib.hid (show ∀ k, G3 p q g k → k < w3.heap.size from fun k hk => by rcases hk with e | e | e <;> omega)
    have HFq := Lib.hid (show ∀ k, G3 p q g k → w.heap.size ≤ k from fun k hk => by rcases hk with e | e | e <;> omega)
    have hgn : ¬ PQ p q g := fun h => by rcases h with e | e <;> omega
    clear hp hq
    have HLX : ∀ F', Lk F' w3 g p ⟨0, N, 1, 0, 0, []⟩ → Lk F' w3 g p (lgOf 0 N 1 0 []) := fun _ h => h
    have HL := Lib.hid (HLX _ HL.out)
    clear HLX
    have HFR := Lib.hid (fun W (hW : Lk (G3 p q g) W g p (lgOf 0 N 1 0 [])) => show Calls Try.prog 19 #[.pointer (some ⟨g, 0, none⟩)] W fun e w' => e = .returned (.int .i64 (k : Int)) ∧ ∃ k, w' = W.drewN k from by
      have h1 := FreeL_any _ W g p _ hW (show (lgOf 0 N 1 0 []).c ≤ 65536 by simp only [lgOf]; omega) (show (lgOf 0 N 1 0 []).n ≤ 100000000 by simp [lgOf])
      rw [show freeM (59 * ((lgOf 0 N 1 0 []).c : Int) - ((lgOf 0 N 1 0 []).n : Int)) = (k : Int) from HFM.out] at h1
      exact h1)
    have hmk1 : ∀ W : World, (Instr.makeSlice 38 (.int .i64 ((k : Int) + 1)) (.int .i64 ((k : Int) + 1))).run Try.prog W = .ok (.slice (some ⟨W.heap.size, 0, none⟩) (k + 1) (k + 1)) (W.alloc (.cells (bc (List.replicate (k + 1) 0)).toArray 5)) := fun W => by
      have := makeB (k + 1) (by omega) W
      rw [show ((k + 1 : Nat) : Int) = (k : Int) + 1 by omega] at this
      exact this
    have hmk2 : ∀ W : World, (Instr.makeSlice 38 (.int .i64 (k : Int)) (.int .i64 (k : Int))).run Try.prog W = .ok (.slice (some ⟨W.heap.size, 0, none⟩) k k) (W.alloc (.cells (bc (List.replicate k 0)).toArray 5)) := makeB k (by omega)
    have HZ : Hid (∀ (m : Nat) (W : World), Blk (W.alloc (.cells (bc (List.replicate m 0)).toArray 5)) W.heap.size 5 (bc (List.replicate m 0)).toArray) := Lib.hid (fun m W => Blk.new _ _ _)
    obtain ⟨z1, hz1⟩ : ∃ x, (bc (List.replicate (k + 1) (0 : UInt8))).toArray = x := ⟨_, rfl⟩
    obtain ⟨z2, hz2⟩ : ∃ x, (bc (List.replicate k (0 : UInt8))).toArray = x := ⟨_, rfl⟩
    rw [hz1] at hmk1
    rw [hz2] at hmk2
    have HZ2 := Lib.hid hz2
    clear hz1 hz2
    go_wp2_with (go_at_call 35; refine (HC2.out _).mono ?_; rintro e w2 ⟨rfl, rfl⟩)
    refine (HFR.out w3 HL.out).mono ?_
    rintro e w4 ⟨rfl, kq, rfl⟩
    have hb4 : Below w3.heap.size w3 ((w3.drewN kq).alloc (.cells z1 5)) := (below_drewN (Below.refl _ _)).alloc (Nat.le_refl _) _
    have HL4 := Lib.hid (HL.out.below hb4)
    have HD4 := Lib.hid (HD3.out.below hb4)
    replace HB := Lib.hid (HB.out.trans (hb4.mono HB.out.size))
    have hs34 := hb4.size
    clear hb4 HL HD3
    go_wp2_with fail
    refine (App_full _ _ g p _ HL4.out (by simp only [lgOf]; omega) (by simp [lgOf]) _ (k + 1) (k + 1) (by omega) (by rw [show freeM (59 * ((lgOf 0 N 1 0 []).c : Int) - ((lgOf 0 N 1 0 []).n : Int)) = (k : Int) from HFM.out]; omega)).mono ?_
    rintro e w5 ⟨rfl, hb⟩
    have HL5 := Lib.hid (HL4.out.below hb)
    have HD5 := Lib.hid (HD4.out.below hb)
    replace HB := Lib.hid (HB.out.trans (hb.mono HB.out.size))
    have hs45 := hb.size
    clear hb HL4 HD4
    go_wp2_with fail
    refine (RecL_any _ w5 g p _ HL5.out).mono ?_
    rintro e w6 ⟨rfl, rfl⟩
    have hb6 : Below w5.heap.size w5 (w5.alloc (.cells z2 5)) := (Below.refl _ _).alloc (Nat.le_refl _) _
    have HL6 := Lib.hid (HL5.out.below hb6)
    have HD6 := Lib.hid (HD5.out.below hb6)
    replace HB := Lib.hid (HB.out.trans (hb6.mono HB.out.size))
    have HBA := Lib.hid (ba_of_blk (F := G3 p q g) (l := List.replicate k 0) (n := k) (show Blk (w5.alloc (.cells z2 5)) w5.heap.size 5 (bc (List.replicate k 0)).toArray from by rw [← HZ2.out]; exact HZ.out k w5) (by simp) (fun h => by have := HF.out _ h; omega))
    have hs56 := hb6.size
    clear hb6 HL5 HD5
    have hgd : Good 1 (seg (St.new N) 0 N) [] := good_none (fun b hb => by
      have h1 : b ∈ (St.new N).R := List.mem_of_mem_drop (List.mem_of_mem_take hb)
      have h2 : b = zeros := List.eq_of_mem_replicate h1
      rw [h2]
      decide)
    have hfr0 : 0 + N ≤ (St.new N).R.length := by omega
    have HAG := app_good (k := 0) (b := List.replicate k 0) (by decide : (1 : Nat) < 4294967296) hfr0 (St.new_ok (by omega : N ≤ 65536)).1 (by simp [St.new]) rfl hgd
    have HAF := app_facts (f := 0) (c := N) (e := 1) (k := 0) (S := []) (s := St.new N) (b := List.replicate k 0) hfr0 (by simp) rfl
    have hn16 := app_not16 (f := 0) (c := N) (e := 1) (k := 0) (S := []) (s := St.new N) (b := List.replicate k 0) hfr0 (by rw [List.length_replicate, show freeM (59 * (N : Int) - (([] : List UInt8).length : Int)) = (k : Int) from HFM.out]; omega)
    have HAP := App_loop (G3 p q g) (w5.alloc (.cells z2 5)) g p q (lgOf 0 N 1 0 []) (St.new N) HL6.out HD6.out (.inr (.inr rfl)) (.inl rfl) (.inr (.inl rfl)) hgn (fun k hk => by have := HF.out _ hk; omega) (show (1 : Nat) < 4294967296 by decide) (show (0 : Nat) ≤ 65536 by decide) (by simp only [lgOf]; omega) (by simp [lgOf]) (by simp [lgOf]) _ k k (List.replicate k 0) HBA.out (by omega) (Nat.le_refl _) (by omega) (tailOf_lt []) (by simp [St.new]) (by rw [show freeM (59 * ((lgOf 0 N 1 0 []).c : Int) - ((lgOf 0 N 1 0 []).n : Int)) = (k : Int) from HFM.out]; exact Int.le_refl _) rfl
    obtain ⟨r1, hr1⟩ : ∃ x, (lgOf 0 N 1 0 []).app (St.new N) (List.replicate k 0) = x := ⟨_, rfl⟩
    rw [hr1] at HAG HAF hn16 HAP
    obtain ⟨l2, s2, cd⟩ := r1
    simp only at HAG HAF hn16 HAP
    have hcd : cd = 0 := by
      rcases HAG with ⟨h, -⟩ | ⟨h, -⟩ | ⟨-, h, -⟩
      · exact h
      · exact absurd h hn16
      · exact absurd rfl h
    subst hcd
    have hl2 : l2 = lgOf 0 N 1 1 ([] ++ nb4 (List.replicate k (0 : UInt8)).length ++ List.replicate k 0) := by
      rcases HAF.2.2 with ⟨-, -, -, h⟩ | ⟨h, -⟩ | h
      · exact h
      · simp at h
      · simp at h
    have HAP := Lib.hid HAP
    have HL2 := Lib.hid hl2
    clear HAG HAF hn16 hr1 hl2 hgd HL6 HD6
    go_wp2_with fail
    refine HAP.out.mono ?_
    rintro e w7 ⟨rfl, -, hl7, hc7⟩
    have hl7 := hl7 (by first | rfl | trivial)
    rw [HL2.out] at hl7
    have HL7 := Lib.hid hl7
    replace HB := Lib.hid (hc7.below HB.out HFq.out HB.out.size)
    clear hl7 hc7 HAP
    have hn2 : (([] ++ nb4 (List.replicate k (0 : UInt8)).length ++ List.replicate k 0).length) = 59 * N := by simp [nb4_len]; omega
    have HFM2 := Lib.hid (show freeM (59 * (N : Int) - (([] ++ nb4 (List.replicate k (0 : UInt8)).length ++ List.replicate k 0).length : Nat)) = -1 from by rw [hn2]; unfold freeM; omega)
    have hFR2 := FreeL_any _ w7 g p _ HL7.out (show (lgOf 0 N 1 1 _).c ≤ 65536 by simp only [lgOf]; omega) (show (lgOf 0 N 1 1 _).n ≤ 100000000 by simp only [lgOf]; omega)
    rw [show freeM (59 * ((lgOf 0 N 1 1 ([] ++ nb4 (List.replicate k (0 : UInt8)).length ++ List.replicate k 0)).c : Int) - ((lgOf 0 N 1 1 ([] ++ nb4 (List.replicate k (0 : UInt8)).length ++ List.replicate k 0)).n : Int)) = -1 from HFM2.out] at hFR2
    have HFR2 := Lib.hid hFR2
    clear hFR2
    go_wp2_with fail
    refine HFR2.out.mono ?_
    rintro e w8 ⟨rfl, kr, rfl⟩
    have hb8 : Below w7.heap.size w7 (w7.drewN kr) := below_drewN (Below.refl _ _)
    have HAN := Lib.hid (App_full _ _ g p _ (HL7.out.below hb8) (show (lgOf 0 N 1 1 _).c ≤ 65536 by simp only [lgOf]; omega) (show (lgOf 0 N 1 1 _).n ≤ 100000000 by simp only [lgOf]; omega) none 0 0 (by decide) (by rw [show freeM (59 * ((lgOf 0 N 1 1 ([] ++ nb4 (List.replicate k (0 : UInt8)).length ++ List.replicate k 0)).c : Int) - ((lgOf 0 N 1 1 ([] ++ nb4 (List.replicate k (0 : UInt8)).length ++ List.replicate k 0)).n : Int)) = -1 from HFM2.out]; decide))
    replace HB := Lib.hid (HB.out.trans (hb8.mono HB.out.size))
    clear hb8 HL7 HFM2 hn2
    go_wp2_with fail
    refine HAN.out.mono ?_
    rintro e w9 ⟨rfl, hb⟩
    replace HB := Lib.hid (HB.out.trans (hb.mono HB.out.size))
    clear hb HAN
    go_wp2
    go_ret
    exact ⟨rfl, HB.out⟩
  · have hout : n0 < 1 ∨ 12 < n0 := by omega
    clear hin
    go_enter Try.func10, Try.ntmps10
    go_wp2_with fail
    refine (awake_any _).mono ?_
    rintro e w1 ⟨rfl, hb⟩
    have HB := Lib.hid hb
    clear hb
    rcases hout with h | h
    · go_wp2_with (first | (go_at_call 34; refine (HC1.out _).mono ?_; rintro e w2 ⟨rfl, rfl⟩) | (go_at_call 35; refine (HC2.out _).mono ?_; rintro e w2 ⟨rfl, rfl⟩))
      go_ret
      exact ⟨rfl, HB.out⟩
    · have h' : ¬ n0 < 1 := by omega
      go_wp2_with (first | (go_at_call 34; refine (HC1.out _).mono ?_; rintro e w2 ⟨rfl, rfl⟩) | (go_at_call 35; refine (HC2.out _).mono ?_; rintro e w2 ⟨rfl, rfl⟩))
      go_ret
      exact ⟨rfl, HB.out⟩

set_option maxRecDepth 100000 in
theorem walCapacity_lifted (os : Os) (started : os.Started) (H : Type) (enc : TypeId × Value → H) :
    ReturnsInHanded {} Try.checked os 10 .any (Rows.walCapacitySpec.pre6 enc Try.prog Try.f10 Rows.walCapacityRow.domain false) (Rows.walCapacitySpec.post enc Try.prog Try.f10 false true false false) := by
  refine law_lifted (C := Try.checked) (B := 4) Try.own started (by kernel_rfl) Try.func10
    (ChangeSpec.witness6 (enc := enc) (C := Try.checked) false ⟨#[], #[.int .i64 0], []⟩ 8 (by kernel_rfl) (by kernel_rfl) (by kernel_rfl) (by kernel_rfl))
    Try.laidOut (by kernel_rfl) rfl rfl rfl Try.underlying4 (fun ds h => match ds, h with | [_], _ => rfl) ?_
  intro W base args ds ps hval hA hlt hsz
  rw [Try.params10] at hA hval hsz
  obtain ⟨v0, vs0, d0, ds0, p0, q0, hargs, rfl, rfl, h0, r0⟩ := trodAll_cons hA
  obtain ⟨rfl, rfl, rfl⟩ := trodAll_nil r0
  obtain rfl : args = #[v0] := by cases args; simp_all
  obtain ⟨a0, rfl, rfl, rfl, w0⟩ := open_int Try.underlying3 (hval 0 3 v0 rfl rfl) h0
  obtain ⟨l0, g0⟩ := i64_bd w0
  clear hlt hsz
  exact walCapacity_walk a0 W l0 g0

theorem walCapacity_over : Rows.walCapacityRow.holds Try.pinned (OpenSpec.ofChange Rows.walCapacitySpec) :=
  OpenClaim.holds_of_wide 10 Try.f10 rfl rfl rfl rfl rfl rfl rfl ⟨rfl, rfl, rfl, rfl, rfl⟩ rfl rfl rfl rfl rfl (by kernel_rfl) Try.func10 (by kernel_rfl)
    (of_decide_eq_true (by kernel_rfl)) (by unfold Func.isWrapper; first | (rw [if_pos (by decide +kernel)]; kernel_rfl) | (rw [if_neg (by decide +kernel)]; exact ⟨rfl, rfl⟩))
    (fun os started H enc _ => walCapacity_lifted os started H enc)

theorem walCapacity_proved : Rows.WalCapacitySaid := walCapacity_over
end Go.Proofs.Ytgpofkabidginaa
