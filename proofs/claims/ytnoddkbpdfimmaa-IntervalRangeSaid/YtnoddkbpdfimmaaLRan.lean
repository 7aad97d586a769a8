/- Law IntervalRange: for every input the call returns true, and its arguments read afterwards as before. -/
import Derived.Test.YtnoddkbpdfimmaaIva
import Derived.Test.YtnoddkbpdfimmaaIvgd
import Derived.Test.YtnoddkbpdfimmaaOpn2
import Derived.Test.YtnoddkbpdfimmaaChj
namespace Go.Proofs.Ytnoddkbpdfimmaa
open Go.ChangeShapes Go.WideShapes Go.ChangeAt Go.RowKit Go.ChangeMaps

def RI (X : World) (R : List Iv) (ra rb : Int) (okb : Bool) (d : Nat → Bool) (vs : Nat → Value) (w : World) : Prop :=
  Below X.heap.size X w ∧ (d 2 = true → d 3 = false → OR 39 w X.heap.size (vs 2) R) ∧ (d 3 = true → d 2 = true ∧ vs 3 = .tuple #[.agg #[.int .i64 ra, .int .i64 rb], .bool okb]) ∧ (d 4 = true → d 3 = true ∧ vs 4 = .tuple #[.agg #[.int .i64 ra, .int .i64 rb], .bool okb]) ∧
  (d 5 = true → d 4 = true ∧ vs 5 = .agg #[.int .i64 ra, .int .i64 rb]) ∧ (d 6 = true → vs 6 = .bool okb) ∧ (d 7 = true → ∃ g, vs 7 = .pointer (some ⟨g, 0, none⟩) ∧ X.heap.size ≤ g ∧ Blk w g 39 (if d 8 then #[.int .i64 ra, .int .i64 rb] else #[.int .i64 0, .int .i64 0])) ∧ (d 8 = true → d 5 = true ∧ d 7 = true)
section
variable {X w W : World} {R : List Iv} {ra rb : Int} {okb : Bool} {d : Nat → Bool} {vs : Nat → Value}
theorem RI.none_ (h : Below X.heap.size X w) : RI X R ra rb okb (fun _ => false) vs w := ⟨h, nofun, nofun, nofun, nofun, nofun, nofun, nofun⟩
theorem RI.s2 {v : Value} (h : RI X R ra rb okb d vs w) (h2 : d 2 = false) (hv : OR 39 W w.heap.size v R) (hb : Below w.heap.size w W) : RI X R ra rb okb (upd d 2 true) (upd vs 2 v) W := by
  obtain ⟨a1, a2, a3, a4, a5, a6, a7, a8⟩ := h
  have h3 : d 3 = false := by
    cases h3 : d 3
    · rfl
    · rw [(a3 h3).1] at h2; cases h2
  refine ⟨a1.trans (hb.mono a1.size), fun _ _ => ?_, fun e => ?_, fun e => ?_, fun e => ?_, fun e => ?_, fun e => ?_, fun e => ?_⟩
  · rw [upd_same]; exact hv.mono a1.size
  · rw [upd_other _ _ _ _ (by decide), h3] at e; cases e
  · rw [upd_other _ _ _ _ (by decide)] at e; rw [upd_other _ _ _ _ (by decide), upd_other _ _ _ _ (by decide)]; exact a4 e
  · rw [upd_other _ _ _ _ (by decide)] at e; rw [upd_other _ _ _ _ (by decide), upd_other _ _ _ _ (by decide)]; exact a5 e
  · rw [upd_other _ _ _ _ (by decide)] at e; rw [upd_other _ _ _ _ (by decide)]; exact a6 e
  · rw [upd_other _ _ _ _ (by decide)] at e; rw [upd_other _ _ _ _ (by decide), upd_other _ _ _ _ (by decide)]
    obtain ⟨g, e1, e2, e3⟩ := a7 e
    exact ⟨g, e1, e2, Blk.below hb e3⟩
  · rw [upd_other _ _ _ _ (by decide)] at e; rw [upd_other _ _ _ _ (by decide), upd_other _ _ _ _ (by decide)]; exact a8 e
theorem RI.s3 (h : RI X R ra rb okb d vs w) (h2 : d 2 = true) (hb : Below w.heap.size w W) : RI X R ra rb okb (upd d 3 true) (upd vs 3 (.tuple #[.agg #[.int .i64 ra, .int .i64 rb], .bool okb])) W := by
  obtain ⟨a1, a2, a3, a4, a5, a6, a7, a8⟩ := h
  refine ⟨a1.trans (hb.mono a1.size), fun _ e => ?_, fun _ => ⟨by rw [upd_other _ _ _ _ (by decide)]; exact h2, upd_same _ _ _⟩, fun e => ?_, fun e => ?_, fun e => ?_, fun e => ?_, fun e => ?_⟩
  · rw [upd_same] at e; cases e
  · rw [upd_other _ _ _ _ (by decide)] at e; rw [upd_same, upd_other _ _ _ _ (by decide)]; exact ⟨rfl, (a4 e).2⟩
  · rw [upd_other _ _ _ _ (by decide)] at e; rw [upd_other _ _ _ _ (by decide), upd_other _ _ _ _ (by decide)]; exact a5 e
  · rw [upd_other _ _ _ _ (by decide)] at e; rw [upd_other _ _ _ _ (by decide)]; exact a6 e
  · rw [upd_other _ _ _ _ (by decide)] at e; rw [upd_other _ _ _ _ (by decide), upd_other _ _ _ _ (by decide)]
    obtain ⟨g, e1, e2, e3⟩ := a7 e
    exact ⟨g, e1, e2, Blk.below hb e3⟩
  · rw [upd_other _ _ _ _ (by decide)] at e; rw [upd_other _ _ _ _ (by decide), upd_other _ _ _ _ (by decide)]; exact a8 e
theorem RI.s4 (h : RI X R ra rb okb d vs w) (h3 : d 3 = true) : RI X R ra rb okb (upd d 4 true) (upd vs 4 (.tuple #[.agg #[.int .i64 ra, .int .i64 rb], .bool okb])) w := by
  obtain ⟨a1, a2, a3, a4, a5, a6, a7, a8⟩ := h
  refine ⟨a1, fun e1 e2 => ?_, fun e => ?_, fun _ => ?_, fun e => ?_, fun e => ?_, fun e => ?_, fun e => ?_⟩
  · rw [upd_other _ _ _ _ (by decide), h3] at e2; cases e2
  · rw [upd_other _ _ _ _ (by decide)] at e; rw [upd_other _ _ _ _ (by decide), upd_other _ _ _ _ (by decide)]; exact a3 e
  · rw [upd_same, upd_other _ _ _ _ (by decide)]; exact ⟨h3, rfl⟩
  · rw [upd_other _ _ _ _ (by decide)] at e; rw [upd_same, upd_other _ _ _ _ (by decide)]; exact ⟨rfl, (a5 e).2⟩
  · rw [upd_other _ _ _ _ (by decide)] at e; rw [upd_other _ _ _ _ (by decide)]; exact a6 e
  · rw [upd_other _ _ _ _ (by decide)] at e; rw [upd_other _ _ _ _ (by decide), upd_other _ _ _ _ (by decide)]; exact a7 e
  · rw [upd_other _ _ _ _ (by decide)] at e; rw [upd_other _ _ _ _ (by decide), upd_other _ _ _ _ (by decide)]; exact a8 e
theorem RI.s5 (h : RI X R ra rb okb d vs w) (h4 : d 4 = true) : RI X R ra rb okb (upd d 5 true) (upd vs 5 (.agg #[.int .i64 ra, .int .i64 rb])) w := by
  obtain ⟨a1, a2, a3, a4, a5, a6, a7, a8⟩ := h
  refine ⟨a1, fun e1 e2 => ?_, fun e => ?_, fun e => ?_, fun _ => ?_, fun e => ?_, fun e => ?_, fun e => ?_⟩
  · rw [upd_other _ _ _ _ (by decide), (a4 h4).1] at e2; cases e2
  · rw [upd_other _ _ _ _ (by decide)] at e; rw [upd_other _ _ _ _ (by decide), upd_other _ _ _ _ (by decide)]; exact a3 e
  · rw [upd_other _ _ _ _ (by decide)] at e; rw [upd_other _ _ _ _ (by decide), upd_other _ _ _ _ (by decide)]; exact a4 e
  · rw [upd_same, upd_other _ _ _ _ (by decide)]; exact ⟨h4, rfl⟩
  · rw [upd_other _ _ _ _ (by decide)] at e; rw [upd_other _ _ _ _ (by decide)]; exact a6 e
  · rw [upd_other _ _ _ _ (by decide)] at e; rw [upd_other _ _ _ _ (by decide), upd_other _ _ _ _ (by decide)]; exact a7 e
  · rw [upd_other _ _ _ _ (by decide)] at e; rw [upd_same, upd_other _ _ _ _ (by decide)]; exact ⟨rfl, (a8 e).2⟩
theorem RI.s6 (h : RI X R ra rb okb d vs w) : RI X R ra rb okb (upd d 6 true) (upd vs 6 (.bool okb)) w := by
  obtain ⟨a1, a2, a3, a4, a5, a6, a7, a8⟩ := h
  refine ⟨a1, fun e1 e2 => ?_, fun e => ?_, fun e => ?_, fun e => ?_, fun _ => upd_same _ _ _, fun e => ?_, fun e => ?_⟩
  · rw [upd_other _ _ _ _ (by decide)] at e1 e2 ⊢; exact a2 e1 e2
  · rw [upd_other _ _ _ _ (by decide)] at e; rw [upd_other _ _ _ _ (by decide), upd_other _ _ _ _ (by decide)]; exact a3 e
  · rw [upd_other _ _ _ _ (by decide)] at e; rw [upd_other _ _ _ _ (by decide), upd_other _ _ _ _ (by decide)]; exact a4 e
  · rw [upd_other _ _ _ _ (by decide)] at e; rw [upd_other _ _ _ _ (by decide), upd_other _ _ _ _ (by decide)]; exact a5 e
  · rw [upd_other _ _ _ _ (by decide)] at e; rw [upd_other _ _ _ _ (by decide), upd_other _ _ _ _ (by decide)]; exact a7 e
  · rw [upd_other _ _ _ _ (by decide)] at e; rw [upd_other _ _ _ _ (by decide), upd_other _ _ _ _ (by decide)]; exact a8 e
theorem RI.s7 (h : RI X R ra rb okb d vs w) (h7 : d 7 = false) : RI X R ra rb okb (upd d 7 true) (upd vs 7 (.pointer (some ⟨w.heap.size, 0, none⟩))) (w.alloc (.cells #[.int .i64 0, .int .i64 0] 39)) := by
  obtain ⟨a1, a2, a3, a4, a5, a6, a7, a8⟩ := h
  have h8 : d 8 = false := by
    cases h8 : d 8
    · rfl
    · rw [(a8 h8).2] at h7; cases h7
  refine ⟨a1.alloc a1.size _, fun e1 e2 => ?_, fun e => ?_, fun e => ?_, fun e => ?_, fun e => ?_, fun _ => ?_, fun e => ?_⟩
  · rw [upd_other _ _ _ _ (by decide)] at e1 e2 ⊢; exact (a2 e1 e2).alloc _
  · rw [upd_other _ _ _ _ (by decide)] at e; rw [upd_other _ _ _ _ (by decide), upd_other _ _ _ _ (by decide)]; exact a3 e
  · rw [upd_other _ _ _ _ (by decide)] at e; rw [upd_other _ _ _ _ (by decide), upd_other _ _ _ _ (by decide)]; exact a4 e
  · rw [upd_other _ _ _ _ (by decide)] at e; rw [upd_other _ _ _ _ (by decide), upd_other _ _ _ _ (by decide)]; exact a5 e
  · rw [upd_other _ _ _ _ (by decide)] at e; rw [upd_other _ _ _ _ (by decide)]; exact a6 e
  · rw [upd_same, upd_other _ _ _ _ (by decide), h8]
    exact ⟨_, rfl, a1.size, Blk.new _ _ _⟩
  · rw [upd_other _ _ _ _ (by decide), h8] at e; cases e
theorem RI.s8 (h : RI X R ra rb okb d vs w) (h5 : d 5 = true) (h7 : d 7 = true) {g : Nat} (hg : vs 7 = .pointer (some ⟨g, 0, none⟩)) {v : Value} : RI X R ra rb okb (upd d 8 true) (upd vs 8 v) ((w.setCell ⟨g, 0, none⟩ (.int .i64 ra)).setCell ⟨g, 1, none⟩ (.int .i64 rb)) := by
  obtain ⟨a1, a2, a3, a4, a5, a6, a7, a8⟩ := h
  obtain ⟨g', e1, e2, e3⟩ := a7 h7
  rw [hg] at e1
  injection e1 with e1
  injection e1 with e1
  injection e1 with e1
  subst e1
  have hk : Blk ((w.setCell ⟨g, 0, none⟩ (.int .i64 ra)).setCell ⟨g, 1, none⟩ (.int .i64 rb)) g 39 #[.int .i64 ra, .int .i64 rb] := by
    cases h8 : d 8
    · rw [h8] at e3
      have s1 := store_step e3 0 (.int .i64 ra)
      exact (store_step s1.1 1 (.int .i64 rb)).1
    · rw [h8] at e3
      have s1 := store_step e3 0 (.int .i64 ra)
      exact (store_step s1.1 1 (.int .i64 rb)).1
  have hb : Below X.heap.size X ((w.setCell ⟨g, 0, none⟩ (.int .i64 ra)).setCell ⟨g, 1, none⟩ (.int .i64 rb)) := (a1.setCell (p := ⟨g, 0, none⟩) e2 _).setCell (p := ⟨g, 1, none⟩) e2 _
  refine ⟨hb, fun e1 e2 => ?_, fun e => ?_, fun e => ?_, fun e => ?_, fun e => ?_, fun _ => ?_, fun _ => ?_⟩
  · rw [upd_other _ _ _ _ (by decide), (a4 (a5 h5).1).1] at e2; cases e2
  · rw [upd_other _ _ _ _ (by decide)] at e; rw [upd_other _ _ _ _ (by decide), upd_other _ _ _ _ (by decide)]; exact a3 e
  · rw [upd_other _ _ _ _ (by decide)] at e; rw [upd_other _ _ _ _ (by decide), upd_other _ _ _ _ (by decide)]; exact a4 e
  · rw [upd_other _ _ _ _ (by decide)] at e; rw [upd_other _ _ _ _ (by decide), upd_other _ _ _ _ (by decide)]; exact a5 e
  · rw [upd_other _ _ _ _ (by decide)] at e; rw [upd_other _ _ _ _ (by decide)]; exact a6 e
  · rw [upd_same, upd_other _ _ _ _ (by decide)]
    exact ⟨g, hg, e2, hk⟩
  · rw [upd_other _ _ _ _ (by decide), upd_other _ _ _ _ (by decide)]
    exact ⟨h5, h7⟩
end
set_option maxRecDepth 100000 in
set_option maxHeartbeats 2000000 in
theorem intervalRange_walk (c : Int) (A : Option Addr) (n cap : Nat) (L : List Iv) (D : Option Addr) (m cap2 : Nat) (R : List Iv) (w : World) (k0 : Ivs w A n L) (l0 : n ≤ 9223372036854775807) (k1 : At w D m 2 (R.flatMap Iv.cells)) (l1 : m ≤ 9223372036854775807) (g1 : ∀ x ∈ R, x.in) : Calls Try.prog 10 #[.agg #[.int .i64 c, .slice A n cap], .slice D m cap2] w fun e w' => e = .returned (.bool true) ∧ Below w.heap.size w w' := by
  have HG1 := Lib.hid (show ∀ x ∈ R, x.ok from fun x hx => g1 x hx)
  obtain ⟨W0, hW0⟩ : ∃ W, W = w.alloc (.cells #[.int .i64 c, .slice A n cap] 56) := ⟨_, rfl⟩
  have hb0 : Below w.heap.size w W0 := by rw [hW0]; exact (Below.refl _ w).alloc (Nat.le_refl _) _
  have K2 := Lib.hid (show Blk W0 w.heap.size 56 #[.int .i64 c, .slice A n cap] by rw [hW0]; exact Blk.new _ _ _)
  have HLN := Lib.hid k0.len
  have HRN := Lib.hid (show Ivs w D m R from k1).len
  have HK := Lib.hid (k0.below hb0)
  have HD := Lib.hid ((show Ivs w D m R from k1).below hb0)
  have HB := Lib.hid hb0
  clear k0 k1 g1 hb0
  go_enter Try.func10, Try.ntmps10
  go_upto_region 1 with fail
  rw [← hW0]
  clear hW0
  go_wp2_with fail
  refine (awake_any W0).mono ?_
  rintro e w1 ⟨rfl, hb⟩
  replace K2 := Lib.hid (K2.out.below hb)
  replace HK := Lib.hid (HK.out.below hb)
  replace HD := Lib.hid (HD.out.below hb)
  replace HB := Lib.hid (HB.out.trans (hb.mono HB.out.size))
  clear hb
  have e0 : w1.cell? ⟨w.heap.size, 0, none⟩ = some (.int .i64 c) := K2.out.cell 0
  have e1 : w1.cell? ⟨w.heap.size, 1, none⟩ = some (.slice A n cap) := K2.out.cell 1
  obtain ⟨X3, hX3⟩ : ∃ W, W = w1.alloc (.cells #[.int .i64 c, .slice A n cap, .bool false] 58) := ⟨_, rfl⟩
  have hb : Below w1.heap.size w1 X3 := by rw [hX3]; exact (Below.refl _ w1).alloc (Nat.le_refl _) _
  have CNS : Hid (Cns X3 (some ⟨w1.heap.size, 0, none⟩) 1 [⟨c, A, n, cap, L, false⟩]) := Lib.hid (by
    have K3 : Blk X3 w1.heap.size 58 #[.int .i64 c, .slice A n cap, .bool false] := by rw [hX3]; exact Blk.new _ _ _
    refine ⟨⟨rfl, fun _ => ⟨_, 0, rfl, K3.lt, fun j u hj => by
      rw [Nat.zero_add, K3.cell]
      show ([⟨c, A, n, cap, L, false⟩].flatMap Cn.cells).toArray[j]? = some u
      rw [List.getElem?_toArray]
      exact hj⟩⟩, fun x hx => ?_⟩
    rw [List.mem_singleton.1 hx]
    exact HK.out.below hb)
  replace K2 := Lib.hid (K2.out.below hb)
  replace HK := Lib.hid (HK.out.below hb)
  replace HD := Lib.hid (HD.out.below hb)
  replace HB := Lib.hid (HB.out.trans (hb.mono HB.out.size))
  clear hb
  have GD := Lib.hid (good_any (some ⟨w1.heap.size, 0, none⟩) 1 1 [⟨c, A, n, cap, L, false⟩] D m cap2 R X3 CNS.out HD.out)
  go_wp2_with fail
  rw [← hX3]
  clear hX3 e0 e1
  refine GD.out.mono ?_
  rintro e X ⟨⟨g, rfl, hg⟩, hb⟩
  have HG := Lib.hid hg
  replace K2 := Lib.hid (K2.out.below hb)
  replace HK := Lib.hid (HK.out.below hb)
  replace HD := Lib.hid (HD.out.below hb)
  replace HB := Lib.hid (HB.out.trans (hb.mono HB.out.size))
  clear hb
  clear GD hg CNS
  cases g
  · clear HG
    go_wp2
    go_ret
    exact ⟨rfl, HB.out⟩
  · obtain ⟨-, hm64, hRb, hcn⟩ := HG.out rfl
    rw [HRN.out] at hm64 hcn
    obtain ⟨hn64, hC, hLo⟩ := hcn _ (List.mem_singleton_self _)
    simp only at hn64 hC hLo
    have HC := Lib.hid hC
    have HLO := Lib.hid hLo
    have HRB := Lib.hid hRb
    clear hcn hC hLo hRb HG
    have TO := Lib.hid (fun W (hW : Below X.heap.size X W) => to_any D m cap2 R W (HD.out.below hW) (by omega))
    have RNG0 := Lib.hid (fun W A2 c2 (hW : Below X.heap.size X W) (hI : Ivs W A2 R.length R) => Range_any c A n cap L A2 m c2 R W (HK.out.below hW) (by rw [HRN.out] at hI; exact hI) hn64 hm64 HC.out HLO.out HRB.out)
    have HNO0 := Lib.hid (rng_none R L ⟨c, c⟩)
    have HYES0 := Lib.hid (rng_rr R L ⟨c, c⟩)
    rw [rngA_eq] at RNG0
    obtain ⟨ra, hra⟩ : ∃ z, ((rngM R L ⟨c, c⟩).getD ⟨0, 0⟩).lo = z := ⟨_, rfl⟩
    obtain ⟨rb, hrb⟩ : ∃ z, ((rngM R L ⟨c, c⟩).getD ⟨0, 0⟩).hi = z := ⟨_, rfl⟩
    obtain ⟨okb, hok⟩ : ∃ z, (rngM R L ⟨c, c⟩).isSome = z := ⟨_, rfl⟩
    have HNO := Lib.hid (show (∃ x ∈ L, x.hi ≠ 0 ∧ (R.getD x.lo.toNat ⟨0, 0⟩).emp = true) → ra = 0 ∧ rb = 0 ∧ okb = false from fun h => by
      have h1 := HNO0.out h
      rw [h1] at hra hrb hok
      exact ⟨hra.symm, hrb.symm, hok.symm⟩)
    have HYES := Lib.hid (show (∀ x ∈ L, x.hi ≠ 0 → (R.getD x.lo.toNat ⟨0, 0⟩).emp = false) → (rrM R L ⟨c, c⟩).lo = ra ∧ (rrM R L ⟨c, c⟩).hi = rb ∧ okb = true from fun h => by
      have h1 := HYES0.out h
      rw [h1] at hra hrb hok
      exact ⟨hra, hrb, hok.symm⟩)
    have RNG := Lib.hid (show ∀ W A2 c2, Below X.heap.size X W → Ivs W A2 R.length R → Calls Try.prog 30 #[.agg #[.int .i64 c, .slice A n cap], .slice A2 R.length c2] W fun e w' => e = .returned (.tuple #[.agg #[.int .i64 ra, .int .i64 rb], .bool okb]) ∧ Below W.heap.size W w' from fun W A2 c2 hW hI => by
      have h := RNG0.out W A2 c2 hW hI
      unfold Iv.agg at h
      rw [hra, hrb, hok, ← HRN.out] at h
      refine h.mono ?_
      rintro e w' ⟨h1, -, h2⟩
      exact ⟨h1, h2⟩)
    clear RNG0 HNO0 HYES0 hra hrb hok
    have e0 : X.cell? ⟨w.heap.size, 0, none⟩ = some (.int .i64 c) := K2.out.cell 0
    have e1 : X.cell? ⟨w.heap.size, 1, none⟩ = some (.slice A n cap) := K2.out.cell 1
    go_upto_region 5 with fail
    have hy : Below X.heap.size X X.drew := below_drew (Below.refl _ _)
    refine wp_region_mix 9 (fun w' => Below X.heap.size X w') (by kernel_rfl) (by decide) ?_
    generalize X.drew = y0 at hy ⊢
    refine wpM_take (i := 0) (oi := ⟨some 21, _, _, _, _, _⟩) (v := ?_) rfl (by decide +kernel) (by decide +kernel) (by decide +kernel) (fun _ _ _ h => h) (Or.inl ⟨by rfl, ?_⟩) hy ?_
    case refine_2 =>
      intro w' hSw
      have e0' := keepcell hSw e0
      have e1' := keepcell hSw e1
      go_simp
      try (with_reducible rfl)
    try simp only [Act.put, List.setIfInBounds_toArray, List.set_cons_zero, List.set_cons_succ]
    refine wpM_take (i := 1) (oi := ⟨some 22, _, _, _, _, _⟩) (v := ?_) rfl (by decide +kernel) (by decide +kernel) (by decide +kernel) (fun _ _ _ h => h) (Or.inl ⟨by rfl, ?_⟩) hy ?_
    case refine_2 =>
      intro w' hSw
      have e0' := keepcell hSw e0
      have e1' := keepcell hSw e1
      go_simp
      try (with_reducible rfl)
    try simp only [Act.put, List.setIfInBounds_toArray, List.set_cons_zero, List.set_cons_succ]
    refine wpM_inv2 (fun i => if i = 8 then 1000 else if i = 7 then 5 else if i = 4 then 20 else if i < 4 then 21 + i else 20 + i) [2, 3, 4, 5, 6, 7, 8] (RI X R ra rb okb) (by decide +kernel) (fun d vs w h => h.1) (RI.none_ hy) ?_ ?_
    · refine List.forall_mem_cons.2 ⟨?_, List.forall_mem_cons.2 ⟨?_, List.forall_mem_cons.2 ⟨?_, List.forall_mem_cons.2 ⟨?_, List.forall_mem_cons.2 ⟨?_, List.forall_mem_cons.2 ⟨?_, List.forall_mem_cons.2 ⟨?_, List.forall_mem_nil _⟩⟩⟩⟩⟩⟩⟩
      · refine ⟨⟨some 23, _, _, _, _, _⟩, rfl, .inl rfl, fun d vs W K hI hdi hd hK => ?_⟩
        simp only [puts, List.foldl_cons, List.foldl_nil, Act.put, Nat.reduceAdd, Nat.reduceSub, Nat.reduceEqDiff, Nat.reduceLT, if_true, if_false, ↓reduceIte, List.setIfInBounds_toArray, List.set_cons_zero, List.set_cons_succ] at hK ⊢
        go_simp
        refine (TO.out W hI.1).mono ?_
        rintro e w2 ⟨v2, rfl, ho, hb⟩
        exact hK _ _ (hI.s2 hdi ho hb)
      · refine ⟨⟨some 24, _, _, _, _, _⟩, rfl, .inl rfl, fun d vs W K hI hdi hd hK => ?_⟩
        simp only [puts, List.foldl_cons, List.foldl_nil, Act.put, Nat.reduceAdd, Nat.reduceSub, Nat.reduceEqDiff, Nat.reduceLT, if_true, if_false, ↓reduceIte, List.setIfInBounds_toArray, List.set_cons_zero, List.set_cons_succ] at hK ⊢
        have h2 := hd 2 (by decide) (by decide +kernel)
        obtain ⟨A2, c2', e2, I2, -, -⟩ := (hI.2.1 h2 hdi).ivs
        simp only [e2] at hK ⊢
        go_simp
        refine (RNG.out W A2 c2' hI.1 I2).mono ?_
        rintro e w2 ⟨rfl, hb⟩
        exact hK _ _ (hI.s3 h2 hb)
      · refine ⟨⟨some 20, _, _, _, _, _⟩, rfl, .inl rfl, fun d vs W K hI hdi hd hK => ?_⟩
        have h3 := hd 3 (by decide) (by decide +kernel)
        have e3 := (hI.2.2.1 h3).2
        simp only [puts, List.foldl_cons, List.foldl_nil, Act.put, Nat.reduceAdd, Nat.reduceSub, Nat.reduceEqDiff, Nat.reduceLT, if_true, if_false, ↓reduceIte, List.setIfInBounds_toArray, List.set_cons_zero, List.set_cons_succ] at hK ⊢
        simp only [e3] at hK ⊢
        go_simp
        exact hK _ _ (hI.s4 h3)
      · refine ⟨⟨some 25, _, _, _, _, _⟩, rfl, .inl rfl, fun d vs W K hI hdi hd hK => ?_⟩
        have h4 := hd 4 (by decide) (by decide +kernel)
        have e4 := (hI.2.2.2.1 h4).2
        simp only [puts, List.foldl_cons, List.foldl_nil, Act.put, Nat.reduceAdd, Nat.reduceSub, Nat.reduceEqDiff, Nat.reduceLT, if_true, if_false, ↓reduceIte, List.setIfInBounds_toArray, List.set_cons_zero, List.set_cons_succ] at hK ⊢
        simp only [e4] at hK ⊢
        go_simp
        exact hK _ _ (hI.s5 h4)
      · refine ⟨⟨some 26, _, _, _, _, _⟩, rfl, .inl rfl, fun d vs W K hI hdi hd hK => ?_⟩
        have h4 := hd 4 (by decide) (by decide +kernel)
        have e4 := (hI.2.2.2.1 h4).2
        simp only [puts, List.foldl_cons, List.foldl_nil, Act.put, Nat.reduceAdd, Nat.reduceSub, Nat.reduceEqDiff, Nat.reduceLT, if_true, if_false, ↓reduceIte, List.setIfInBounds_toArray, List.set_cons_zero, List.set_cons_succ] at hK ⊢
        simp only [e4] at hK ⊢
        go_simp
        exact hK _ _ hI.s6
      · refine ⟨⟨some 5, _, _, _, _, _⟩, rfl, .inl rfl, fun d vs W K hI hdi hd hK => ?_⟩
        simp only [puts, List.foldl_cons, List.foldl_nil, Act.put, Nat.reduceAdd, Nat.reduceSub, Nat.reduceEqDiff, Nat.reduceLT, if_true, if_false, ↓reduceIte, List.setIfInBounds_toArray, List.set_cons_zero, List.set_cons_succ] at hK ⊢
        go_simp
        exact hK _ _ (hI.s7 hdi)
      · refine ⟨⟨none, _, _, _, _, _⟩, rfl, .inr ⟨rfl, by simp⟩, fun d vs W K hI hdi hd hK => ?_⟩
        simp only [puts, List.foldl_cons, List.foldl_nil, Act.put, Nat.reduceAdd, Nat.reduceSub, Nat.reduceEqDiff, Nat.reduceLT, if_true, if_false, ↓reduceIte, List.setIfInBounds_toArray, List.set_cons_zero, List.set_cons_succ] at hK ⊢
        have h5 := hd 5 (by decide) (by decide +kernel)
        have h7 := hd 7 (by decide) (by decide +kernel)
        have e5 := (hI.2.2.2.2.1 h5).2
        obtain ⟨g, e7, hg, hk⟩ := hI.2.2.2.2.2.2.1 h7
        rw [hdi] at hk
        have z5 : ∀ j, W.frozen? ⟨g, j, none⟩ = false := fun j => Joins.unfrozen_of_block hk _
        have i0 : W.cell? ⟨g, 0, none⟩ = some (.int .i64 0) := hk.cell 0
        have i1 : W.cell? ⟨g, 1, none⟩ = some (.int .i64 0) := hk.cell 1
        simp only [e5, e7] at hK ⊢
        go_simp
        exact hK undef _ (hI.s8 h5 h7 e7)
    · intro d vs W hd hI
      simp only [puts, List.foldl_cons, List.foldl_nil, Act.put, Nat.reduceAdd, Nat.reduceSub, Nat.reduceEqDiff, Nat.reduceLT, if_true, if_false, ↓reduceIte, List.setIfInBounds_toArray, List.set_cons_zero, List.set_cons_succ]
      have e5 := (hI.2.2.2.2.1 (hd 5 (by decide))).2
      have e6 := hI.2.2.2.2.2.1 (hd 6 (by decide))
      obtain ⟨g5, e7, hg5, hk5⟩ := hI.2.2.2.2.2.2.1 (hd 7 (by decide))
      rw [hd 8 (by decide)] at hk5
      have hS := hI.1
      simp only [e5, e6, e7]
      have HK5 : Hid (Blk W g5 39 #[.int .i64 ra, .int .i64 rb]) := Lib.hid hk5
      clear hk5 e5 e6 e7 hd hI
      generalize vs 2 = v2 at *
      generalize vs 3 = v3 at *
      generalize vs 4 = v4 at *
      simp only [List.drop_succ_cons, List.drop_zero]
      have hX2 := K2.out.lt
      have YK5 := HK5
      have YK2 := Lib.hid (K2.out.below hS)
      have YB := Lib.hid (HB.out.trans (hS.mono HB.out.size))
      have YHK := Lib.hid (HK.out.below hS)
      have YHD := Lib.hid (HD.out.below hS)
      clear e0 e1 hS hy
      obtain ⟨Y, rfl⟩ : ∃ Y, Y = W := ⟨_, rfl⟩
      go_upto_region 6 with fail
      clear HK HD HB K2 HK5 TO RNG
      have e0 : Y.cell? ⟨w.heap.size, 0, none⟩ = some (.int .i64 c) := YK2.out.cell 0
      have e1 : Y.cell? ⟨w.heap.size, 1, none⟩ = some (.slice A n cap) := YK2.out.cell 1
      go_wp2
      clear e0 e1
      have hgw : w.heap.size < g5 := by omega
      go_loopw [30] (fun s30 wr => ∃ (k : Nat), s30 = .int .i64 (k : Int) ∧ k ≤ n ∧ (∀ x ∈ L.take k, x.hi ≠ 0 → (R.getD x.lo.toNat ⟨0, 0⟩).emp = false) ∧ Below Y.heap.size Y wr) (fun s30 _ => n - (intOf s30).toNat)
      case atStart => exact ⟨0, rfl, Nat.zero_le _, by simp, Below.refl _ _⟩
      case round =>
        obtain ⟨k, rfl, hkn, hE, hB⟩ := hrel
        have HE := Lib.hid hE
        have HBR := Lib.hid hB
        have HB := Lib.hid (YB.out.trans (hB.mono YB.out.size))
        have RK2 := Lib.hid (YK2.out.below hB)
        have RK5 := Lib.hid (YK5.out.below hB)
        have RHK := Lib.hid (YHK.out.below hB)
        have RHD := Lib.hid (YHD.out.below hB)
        clear hE hB
        by_cases hlt : k < n
        · have hki : (k : Int) < n := by omega
          have hk0 : (0 : Int) ≤ (k : Int) := by omega
          obtain ⟨b, off, rfl, hbl, hc⟩ := RHK.out.at (by omega)
          have hi' : k < L.length := by rw [HLN.out]; exact hlt
          obtain ⟨c0, c1⟩ := hc wr (Below.refl _ _) k hi'
          have HX := Lib.hid (HLO.out _ (List.getElem_mem hi'))
          obtain ⟨x, hxe⟩ : ∃ x, L[k] = x := ⟨_, rfl⟩
          have HXE := Lib.hid hxe
          rw [hxe] at c0 c1 HX
          clear hc hxe
          obtain ⟨x0, x1⟩ := x
          simp only at c0 c1
          obtain ⟨v, rfl⟩ : ∃ v : Nat, x0 = (v : Int) := ⟨x0.toNat, by have := HX.out.1.1; simp only at this; omega⟩
          have hv : v < m := by have := HX.out.1.2; simp only at this; omega
          have hvi : (v : Int) < m := by omega
          have hv0 : (0 : Int) ≤ (v : Int) := by omega
          obtain ⟨b2, off2, rfl, hbl2, hc2⟩ := RHD.out.at (by omega)
          have hv' : v < R.length := by rw [HRN.out]; exact hv
          have HCD := Lib.hid (fun V hV => hc2 V hV v hv')
          have HGD : Hid (R.getD v ⟨0, 0⟩ = R[v]) := Lib.hid (by simp [List.getD, List.getElem?_eq_getElem hv'])
          clear hc2
          generalize R[v] = d at *
          obtain ⟨d0, d1⟩ := d
          obtain ⟨X8, hX8⟩ : ∃ V, V = wr.alloc (.cells #[.int .i64 (v : Int), .int .i64 x1] 61) := ⟨_, rfl⟩
          have h8 : Below wr.heap.size wr X8 := by rw [hX8]; exact (Below.refl _ _).alloc (Nat.le_refl _) _
          have B8 := Lib.hid (show Blk X8 wr.heap.size 61 #[.int .i64 (v : Int), .int .i64 x1] by rw [hX8]; exact Blk.new _ _ _)
          obtain ⟨d0c, d1c⟩ := HCD.out X8 h8
          simp only at d0c d1c
          have g0 : X8.cell? ⟨wr.heap.size, 0, none⟩ = some (.int .i64 (v : Int)) := B8.out.cell 0
          go_upto_region 9 with fail
          rw [← hX8]
          clear hX8 c0 c1
          obtain ⟨X9, hX9⟩ : ∃ V, V = X8.alloc (.cells #[.int .i64 d0, .int .i64 d1] 42) := ⟨_, rfl⟩
          have h9 : Below wr.heap.size wr X9 := by rw [hX9]; exact h8.alloc h8.size _
          have B9 := Lib.hid (show Blk X9 X8.heap.size 42 #[.int .i64 d0, .int .i64 d1] by rw [hX9]; exact Blk.new _ _ _)
          have C8 := Lib.hid (show Blk X9 wr.heap.size 61 #[.int .i64 (v : Int), .int .i64 x1] by rw [hX9]; exact B8.out.alloc _)
          have C5 := Lib.hid (RK5.out.below h9)
          have CB := Lib.hid (HBR.out.trans (h9.mono HBR.out.size))
          have CBW := Lib.hid (HB.out.trans (h9.mono HB.out.size))
          clear h8 h9
          go_upto_region 10 with fail
          rw [← hX9]
          clear hX9 g0 d0c d1c
          have g1 : X9.cell? ⟨wr.heap.size, 1, none⟩ = some (.int .i64 x1) := C8.out.cell 1
          have d0c : X9.cell? ⟨X8.heap.size, 0, none⟩ = some (.int .i64 d0) := B9.out.cell 0
          have d1c : X9.cell? ⟨X8.heap.size, 1, none⟩ = some (.int .i64 d1) := B9.out.cell 1
          have r0c : X9.cell? ⟨g5, 0, none⟩ = some (.int .i64 ra) := C5.out.cell 0
          have r1c : X9.cell? ⟨g5, 1, none⟩ = some (.int .i64 rb) := C5.out.cell 1
          have next : (x1 ≠ 0 → ¬ d1 < d0) → ∀ x ∈ L.take (k + 1), x.hi ≠ 0 → (R.getD x.lo.toNat ⟨0, 0⟩).emp = false := fun h x hx hx0 => by
            rw [List.take_succ_eq_append_getElem hi', List.mem_append, List.mem_singleton] at hx
            rcases hx with hx | hx
            · exact HE.out x hx hx0
            · rw [hx, HXE.out] at hx0 ⊢
              show (R.getD (v : Int).toNat ⟨0, 0⟩).emp = false
              rw [Int.toNat_natCast, HGD.out]
              unfold Iv.emp
              simpa using h hx0
          by_cases hx1 : x1 = 0
          · have HQ := Lib.hid (next (fun h => absurd hx1 h))
            subst hx1
            clear next
            go_wp2
            go_roundw
            case rel => exact ⟨k + 1, by go_num, hlt, HQ.out, CB.out⟩
            case measure => simp only [intOf]; omega
          · have hxz : (x1 == 0) = false := by simpa using hx1
            have hxn : (x1 != 0) = true := by simpa using hx1
            by_cases hd : d1 < d0
            · obtain ⟨rfl, rfl, rfl⟩ := HNO.out ⟨⟨v, x1⟩, by rw [← HXE.out]; exact List.getElem_mem hi', hx1, by
                show (R.getD (v : Int).toNat ⟨0, 0⟩).emp = true
                rw [Int.toNat_natCast, HGD.out]
                unfold Iv.emp
                simpa using hd⟩
              clear next
              go_wp2
              go_ret
              exact ⟨rfl, CBW.out⟩
            · have HQ := Lib.hid (next (fun _ => hd))
              clear next
              go_wp2
              go_roundw
              case rel => exact ⟨k + 1, by go_num, hlt, HQ.out, CB.out⟩
              case measure => simp only [intOf]; omega
        · obtain rfl : k = n := by omega
          have hlt2 : ¬ ((k : Int) < (k : Int)) := by omega
          have HALL := HE.out
          rw [List.take_of_length_le (by rw [HLN.out]; exact Nat.le_refl _)] at HALL
          obtain ⟨hra, hrb, rfl⟩ := HYES.out HALL
          have RR := Lib.hid (RRange_any c A k cap L D m cap2 R wr RHK.out RHD.out hn64 hm64 HC.out HLO.out HRB.out)
          have e0 : wr.cell? ⟨w.heap.size, 0, none⟩ = some (.int .i64 c) := RK2.out.cell 0
          have e1 : wr.cell? ⟨w.heap.size, 1, none⟩ = some (.slice A k cap) := RK2.out.cell 1
          generalize rrM R L ⟨c, c⟩ = q at *
          obtain ⟨q0, q1⟩ := q
          simp only at hra hrb
          replace hra := hra.symm
          replace hrb := hrb.symm
          subst hra
          subst hrb
          clear HALL
          go_wp2_with fail
          refine RR.out.mono ?_
          rintro e w8 ⟨rfl, -, hb⟩
          have D5 := Lib.hid (RK5.out.below hb)
          have DB := Lib.hid (HB.out.trans (hb.mono HB.out.size))
          unfold Iv.agg
          obtain ⟨X9, hX9⟩ : ∃ V, V = w8.alloc (.cells #[.int .i64 ra, .int .i64 rb] 42) := ⟨_, rfl⟩
          have B9 := Lib.hid (show Blk X9 w8.heap.size 42 #[.int .i64 ra, .int .i64 rb] by rw [hX9]; exact Blk.new _ _ _)
          have C5 := Lib.hid (show Blk X9 g5 39 #[.int .i64 ra, .int .i64 rb] by rw [hX9]; exact D5.out.alloc _)
          have CB := Lib.hid (show Below w.heap.size w X9 by rw [hX9]; exact DB.out.alloc DB.out.size _)
          clear hb RR e0 e1
          go_upto_region 14 with fail
          rw [← hX9]
          clear hX9
          have d0c : X9.cell? ⟨w8.heap.size, 0, none⟩ = some (.int .i64 ra) := B9.out.cell 0
          have d1c : X9.cell? ⟨w8.heap.size, 1, none⟩ = some (.int .i64 rb) := B9.out.cell 1
          have r0c : X9.cell? ⟨g5, 0, none⟩ = some (.int .i64 ra) := C5.out.cell 0
          have r1c : X9.cell? ⟨g5, 1, none⟩ = some (.int .i64 rb) := C5.out.cell 1
          go_wp2
          go_ret
          exact ⟨by simp, CB.out⟩

set_option maxRecDepth 100000 in
theorem intervalRange_lifted (os : Os) (started : os.Started) (H : Type) (enc : TypeId × Value → H) :
    ReturnsInHanded {} Try.checked os 10 .any (Rows.intervalRangeSpec.pre6 enc Try.prog Try.f10 Rows.intervalRangeRow.domain false) (Rows.intervalRangeSpec.post enc Try.prog Try.f10 false true false false) := by
  refine law_lifted (C := Try.checked) (B := 4) Try.own started (by kernel_rfl) Try.func10
    (ChangeSpec.witness6 (enc := enc) (C := Try.checked) false ⟨#[], #[.agg #[.int .i64 0, .slice none 0 0], .slice none 0 0], []⟩ 8 (by kernel_rfl) (by kernel_rfl) (by kernel_rfl) (by kernel_rfl))
    Try.laidOut (by kernel_rfl) rfl rfl rfl Try.underlying4 (fun ds h => match ds, h with | [_, _], _ => rfl) ?_
  intro W base args ds ps hval hA hlt hsz
  rw [Try.params10] at hA hval hsz
  obtain ⟨v0, vs0, d0, ds0, p0, q0, hargs, rfl, rfl, h0, r0⟩ := trodAll_cons hA
  obtain ⟨v1, vs1, d1, ds1, p1, q1, rfl, rfl, rfl, h1, r1⟩ := trodAll_cons r0
  obtain ⟨rfl, rfl, rfl⟩ := trodAll_nil r1
  obtain rfl : args = #[v0, v1] := by cases args; simp_all
  obtain ⟨x0, A0, n0, c0, R0, rfl, k0, l0⟩ := open_lin (hval 0 56 v0 rfl rfl) h0 (fun x hx => hlt x (by simp [hx]))
  obtain ⟨A1, n1, c1, R1, rfl, k1, l1, g1⟩ := open_row (hval 1 22 v1 rfl rfl) h1 (fun x hx => hlt x (by simp [hx])) hsz (j := 1) rfl rfl
  exact intervalRange_walk x0 A0 n0 c0 R0 A1 n1 c1 R1 W k0 l0 k1 l1 g1

theorem intervalRange_over : Rows.intervalRangeRow.holds Try.pinned (OpenSpec.ofChange Rows.intervalRangeSpec) :=
  OpenClaim.holds_of_wide 10 Try.f10 rfl rfl rfl rfl rfl rfl rfl ⟨rfl, rfl, rfl, rfl, rfl⟩ rfl rfl rfl rfl rfl (by kernel_rfl) Try.func10 (by kernel_rfl)
    (of_decide_eq_true (by kernel_rfl)) (by unfold Func.isWrapper; first | (rw [if_pos (by decide +kernel)]; kernel_rfl) | (rw [if_neg (by decide +kernel)]; exact ⟨rfl, rfl⟩))
    (fun os started H enc _ => intervalRange_lifted os started H enc)

theorem intervalRange_proved : Rows.IntervalRangeSaid := intervalRange_over
end Go.Proofs.Ytnoddkbpdfimmaa
