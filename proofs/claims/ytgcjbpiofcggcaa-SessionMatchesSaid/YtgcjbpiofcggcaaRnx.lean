/- The reference of a session: Next. -/
import Derived.Test.YtgcjbpiofcggcaaRdn
namespace Go.Proofs.Ytgcjbpiofcggcaa
open Go.ChangeShapes Go.WideShapes Go.ChangeAt Go.RowKit Go.ChangeMaps

theorem keep3D {g : Nat} {y1 y2 y3 : Value} {w1 W : World} (h : W.cell? ⟨g, 1, none⟩ = some y1 ∧ W.cell? ⟨g, 2, none⟩ = some y2 ∧ W.cell? ⟨g, 3, none⟩ = some y3 ∧ Below w1.heap.size w1 W) : W.drew.cell? ⟨g, 1, none⟩ = some y1 ∧ W.drew.cell? ⟨g, 2, none⟩ = some y2 ∧ W.drew.cell? ⟨g, 3, none⟩ = some y3 ∧ Below w1.heap.size w1 W.drew := ⟨h.1, h.2.1, h.2.2.1, below_drew h.2.2.2⟩
theorem keep3B {g : Nat} {y1 y2 y3 : Value} {w1 W W' : World} (h : W.cell? ⟨g, 1, none⟩ = some y1 ∧ W.cell? ⟨g, 2, none⟩ = some y2 ∧ W.cell? ⟨g, 3, none⟩ = some y3 ∧ Below w1.heap.size w1 W) (hb : Below W.heap.size W W') : W'.cell? ⟨g, 1, none⟩ = some y1 ∧ W'.cell? ⟨g, 2, none⟩ = some y2 ∧ W'.cell? ⟨g, 3, none⟩ = some y3 ∧ Below w1.heap.size w1 W' := ⟨keepcell hb h.1, keepcell hb h.2.1, keepcell hb h.2.2.1, h.2.2.2.trans (hb.mono h.2.2.2.size)⟩
theorem keep3S {g p i : Nat} {y1 y2 y3 u : Value} {w1 W : World} (h : W.cell? ⟨g, 1, none⟩ = some y1 ∧ W.cell? ⟨g, 2, none⟩ = some y2 ∧ W.cell? ⟨g, 3, none⟩ = some y3 ∧ Below w1.heap.size w1 W) (hg : g < p) (hp : w1.heap.size ≤ p) : (W.setCell ⟨p, i, none⟩ u).cell? ⟨g, 1, none⟩ = some y1 ∧ (W.setCell ⟨p, i, none⟩ u).cell? ⟨g, 2, none⟩ = some y2 ∧ (W.setCell ⟨p, i, none⟩ u).cell? ⟨g, 3, none⟩ = some y3 ∧ Below w1.heap.size w1 (W.setCell ⟨p, i, none⟩ u) :=
  ⟨setpast (by omega) h.1, setpast (by omega) h.2.1, setpast (by omega) h.2.2.1, upd_below2 h.2.2.2 hp (grown_set _ _ _ _) h.2.2.2.size⟩
theorem setA {w : World} {b : Nat} {u x y : Value} (h0 : w.cell? ⟨b, 0, none⟩ = some u) : ((w.setCell ⟨b, 0, none⟩ x).setCell ⟨b, 1, none⟩ y).cell? ⟨b, 0, none⟩ = some x :=
  (World.cell?_setCell_other _ _ _ _ (by simp)).trans (World.cell?_setCell_same _ _ _ h0)
theorem setB {w : World} {b : Nat} {v x y : Value} (h1 : w.cell? ⟨b, 1, none⟩ = some v) : ((w.setCell ⟨b, 0, none⟩ x).setCell ⟨b, 1, none⟩ y).cell? ⟨b, 1, none⟩ = some y :=
  World.cell?_setCell_same _ _ _ ((World.cell?_setCell_other _ _ _ _ (by simp)).trans h1)
theorem keep3A {g : Nat} {y1 y2 y3 : Value} {w1 W : World} {x : Obj} (h : W.cell? ⟨g, 1, none⟩ = some y1 ∧ W.cell? ⟨g, 2, none⟩ = some y2 ∧ W.cell? ⟨g, 3, none⟩ = some y3 ∧ Below w1.heap.size w1 W) : (W.alloc x).cell? ⟨g, 1, none⟩ = some y1 ∧ (W.alloc x).cell? ⟨g, 2, none⟩ = some y2 ∧ (W.alloc x).cell? ⟨g, 3, none⟩ = some y3 ∧ Below w1.heap.size w1 (W.alloc x) := keep3B h ((Below.refl _ _).alloc (Nat.le_refl _) _)
set_option maxRecDepth 100000 in
set_option maxHeartbeats 2000000 in
theorem RNext_any (A : Option Addr) (n c : Nat) (K : List Int) (w : World) (hr : At w A n 1 (ic .i64 K)) (hn : n ≤ 300000000000) (num cur ex : Nat) (hc : cur ≤ 300000000000) (he : ex ≤ 300000000000) (i : Nat) (ok : Bool) (hN : nx K cur ex = (i, ok)) :
    Calls Try.prog 27 #[.agg #[.int .i64 (num : Int), .slice A n c, .int .i64 (cur : Int), .int .i64 (ex : Int)]] w fun e w' => e = .returned (.tuple #[.int .i64 (i : Int), .bool ok]) ∧ Below w.heap.size w w' := by
  have HR := Lib.hid hr
  have HT := Lib.hid (show (splitM K).length ≤ n by have := splitM_len K; rw [hr.int] at this; exact this)
  have HL := Lib.hid hr.int
  have HN := Lib.hid hN
  clear hr hN
  by_cases hlt : cur < (splitM K).length
  · have HD : Hid (decide ((splitM K).length ≤ cur) = false) := Lib.hid (by simp; omega)
    have HF := Lib.hid (fs_facts hlt)
    have HX : Hid (nx K cur ex = if fs K cur + ex ≤ endM K (fs K cur) then (fs K cur + ex, true) else (endM K (fs K cur), false)) := Lib.hid (by unfold nx; rw [if_pos hlt])
    have HP0 := Lib.hid (pC_get0 (splitM K) cur hlt)
    have HP1 := Lib.hid (pC_get1 (splitM K) cur hlt)
    go_enter Try.func27, Try.ntmps27
    go_wp2_with fail
    refine (RDone_any A n c K _ (HR.out.alloc _) hn num cur ex hc false HD.out).mono ?_
    rintro e w1 ⟨rfl, hb⟩
    have HW := Lib.hid (((Below.refl _ w).alloc (Nat.le_refl _) (.cells #[.int .i64 (num : Int), .slice A n c, .int .i64 (cur : Int), .int .i64 (ex : Int)] 36)).trans (hb.mono (by simp)))
    have HA := Lib.hid ((HR.out.alloc (.cells #[.int .i64 (num : Int), .slice A n c, .int .i64 (cur : Int), .int .i64 (ex : Int)] 36)).below hb)
    have s0 : w1.cell? ⟨w.heap.size, 1, none⟩ = some (.slice A n c) ∧ w1.cell? ⟨w.heap.size, 2, none⟩ = some (.int .i64 (cur : Int)) ∧ w1.cell? ⟨w.heap.size, 3, none⟩ = some (.int .i64 (ex : Int)) ∧ Below w1.heap.size w1 w1 := ⟨keepcell hb (newcell 1 _ rfl rfl), keepcell hb (newcell 2 _ rfl rfl), keepcell hb (newcell 3 _ rfl rfl), Below.refl _ _⟩
    have hgl : w.heap.size < w1.heap.size := block_lt_of_cell s0.1
    clear hb
    obtain ⟨q1, q2, q3⟩ := HF.out
    rw [List.getElem?_eq_getElem hlt] at q1
    injection q1 with q1
    have P0 : Hid ((pC (splitM K))[cur * 2]? = some (.int .i64 (fs K cur : Nat))) := Lib.hid (by rw [HP0.out, q1])
    have P1 : Hid ((pC (splitM K))[cur * 2 + 1]? = some (.int .i64 (endM K (fs K cur) : Nat))) := Lib.hid (by rw [HP1.out, q1])
    have q3 : endM K (fs K cur) < n := by rw [← HL.out]; exact q3
    have CS : Hid (∀ W, (W.cell? ⟨w.heap.size, 1, none⟩ = some (.slice A n c) ∧ W.cell? ⟨w.heap.size, 2, none⟩ = some (.int .i64 (cur : Int)) ∧ W.cell? ⟨w.heap.size, 3, none⟩ = some (.int .i64 (ex : Int)) ∧ Below w1.heap.size w1 W) → Calls Try.prog 13 #[.slice A n c] W fun e w' => ∃ b off c2, e = .returned (.slice (some ⟨b, off, none⟩) (splitM K).length c2) ∧ b < w'.heap.size ∧ w'.cell? ⟨b, off + cur * 2, none⟩ = some (.int .i64 (fs K cur : Nat)) ∧ w'.cell? ⟨b, off + cur * 2 + 1, none⟩ = some (.int .i64 (endM K (fs K cur) : Nat)) ∧ (w'.cell? ⟨w.heap.size, 1, none⟩ = some (.slice A n c) ∧ w'.cell? ⟨w.heap.size, 2, none⟩ = some (.int .i64 (cur : Int)) ∧ w'.cell? ⟨w.heap.size, 3, none⟩ = some (.int .i64 (ex : Int)) ∧ Below w1.heap.size w1 w') ∧ (∀ j v, W.cell? ⟨w1.heap.size, j, none⟩ = some v → w'.cell? ⟨w1.heap.size, j, none⟩ = some v) ∧ (∀ j, w1.heap.size < W.heap.size → W.frozen? ⟨w1.heap.size, j, none⟩ = false → w'.frozen? ⟨w1.heap.size, j, none⟩ = false)) := Lib.hid (fun W hW =>
      (RSplit_any _ _ _ _ _ (HA.out.below hW.2.2.2) hn).mono fun e w' ⟨v, h1, h2, h3⟩ => by
        obtain ⟨A3, c3, rfl, h4, _, _⟩ := At.of_own h2
        obtain ⟨b, off, rfl, hb, hcc⟩ := h4.2 (by omega)
        exact ⟨b, off, c3, h1, hb, hcc _ _ P0.out, by rw [Nat.add_assoc]; exact hcc _ _ P1.out, keep3B hW h3, fun j v hv => keepcell h3 hv, fun j hl hv => (h3.frozen (p := ⟨w1.heap.size, j, none⟩) hl).trans hv⟩)
    clear q1 HP0 HP1 P0 P1 HF
    have hT := HT.out
    generalize endM K (fs K cur) = el at *
    generalize fs K cur = s at *
    generalize (splitM K).length = t at *
    go_wp2_with fail
    have s1 := s0.1
    have s2 := s0.2.1
    have s3 := s0.2.2.1
    go_cut [4] (fun s4 wx => ∃ g : Nat, s4 = .pointer (some ⟨g, 0, none⟩) ∧ wx.cell? ⟨g, 0, none⟩ = some (.int .i64 (s : Int)) ∧ wx.cell? ⟨g, 1, none⟩ = some (.int .i64 (el : Int)) ∧ wx.cell? ⟨w.heap.size, 1, none⟩ = some (.slice A n c) ∧ wx.cell? ⟨w.heap.size, 2, none⟩ = some (.int .i64 (cur : Int)) ∧ wx.cell? ⟨w.heap.size, 3, none⟩ = some (.int .i64 (ex : Int)) ∧ Below w1.heap.size w1 wx)
    case first =>
      go_region_with ((go_at_call 13; refine (CS.out _ ?hh).mono ?_; (case hh => first | exact keep3D s0 | exact keep3A (keep3D s0) | exact keep3D (keep3A s0)); rintro e w2 ⟨b, off, c2, rfl, hbl, z0, z1, ⟨k1, k2, k3, kB⟩, hk, hf⟩; have kl := block_lt_of_cell k1; have n0 := hk 0 (.int .i64 0); have n1 := hk 1 (.int .i64 0); have f0 := hf 0; have f1 := hf 1; clear hk hf))
      all_goals (go_wp2_with fail; go_meet)
      all_goals first | exact ⟨_, rfl, newcell 0 _ rfl rfl, newcell 1 _ rfl rfl, keep3A ⟨k1, k2, k3, kB⟩⟩ | exact ⟨_, rfl, setA (n0 (newcell 0 _ rfl rfl)), setB (n1 (newcell 1 _ rfl rfl)), keep3S (keep3S ⟨k1, k2, k3, kB⟩ hgl (Nat.le_refl _)) hgl (Nat.le_refl _)⟩ | skip
    case rest =>
      obtain ⟨g, rfl, g0, g1, _, _, g3, hB⟩ := hcut
      have HB := Lib.hid (more_below HW.out hB)
      clear hB s0
      have HNN := HN.out
      by_cases hse : s + ex ≤ el
      · rw [HX.out, if_pos hse] at HNN
        injection HNN with h1 h2
        subst h1 h2
        clear HN HX
        have hse2 : (s : Int) + (ex : Int) ≤ (el : Int) := by omega
        go_wp2
        go_ret2
        exact ⟨by simp, HB.out⟩
      · rw [HX.out, if_neg hse] at HNN
        injection HNN with h1 h2
        subst h1 h2
        clear HN HX
        have hse2 : ¬ (s : Int) + (ex : Int) ≤ (el : Int) := by omega
        go_wp2
        go_ret2
        exact ⟨by simp, HB.out⟩
  · have HD : Hid (decide ((splitM K).length ≤ cur) = true) := Lib.hid (by simp; omega)
    have HX := HN.out
    unfold nx at HX
    rw [if_neg hlt] at HX
    injection HX with h1 h2
    subst h1 h2
    clear hlt HN
    go_enter Try.func27, Try.ntmps27
    go_wp2_with fail
    refine (RDone_any A n c K _ (HR.out.alloc _) hn num cur ex hc true HD.out).mono ?_
    rintro e w1 ⟨rfl, hb⟩
    have HW := Lib.hid (((Below.refl _ w).alloc (Nat.le_refl _) (.cells #[.int .i64 (num : Int), .slice A n c, .int .i64 (cur : Int), .int .i64 (ex : Int)] 36)).trans (hb.mono (by simp)))
    clear hb
    go_wp2
    go_ret2
    exact ⟨rfl, HW.out⟩
end Go.Proofs.Ytgcjbpiofcggcaa
