/- Model, where there is a solution. -/
import Derived.Test.YtbmofagaammgmaaDsa
namespace Go.Proofs.Ytbmofagaammgmaa
open Go.ChangeShapes Go.WideShapes Go.ChangeAt Go.RowKit Go.ChangeMaps

def MoP (s : St) (n : Nat) (w : World) (e : Ending) (w' : World) : Prop := ∃ gy cy Z, e = .returned (.tuple #[.slice (some ⟨gy, 0, none⟩) n cy, .bool true]) ∧ RW w' gy 2 Z ∧ w.heap.size ≤ gy ∧ Z.length = n + 1 ∧ Z.getD n 0 = 0 ∧ (∀ v, v < n + 1 → -(72057594037927936 : Int) ≤ Z.getD v 0 ∧ Z.getD v 0 ≤ 72057594037927936) ∧ (∀ p ∈ s.prs, Z.getD p.1 0 ≤ Z.getD p.2 0 + s.c p) ∧ Below w.heap.size w w'
theorem qn36 (w : World) (A : Option Addr) (n c : Nat) : (binOp .neq 36 (.slice A n c) (.slice none 0 0)).run Try.prog w = .ok (.bool (!A.isNone)) w := run_neq_slice_nil_any w _ _ A n c 0 0 Try.underlying36
set_option maxRecDepth 100000 in
set_option maxHeartbeats 2000000 in
theorem Model_sat (w : World) (B g n : Nat) (s : St) (h : MX w B g n s) (hsat : ∃ r, r < n + 1 ∧ ∀ v, v < n + 1 → (xsk s.c s.prs (n + 1) (r + 1)).getD v 0 = (xsk s.c s.prs (n + 1) r).getD v 0) : Calls Try.prog 18 #[.pointer (some ⟨g, 0, none⟩)] w (MoP s n w) := by
  have CS := Lib.hid (solve_sat w B g n s h hsat)
  have q := qn36
  obtain ⟨bm, v, M, z, h1, -⟩ := h.all
  have HG := Lib.hid h1
  have hn64 := h.n
  have HP := Lib.hid (show ∀ p ∈ s.prs, p.1 < n + 1 ∧ p.2 < n + 1 from fun p hp => by
    obtain ⟨q, hq, rfl⟩ := List.mem_map.1 hp
    obtain ⟨⟨a1, a2⟩, a3, a4⟩ := h.ok q hq
    dsimp only
    omega)
  clear h hsat h1
  go_enter Try.func18, Try.ntmps18
  go_wp2_with fail
  refine CS.out.mono ?_
  rintro e w1 ⟨gy, cy, Y, rfl, hy, hgy, hYl, hYb, hYs, hcy, hb⟩
  have HB := Lib.hid hb
  have HY := Lib.hid hy
  have HYB := Lib.hid hYb
  have HYS := Lib.hid hYs
  have c0 : w1.cell? ⟨g, 0, none⟩ = some (.int .i64 (n : Int)) := (HG.out.below hb).cell 0
  obtain ⟨zv, hzv⟩ : ∃ zv, Y.getD n 0 = zv := ⟨_, rfl⟩
  have cz : w1.cell? ⟨gy, n, none⟩ = some (.int .i64 zv) := by rw [← hzv]; exact hy.cell (by omega)
  have HZV := Lib.hid hzv
  have hni : (n : Int) < (n : Int) + 1 := by omega
  have hn0 : (0 : Int) ≤ (n : Int) := by omega
  have hzb := hYb n (by omega)
  rw [hzv] at hzb
  clear hzv hb hy hYb hYs CS
  go_upto_region 6 with fail
  clear c0 cz
  go_loopw [24] (fun s24 wr => ∃ (k : Nat) (Z : List Int), s24 = .int .i64 (k : Int) ∧ k ≤ n + 1 ∧ RW wr gy 2 Z ∧ Z.length = n + 1 ∧ (∀ i, i < n + 1 → Z.getD i 0 = if i < k then Y.getD i 0 - zv else Y.getD i 0) ∧ Below w.heap.size w wr) (fun s24 _ => n + 1 - (intOf s24).toNat)
  case atStart => exact ⟨0, Y, rfl, Nat.zero_le _, HY.out, hYl, fun i _ => by rw [if_neg (by omega)], HB.out⟩
  case round =>
    obtain ⟨k, Z, rfl, hkn, hz, hZl, hZ, hB⟩ := hrel
    have HZ := Lib.hid hz
    have HZZ := Lib.hid hZ
    have HBR := Lib.hid hB
    by_cases hlt : k < n + 1
    · have hki : (k : Int) < (n : Int) + 1 := by omega
      have hk0 : (0 : Int) ≤ (k : Int) := by omega
      obtain ⟨zk, hzk⟩ : ∃ zk, Z.getD k 0 = zk := ⟨_, rfl⟩
      have ck : wr.cell? ⟨gy, k, none⟩ = some (.int .i64 zk) := by rw [← hzk]; exact hz.cell (by omega)
      have fk := hz.free k
      have hzkb : -(72057594037927936 : Int) ≤ zk ∧ zk ≤ 0 := by
        rw [← hzk, hZ k hlt, if_neg (by omega)]
        exact HYB.out k hlt
      have hwr : IntKind.i64.wrap (zk - zv) = zk - zv := IntWalk.i64_in _ (by omega)
      have HZ' := Lib.hid (hz.set k (zk - zv))
      have HB' := Lib.hid (hB.setCell (p := ⟨gy, k, none⟩) hgy (.int .i64 (zk - zv)))
      have HZN := Lib.hid (show ∀ i, i < n + 1 → (Z.set k (zk - zv)).getD i 0 = if i < k + 1 then Y.getD i 0 - zv else Y.getD i 0 from fun i hi => by
        rw [getD_set _ _ _ _ (by omega)]
        by_cases e : i = k
        · subst e
          rw [if_pos rfl, if_pos (by omega), ← hzk, hZ i hi, if_neg (by omega)]
        · rw [if_neg e, hZ i hi]
          by_cases e2 : i < k
          · rw [if_pos e2, if_pos (by omega)]
          · rw [if_neg e2, if_neg (by omega)])
      have hl' : (Z.set k (zk - zv)).length = n + 1 := by rw [List.length_set]; exact hZl
      clear hz hZ hB hzk
      go_wp2
      go_roundw
      case rel => exact ⟨k + 1, _, by go_num, hlt, HZ'.out, hl', HZN.out, HB'.out⟩
      case measure => simp [intOf]; omega
    · obtain rfl : k = n + 1 := by omega
      have hlt2 : ¬ ((n : Int) + 1 < (n : Int) + 1) := by omega
      have c0 : wr.cell? ⟨g, 0, none⟩ = some (.int .i64 (n : Int)) := (HG.out.below hB).cell 0
      have HFIN := Lib.hid (show ∀ cy', MoP s n w (.returned (.tuple #[.slice (some ⟨gy, 0, none⟩) n cy', .bool true])) wr from fun cy' => by
        have hz1 : ∀ i, i < n + 1 → Z.getD i 0 = Y.getD i 0 - zv := fun i hi => by rw [hZ i hi, if_pos hi]
        refine ⟨gy, cy', Z, rfl, hz, hgy, hZl, ?_, fun v hv => ?_, fun p hp => ?_, hB⟩
        · rw [hz1 n (by omega), HZV.out]; omega
        · rw [hz1 v hv]
          have := HYB.out v hv
          omega
        · have h1 := HYS.out p hp
          obtain ⟨p1, p2⟩ := HP.out p hp
          rw [hz1 _ p1, hz1 _ p2]
          omega)
      have hcn : (n : Int) ≤ cy := by omega
      clear hz hZ hB
      go_wp2
      go_ret2
      exact HFIN.out _
end Go.Proofs.Ytbmofagaammgmaa
