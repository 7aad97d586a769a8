/- The walk of the law SnapshotDivide. -/
import Derived.Test.YthhpilkhcomhbaaDoorVop
namespace Go.Proofs.YthhpilkhcomhbaaDoor
open Go.ChangeShapes Go.WideShapes Go.ChangeAt Go.RowKit Go.ChangeMaps

set_option maxRecDepth 100000 in
set_option maxHeartbeats 2000000 in
theorem snapshotDivide_walk (x : Int) (w : World) (_ : -9223372036854775808 ≤ x) (_ : x ≤ 9223372036854775807) (hev : Env w) :
    Calls Tryd.prog 3 #[.int .i64 x] w fun e w' => e = .returned (.bool true) ∧ Below w.heap.size w w' := by
  by_cases hx : 7 ≤ x ∧ x ≤ 65536
  · obtain ⟨n, rfl⟩ : ∃ n : Nat, x = n := ⟨x.toNat, by omega⟩
    have C1 := Lib.hid (fun W => Divide_ok W n (by omega) (by omega))
    have C2 := Lib.hid (fun W => RDivide_ok W n (by omega) (by omega))
    obtain ⟨a, ha⟩ : ∃ a : Int, (areaOf n : Int) = a := ⟨_, rfl⟩
    rw [ha] at C1 C2
    unfold layV at C1 C2
    clear ha
    obtain ⟨cp, hcp⟩ : ∃ z, capM (n : Int) = z := ⟨_, rfl⟩
    have C3 := Lib.hid (fun W => Capacity_any W (n : Int))
    have C4 := Lib.hid (fun W => RCapacity_any W (n : Int))
    rw [hcp] at C3 C4
    have HEV := Lib.hid hev
    have q22 := eq22
    clear hcp hev hx
    go_enter Tryd.func3, Tryd.ntmps3
    go_wp2_with fail
    refine (C1.out _).mono ?_
    rintro e w1 ⟨rfl, hb⟩
    have HB := Lib.hid hb
    have HA := Lib.hid (Blk.new w1 24 #[.int .i64 0, .int .i64 1, .int .i64 2, .int .i64 3, .int .i64 (3 + a), .int .i64 a, .int .i64 (3 + 2 * a), .int .i64 ((n : Int) - (3 + 2 * a))])
    have hb2 := (Below.refl w1.heap.size w1).alloc (Nat.le_refl _) (.cells #[.int .i64 0, .int .i64 1, .int .i64 2, .int .i64 3, .int .i64 (3 + a), .int .i64 a, .int .i64 (3 + 2 * a), .int .i64 ((n : Int) - (3 + 2 * a))] 24)
    replace HB := Lib.hid (HB.out.trans (hb2.mono HB.out.size))
    clear hb hb2
    go_wp2_with fail
    refine (C2.out _).mono ?_
    rintro e w2 ⟨rfl, hb⟩
    replace HB := Lib.hid (HB.out.trans (hb.mono HB.out.size))
    replace HA := Lib.hid (HA.out.below hb)
    have HC := Lib.hid (Blk.new w2 28 #[.int .i64 0, .int .i64 1, .int .i64 2, .int .i64 3, .int .i64 (3 + a), .int .i64 a, .int .i64 (3 + 2 * a), .int .i64 ((n : Int) - (3 + 2 * a))])
    have hb2 := (Below.refl w2.heap.size w2).alloc (Nat.le_refl _) (.cells #[.int .i64 0, .int .i64 1, .int .i64 2, .int .i64 3, .int .i64 (3 + a), .int .i64 a, .int .i64 (3 + 2 * a), .int .i64 ((n : Int) - (3 + 2 * a))] 28)
    replace HB := Lib.hid (HB.out.trans (hb2.mono HB.out.size))
    replace HA := Lib.hid (HA.out.below hb2)
    clear hb hb2
    go_wp2_with fail
    refine (awake_any _ (HEV.out.below HB.out)).mono ?_
    rintro e w3 ⟨rfl, hb⟩
    replace HB := Lib.hid (HB.out.trans (hb.mono HB.out.size))
    replace HA := Lib.hid (HA.out.below hb)
    replace HC := Lib.hid (HC.out.below hb)
    clear hb
    have a0 : w3.cell? ⟨w1.heap.size, 0, none⟩ = some (.int .i64 0) := HA.out.cell 0
    have a1 : w3.cell? ⟨w1.heap.size, 1, none⟩ = some (.int .i64 1) := HA.out.cell 1
    have a2 : w3.cell? ⟨w1.heap.size, 2, none⟩ = some (.int .i64 2) := HA.out.cell 2
    have a3 : w3.cell? ⟨w1.heap.size, 3, none⟩ = some (.int .i64 3) := HA.out.cell 3
    have a4 : w3.cell? ⟨w1.heap.size, 4, none⟩ = some (.int .i64 (3 + a)) := HA.out.cell 4
    have a5 : w3.cell? ⟨w1.heap.size, 5, none⟩ = some (.int .i64 a) := HA.out.cell 5
    have a6 : w3.cell? ⟨w1.heap.size, 6, none⟩ = some (.int .i64 (3 + 2 * a)) := HA.out.cell 6
    have a7 : w3.cell? ⟨w1.heap.size, 7, none⟩ = some (.int .i64 ((n : Int) - (3 + 2 * a))) := HA.out.cell 7
    have b0 : w3.cell? ⟨w2.heap.size, 0, none⟩ = some (.int .i64 0) := HC.out.cell 0
    have b1 : w3.cell? ⟨w2.heap.size, 1, none⟩ = some (.int .i64 1) := HC.out.cell 1
    have b2 : w3.cell? ⟨w2.heap.size, 2, none⟩ = some (.int .i64 2) := HC.out.cell 2
    have b3 : w3.cell? ⟨w2.heap.size, 3, none⟩ = some (.int .i64 3) := HC.out.cell 3
    have b4 : w3.cell? ⟨w2.heap.size, 4, none⟩ = some (.int .i64 (3 + a)) := HC.out.cell 4
    have b5 : w3.cell? ⟨w2.heap.size, 5, none⟩ = some (.int .i64 a) := HC.out.cell 5
    have b6 : w3.cell? ⟨w2.heap.size, 6, none⟩ = some (.int .i64 (3 + 2 * a)) := HC.out.cell 6
    have b7 : w3.cell? ⟨w2.heap.size, 7, none⟩ = some (.int .i64 ((n : Int) - (3 + 2 * a))) := HC.out.cell 7
    go_wp2_with fail
    refine (C3.out _).mono ?_
    rintro e w4 ⟨rfl, hb⟩
    replace HB := Lib.hid (HB.out.trans (hb.mono HB.out.size))
    clear hb
    go_wp2_with fail
    refine (C4.out _).mono ?_
    rintro e w5 ⟨rfl, hb⟩
    replace HB := Lib.hid (HB.out.trans (hb.mono HB.out.size))
    clear hb
    go_wp2
    go_ret
    exact ⟨rfl, HB.out⟩
  · have C1 := Lib.hid (fun W => Divide_bad W x (by omega))
    have C2 := Lib.hid (fun W => RDivide_bad W x (by omega))
    unfold lay0 at C1 C2
    obtain ⟨cp, hcp⟩ : ∃ z, capM x = z := ⟨_, rfl⟩
    have C3 := Lib.hid (fun W => Capacity_any W x)
    have C4 := Lib.hid (fun W => RCapacity_any W x)
    rw [hcp] at C3 C4
    have HEV := Lib.hid hev
    have q22 := eq22
    clear hcp hev hx
    go_enter Tryd.func3, Tryd.ntmps3
    go_wp2_with fail
    refine (C1.out _).mono ?_
    rintro e w1 ⟨rfl, hb⟩
    have HB := Lib.hid hb
    have HA := Lib.hid (Blk.new w1 24 #[.int .i64 0, .int .i64 0, .int .i64 0, .int .i64 0, .int .i64 0, .int .i64 0, .int .i64 0, .int .i64 0])
    have hb2 := (Below.refl w1.heap.size w1).alloc (Nat.le_refl _) (.cells #[.int .i64 0, .int .i64 0, .int .i64 0, .int .i64 0, .int .i64 0, .int .i64 0, .int .i64 0, .int .i64 0] 24)
    replace HB := Lib.hid (HB.out.trans (hb2.mono HB.out.size))
    clear hb hb2
    go_wp2_with fail
    refine (C2.out _).mono ?_
    rintro e w2 ⟨rfl, hb⟩
    replace HB := Lib.hid (HB.out.trans (hb.mono HB.out.size))
    replace HA := Lib.hid (HA.out.below hb)
    have HC := Lib.hid (Blk.new w2 28 #[.int .i64 0, .int .i64 0, .int .i64 0, .int .i64 0, .int .i64 0, .int .i64 0, .int .i64 0, .int .i64 0])
    have hb2 := (Below.refl w2.heap.size w2).alloc (Nat.le_refl _) (.cells #[.int .i64 0, .int .i64 0, .int .i64 0, .int .i64 0, .int .i64 0, .int .i64 0, .int .i64 0, .int .i64 0] 28)
    replace HB := Lib.hid (HB.out.trans (hb2.mono HB.out.size))
    replace HA := Lib.hid (HA.out.below hb2)
    clear hb hb2
    go_wp2_with fail
    refine (awake_any _ (HEV.out.below HB.out)).mono ?_
    rintro e w3 ⟨rfl, hb⟩
    replace HB := Lib.hid (HB.out.trans (hb.mono HB.out.size))
    replace HA := Lib.hid (HA.out.below hb)
    replace HC := Lib.hid (HC.out.below hb)
    clear hb
    have a0 : w3.cell? ⟨w1.heap.size, 0, none⟩ = some (.int .i64 0) := HA.out.cell 0
    have a1 : w3.cell? ⟨w1.heap.size, 1, none⟩ = some (.int .i64 0) := HA.out.cell 1
    have a2 : w3.cell? ⟨w1.heap.size, 2, none⟩ = some (.int .i64 0) := HA.out.cell 2
    have a3 : w3.cell? ⟨w1.heap.size, 3, none⟩ = some (.int .i64 0) := HA.out.cell 3
    have a4 : w3.cell? ⟨w1.heap.size, 4, none⟩ = some (.int .i64 0) := HA.out.cell 4
    have a5 : w3.cell? ⟨w1.heap.size, 5, none⟩ = some (.int .i64 0) := HA.out.cell 5
    have a6 : w3.cell? ⟨w1.heap.size, 6, none⟩ = some (.int .i64 0) := HA.out.cell 6
    have a7 : w3.cell? ⟨w1.heap.size, 7, none⟩ = some (.int .i64 0) := HA.out.cell 7
    have b0 : w3.cell? ⟨w2.heap.size, 0, none⟩ = some (.int .i64 0) := HC.out.cell 0
    have b1 : w3.cell? ⟨w2.heap.size, 1, none⟩ = some (.int .i64 0) := HC.out.cell 1
    have b2 : w3.cell? ⟨w2.heap.size, 2, none⟩ = some (.int .i64 0) := HC.out.cell 2
    have b3 : w3.cell? ⟨w2.heap.size, 3, none⟩ = some (.int .i64 0) := HC.out.cell 3
    have b4 : w3.cell? ⟨w2.heap.size, 4, none⟩ = some (.int .i64 0) := HC.out.cell 4
    have b5 : w3.cell? ⟨w2.heap.size, 5, none⟩ = some (.int .i64 0) := HC.out.cell 5
    have b6 : w3.cell? ⟨w2.heap.size, 6, none⟩ = some (.int .i64 0) := HC.out.cell 6
    have b7 : w3.cell? ⟨w2.heap.size, 7, none⟩ = some (.int .i64 0) := HC.out.cell 7
    go_wp2_with fail
    refine (C3.out _).mono ?_
    rintro e w4 ⟨rfl, hb⟩
    replace HB := Lib.hid (HB.out.trans (hb.mono HB.out.size))
    clear hb
    go_wp2_with fail
    refine (C4.out _).mono ?_
    rintro e w5 ⟨rfl, hb⟩
    replace HB := Lib.hid (HB.out.trans (hb.mono HB.out.size))
    clear hb
    go_wp2
    go_ret
    exact ⟨rfl, HB.out⟩
end Go.Proofs.YthhpilkhcomhbaaDoor
