/- The function awake of the laws of this layer returns true. -/
import Derived.Test.YthhpilkhcomhbaaDoorSrs
import Derived.Lib.SlBytesConst
import Derived.DeepKeys
namespace Go.Proofs.YthhpilkhcomhbaaDoor
open Go.ChangeShapes Go.WideShapes Go.ChangeAt Go.RowKit Go.ChangeMaps

theorem ba_new {F : Nat → Prop} (w : World) (l : List UInt8) (z : Nat × Nat) {n : Nat} (hn : l.length = n) (hF : ¬ F w.heap.size) : BA F (w.alloc (.cells (bc l).toArray 5 z)) (some ⟨w.heap.size, 0, none⟩) n l :=
  ⟨hn, fun _ => ⟨_, _, rfl, by simp, hF, fun i hi => by rw [Nat.zero_add, cell_of_row _ _ i _ 5 z (heap_alloc_new w _)]; simpa using bc_at l i hi⟩⟩
theorem eq22 (x y u v : Int) (w : World) : (Op.equalIn 9999 22 (.agg #[.int .i64 x, .int .i64 y]) (.agg #[.int .i64 u, .int .i64 v])).run Tryd.prog w = .ok ((x == u) && (y == v)) w := by
  have hu := Tryd.underlying22
  have hu3 := Tryd.underlying3
  have hz : ∀ w : World, (sizeOf 3).run Tryd.prog w = .ok 1 w := fun w => by kernel_rfl
  rw [show (9999 : Nat) = 9998 + 1 by rfl]
  unfold Op.equalIn
  have heq : ∀ (a b : Int) (w : World), (Op.equalIn 9998 3 (.int .i64 a) (.int .i64 b)).run Tryd.prog w = .ok (a == b) w := fun a b w => run_equalIn_int w 9997 3 .i64 .i64 a b hu3
  have hag : ∀ w : World, (isAgg 3).run Tryd.prog w = .ok false w := fun w => by kernel_rfl
  have l2 : List.range' 0 2 = [0, 1] := by decide
  simp only [run_underlying hu, Sem.run_bind, Result.andThen_ok, hz, Std.Legacy.Range.forIn_eq_forIn_range', Std.Legacy.Range.size]
  simp [l2, part, hag, heq]
  (repeat' split) <;> simp_all
theorem lay7 : layV ((areaOf 7 : Nat) : Int) ((7 : Nat) : Int) = .agg #[.int .i64 0, .int .i64 1, .int .i64 2, .int .i64 3, .int .i64 4, .int .i64 1, .int .i64 5, .int .i64 2] := by rfl
theorem lay16 : layV ((areaOf 16 : Nat) : Int) ((16 : Nat) : Int) = .agg #[.int .i64 0, .int .i64 1, .int .i64 2, .int .i64 3, .int .i64 6, .int .i64 3, .int .i64 9, .int .i64 7] := by rfl
theorem cap7 : capM 7 = 64 := by rfl
def abc : List UInt8 := [97, 98, 99]
theorem aw_r0 : SR (St.new 7) = ([], 0, 4) := by
  have := has_read (has_new 7 (by decide) []) rfl
  exact this
theorem aw_w : (SW (St.new 7) 1 abc).2 = 0 ∧ SR (SW (St.new 7) 1 abc).1 = (abc, 1, 0) := by
  have h0 := has_new 7 (by decide) []
  have h := has_write (s := St.new 7) (k := 0) (e := 1) (d0 := []) (d := abc) h0 rfl (St.new_ok (by decide)).1 (by decide) (by decide) (by decide) (by decide) (by decide)
  obtain ⟨-, -, -, -, h | h⟩ := h
  · have := has_read h.2.2.1 h.2.1
    rw [if_neg (by decide)] at this
    exact ⟨h.1, this⟩
  · exact absurd rfl h.2.2.1
set_option maxRecDepth 100000 in
set_option maxHeartbeats 2000000 in
theorem awake_any (w : World) (hev : Env w) : Calls Tryd.prog 12 #[] w fun e w' => e = .returned (.bool true) ∧ Below w.heap.size w w' := by
  have C7 := Lib.hid (fun W => Divide_ok W 7 (by decide) (by decide))
  rw [lay7] at C7
  have C16 := Lib.hid (fun W => Divide_ok W 16 (by decide) (by decide))
  rw [lay16] at C16
  have C6 := Lib.hid (fun W => Divide_bad W 6 (.inl (by decide)))
  unfold lay0 at C6
  have CC := Lib.hid (fun W => Capacity_any W 7)
  rw [cap7] at CC
  have k3 := fun w => Lib.run_convert_bytes_const (P := Tryd.prog) w 36 5 #[.int .u8 97, .int .u8 98, .int .u8 99] 3 3 Tryd.underlying36 Tryd.underlying5
  simp only [List.size_toArray, List.length_cons, List.length_nil, Nat.zero_add, Nat.reduceAdd] at k3
  have HEV := Lib.hid hev
  have HB := Lib.hid (Below.refl w.heap.size w)
  clear hev
  have q22 := eq22
  go_enter Tryd.func12, Tryd.ntmps12
  go_wp2_with fail
  refine (C7.out _).mono ?_
  rintro e w1 ⟨rfl, hb⟩
  replace HB := Lib.hid (HB.out.trans (hb.mono HB.out.size))
  replace HEV := Lib.hid (HEV.out.below hb)
  clear hb
  have HA := Lib.hid (Blk.new w1 24 #[.int .i64 0, .int .i64 1, .int .i64 2, .int .i64 3, .int .i64 4, .int .i64 1, .int .i64 5, .int .i64 2])
  have hb := (Below.refl w1.heap.size w1).alloc (Nat.le_refl _) (.cells #[.int .i64 0, .int .i64 1, .int .i64 2, .int .i64 3, .int .i64 4, .int .i64 1, .int .i64 5, .int .i64 2] 24)
  replace HB := Lib.hid (HB.out.trans (hb.mono HB.out.size))
  replace HEV := Lib.hid (HEV.out.below hb)
  clear hb
  go_wp2_with fail
  refine (C16.out _).mono ?_
  rintro e w2 ⟨rfl, hb⟩
  replace HB := Lib.hid (HB.out.trans (hb.mono HB.out.size))
  replace HEV := Lib.hid (HEV.out.below hb)
  replace HA := Lib.hid (HA.out.below hb)
  clear hb
  have HC := Lib.hid (Blk.new w2 24 #[.int .i64 0, .int .i64 1, .int .i64 2, .int .i64 3, .int .i64 6, .int .i64 3, .int .i64 9, .int .i64 7])
  have hb := (Below.refl w2.heap.size w2).alloc (Nat.le_refl _) (.cells #[.int .i64 0, .int .i64 1, .int .i64 2, .int .i64 3, .int .i64 6, .int .i64 3, .int .i64 9, .int .i64 7] 24)
  replace HB := Lib.hid (HB.out.trans (hb.mono HB.out.size))
  replace HEV := Lib.hid (HEV.out.below hb)
  replace HA := Lib.hid (HA.out.below hb)
  clear hb
  go_wp2_with fail
  refine (C6.out _).mono ?_
  rintro e w3 ⟨rfl, hb⟩
  replace HB := Lib.hid (HB.out.trans (hb.mono HB.out.size))
  replace HEV := Lib.hid (HEV.out.below hb)
  replace HA := Lib.hid (HA.out.below hb)
  replace HC := Lib.hid (HC.out.below hb)
  clear hb
  have hb := (Below.refl w3.heap.size w3).alloc (Nat.le_refl _) (.cells #[.int .i64 0, .int .i64 0, .int .i64 0, .int .i64 0, .int .i64 0, .int .i64 0, .int .i64 0, .int .i64 0] 24)
  replace HB := Lib.hid (HB.out.trans (hb.mono HB.out.size))
  replace HEV := Lib.hid (HEV.out.below hb)
  replace HA := Lib.hid (HA.out.below hb)
  replace HC := Lib.hid (HC.out.below hb)
  clear hb
  have hq0 : 0 < (w3.alloc (.cells #[.int .i64 0, .int .i64 0, .int .i64 0, .int .i64 0, .int .i64 0, .int .i64 0, .int .i64 0, .int .i64 0] 24)).heap.size := Nat.lt_of_le_of_lt (Nat.zero_le _) HC.out.lt
  have hqa : w1.heap.size < (w3.alloc (.cells #[.int .i64 0, .int .i64 0, .int .i64 0, .int .i64 0, .int .i64 0, .int .i64 0, .int .i64 0, .int .i64 0] 24)).heap.size := HA.out.lt
  have hqc : w2.heap.size < (w3.alloc (.cells #[.int .i64 0, .int .i64 0, .int .i64 0, .int .i64 0, .int .i64 0, .int .i64 0, .int .i64 0, .int .i64 0] 24)).heap.size := HC.out.lt
  have hqw : w.heap.size ≤ (w3.alloc (.cells #[.int .i64 0, .int .i64 0, .int .i64 0, .int .i64 0, .int .i64 0, .int .i64 0, .int .i64 0, .int .i64 0] 24)).heap.size := HB.out.size
  have HP := Lib.hid (show ∀ k, PQ ((w3.alloc (.cells #[.int .i64 0, .int .i64 0, .int .i64 0, .int .i64 0, .int .i64 0, .int .i64 0, .int .i64 0, .int .i64 0] 24)).heap.size + 1) (w3.alloc (.cells #[.int .i64 0, .int .i64 0, .int .i64 0, .int .i64 0, .int .i64 0, .int .i64 0, .int .i64 0, .int .i64 0] 24)).heap.size k → k ≠ 0 ∧ k ≠ w1.heap.size ∧ k ≠ w2.heap.size ∧ w.heap.size ≤ k from fun k hk => by rcases hk with e | e <;> omega)
  clear hq0 hqa hqc hqw
  have CN := Lib.hid (New_ok (w3.alloc (.cells #[.int .i64 0, .int .i64 0, .int .i64 0, .int .i64 0, .int .i64 0, .int .i64 0, .int .i64 0, .int .i64 0] 24)) 7 (by decide) (by decide))
  generalize (w3.alloc (.cells #[.int .i64 0, .int .i64 0, .int .i64 0, .int .i64 0, .int .i64 0, .int .i64 0, .int .i64 0, .int .i64 0] 24)).heap.size + 1 = p at *
  generalize hqq : (w3.alloc (.cells #[.int .i64 0, .int .i64 0, .int .i64 0, .int .i64 0, .int .i64 0, .int .i64 0, .int .i64 0, .int .i64 0] 24)).heap.size = q at HP CN
  go_wp2_with fail
  refine CN.out.mono ?_
  rintro e w4 ⟨rfl, hd, hb⟩
  rw [← hqq] at hb
  replace HB := Lib.hid (HB.out.trans (hb.mono HB.out.size))
  replace HEV := Lib.hid (HEV.out.below hb)
  replace HA := Lib.hid (HA.out.below hb)
  replace HC := Lib.hid (HC.out.below hb)
  clear hb
  have HD := Lib.hid hd
  clear hd CN
  have hp0 : ¬ PQ p q 0 := fun hk => (HP.out 0 hk).1 rfl
  have hpa : ¬ PQ p q w1.heap.size := fun hk => (HP.out _ hk).2.1 rfl
  have hpc : ¬ PQ p q w2.heap.size := fun hk => (HP.out _ hk).2.2.1 rfl
  have HPW := Lib.hid (fun k hk => (HP.out k hk).2.2.2)
  have HNP := Lib.hid (show ¬ PQ p q 0 ∧ ¬ PQ p q w1.heap.size ∧ ¬ PQ p q w2.heap.size from ⟨hp0, hpa, hpc⟩)
  clear hp0 hpa hpc hqq HP C7 C16 C6
  have CR := Lib.hid (fun W (hW : Dk W p q (St.new 7)) (he : Env W) => SRead_any W p q _ hW HNP.out.1 he)
  rw [aw_r0] at CR
  go_wp2_with fail
  refine (CR.out _ HD.out HEV.out).mono ?_
  rintro e w5 ⟨v5, rfl, ho5, hb⟩
  replace HB := Lib.hid (HB.out.trans (hb.mono HB.out.size))
  replace HEV := Lib.hid (HEV.out.below hb)
  replace HA := Lib.hid (HA.out.below hb)
  replace HC := Lib.hid (HC.out.below hb)
  replace HD := Lib.hid (HD.out.below hb)
  clear hb
  obtain ⟨A5, c5, rfl, -⟩ := own_bytes ho5
  clear ho5 CR
  have CW := Lib.hid (fun W (hW : Dk W p q (St.new 7)) (he : Env W) A c (hA : BA (PQ p q) W A 3 abc) (hc : 3 ≤ c) (hc2 : c ≤ 9223372036854775807) => SWrite_any W p q _ hW HNP.out.1 he 1 3 c (by decide) (by decide) A abc hA (by decide) hc hc2)
  have aw := aw_w
  obtain ⟨r, hr⟩ : ∃ r, SW (St.new 7) 1 abc = r := ⟨_, rfl⟩
  rw [hr] at CW aw
  rw [aw.1] at CW
  have HSR := Lib.hid aw.2
  clear aw hr
  go_wp2_with fail
  have hba := (Below.refl w5.heap.size w5).alloc (Nat.le_refl _) (.cells #[.int .u8 97, .int .u8 98, .int .u8 99] 5 (3, 4))
  have HBA : Hid (BA (PQ p q) (w5.alloc (.cells #[.int .u8 97, .int .u8 98, .int .u8 99] 5 (3, 4))) (some ⟨w5.heap.size, 0, none⟩) 3 abc) := Lib.hid (ba_new w5 abc (3, 4) rfl (HD.out.fresh (Nat.le_refl _)))
  replace HB := Lib.hid (HB.out.trans (hba.mono HB.out.size))
  replace HEV := Lib.hid (HEV.out.below hba)
  replace HA := Lib.hid (HA.out.below hba)
  replace HC := Lib.hid (HC.out.below hba)
  replace HD := Lib.hid (HD.out.below hba)
  clear hba
  refine (CW.out _ HD.out HEV.out _ 3 HBA.out (by decide) (by decide)).mono ?_
  rintro e w6 ⟨rfl, hd, hc⟩
  replace HB := Lib.hid (hc.below HB.out HPW.out HB.out.size)
  replace HEV := Lib.hid (HEV.out.chg hc HNP.out.1)
  replace HA := Lib.hid (HA.out.chg hc HNP.out.2.1)
  replace HC := Lib.hid (HC.out.chg hc HNP.out.2.2)
  replace HD := Lib.hid hd
  clear hd hc CW HBA
  have CR := Lib.hid (SRead_any w6 p q _ HD.out HNP.out.1 HEV.out)
  rw [HSR.out] at CR
  go_wp2_with fail
  refine CR.out.mono ?_
  rintro e w7 ⟨v7, rfl, ho7, hb⟩
  replace HB := Lib.hid (HB.out.trans (hb.mono HB.out.size))
  replace HEV := Lib.hid (HEV.out.below hb)
  replace HA := Lib.hid (HA.out.below hb)
  replace HC := Lib.hid (HC.out.below hb)
  replace HD := Lib.hid (HD.out.below hb)
  clear hb
  obtain ⟨A7, c7, hv7, hb7⟩ := own_bytes ho7
  have hv7 : v7 = .slice A7 3 c7 := hv7
  subst hv7
  have HB7 := Lib.hid hb7
  clear ho7 CR hb7 HSR
  have a0 : w7.cell? ⟨w1.heap.size, 0, none⟩ = some (.int .i64 0) := HA.out.cell 0
  have a1 : w7.cell? ⟨w1.heap.size, 1, none⟩ = some (.int .i64 1) := HA.out.cell 1
  have a2 : w7.cell? ⟨w1.heap.size, 2, none⟩ = some (.int .i64 2) := HA.out.cell 2
  have a3 : w7.cell? ⟨w1.heap.size, 3, none⟩ = some (.int .i64 3) := HA.out.cell 3
  have a4 : w7.cell? ⟨w1.heap.size, 4, none⟩ = some (.int .i64 4) := HA.out.cell 4
  have a5 : w7.cell? ⟨w1.heap.size, 5, none⟩ = some (.int .i64 1) := HA.out.cell 5
  have a6 : w7.cell? ⟨w1.heap.size, 6, none⟩ = some (.int .i64 5) := HA.out.cell 6
  have a7 : w7.cell? ⟨w1.heap.size, 7, none⟩ = some (.int .i64 2) := HA.out.cell 7
  have b0 : w7.cell? ⟨w2.heap.size, 0, none⟩ = some (.int .i64 0) := HC.out.cell 0
  have b1 : w7.cell? ⟨w2.heap.size, 1, none⟩ = some (.int .i64 1) := HC.out.cell 1
  have b2 : w7.cell? ⟨w2.heap.size, 2, none⟩ = some (.int .i64 2) := HC.out.cell 2
  have b3 : w7.cell? ⟨w2.heap.size, 3, none⟩ = some (.int .i64 3) := HC.out.cell 3
  have b4 : w7.cell? ⟨w2.heap.size, 4, none⟩ = some (.int .i64 6) := HC.out.cell 4
  have b5 : w7.cell? ⟨w2.heap.size, 5, none⟩ = some (.int .i64 3) := HC.out.cell 5
  have b6 : w7.cell? ⟨w2.heap.size, 6, none⟩ = some (.int .i64 9) := HC.out.cell 6
  have b7 : w7.cell? ⟨w2.heap.size, 7, none⟩ = some (.int .i64 7) := HC.out.cell 7
  go_wp2_with fail
  refine (CC.out _).mono ?_
  rintro e w8 ⟨rfl, hb⟩
  have hst : (convert 36 9 (.slice A7 3 c7)).run Tryd.prog w8 = .ok (.string ⟨#[97, 98, 99]⟩) w8 := string_at (n := 3) (c := c7) (l := abc) (HB7.out.below hb)
  replace HB := Lib.hid (HB.out.trans (hb.mono HB.out.size))
  clear hb
  go_wp2
  go_ret
  exact ⟨rfl, HB.out⟩
end Go.Proofs.YthhpilkhcomhbaaDoor
