/- The integers of a row, negated. -/
import Derived.Test.YthfolccofjaknaaCbr
namespace Go.Proofs.Ythfolccofjaknaa
open Go.ChangeShapes Go.WideShapes Go.ChangeAt Go.RowKit Go.ChangeMaps

theorem Bg.val_eq (b : Bg) : b.val = .agg #[.bool b.neg, .slice b.A b.n b.c] := rfl
/-- What a store into the row asks. -/
theorem Rw.ready {w : World} {B g N : Nat} {L : List Bg} (h : Rw w B g L N) (k : Nat) (hk : k < L.length) (s : Bool) : (∃ u0, w.cell? ⟨g, k * 2, none⟩ = some u0) ∧ w.frozen? ⟨g, k * 2, none⟩ = false ∧ (∃ u1, (w.setCell ⟨g, k * 2, none⟩ (.bool s)).cell? ⟨g, k * 2 + 1, none⟩ = some u1) ∧ (w.setCell ⟨g, k * 2, none⟩ (.bool s)).frozen? ⟨g, k * 2 + 1, none⟩ = false := by
  have h1 : Blk (w.setCell ⟨g, k * 2, none⟩ (.bool s)) g 37 ((L.flatMap Bg.cells).toArray.setIfInBounds (k * 2) (.bool s)) := Joins.block_setCell h.2.1 _
  refine ⟨⟨_, (h.cells k hk).1⟩, Joins.unfrozen_of_block h.2.1 _, ?_, Joins.unfrozen_of_block h1 _⟩
  rw [h1.cell, Array.getElem?_setIfInBounds_ne (by omega)]
  exact ⟨_, by rw [← h.2.1.cell]; exact (h.cells k hk).2⟩
theorem setCells2 (w : World) (g o : Nat) (a : Bool) (A : Option Addr) (n c : Nat) : w.setCells g o [.bool a, .slice A n c] = (w.setCell ⟨g, o, none⟩ (.bool a)).setCell ⟨g, o + 1, none⟩ (.slice A n c) := rfl
def NgP (w : World) (n : Nat) (Z : List Int) (N : Nat) (e : Ending) (w' : World) : Prop := ∃ g L', e = .returned (.slice (some ⟨g, 0, none⟩) n n) ∧ L'.map Bg.z = Z ∧ L'.length = n ∧ Rw w' w.heap.size g L' N ∧ Below w.heap.size w w'
set_option maxRecDepth 100000 in
set_option maxHeartbeats 2000000 in
theorem negated_any (w : World) (A : Option Addr) (n c : Nat) (L : List Bg) (N : Nat) (h : Bigs w A n L N) (hN : N ≤ 100000) (hn : n ≤ 1000000) : Calls Try.prog 46 #[.slice A n c] w (NgP w n (L.map fun b => -b.z) N) := by
  have HL := Lib.hid h.len
  have HA := Lib.hid h.at
  have HO := Lib.hid h.2.2
  clear h
  have hmk := make42 n hn
  obtain ⟨g, hg⟩ : ∃ g, g = w.heap.size := ⟨_, rfl⟩
  obtain ⟨W1, hW1⟩ : ∃ W1, W1 = w.alloc (.cells ((List.replicate n Bg.zero).flatMap Bg.cells).toArray 37) := ⟨_, rfl⟩
  have HB1 := Lib.hid (show Below w.heap.size w W1 by rw [hW1]; exact (Below.refl _ _).alloc (Nat.le_refl _) _)
  have HR1 := Lib.hid ((Rw.make hW1 hg (show w.heap.size ≤ g by omega)).mono (Nat.le_refl _) (Nat.zero_le N))
  go_enter Try.func46, Try.ntmps46
  go_upto_region 2 with fail
  rw [← hg, ← hW1]
  have HG := Lib.hid hg
  clear hg hW1 hmk
  go_wp2
  go_loopw [4, 5, 11] (fun _ _ s11 wr => ∃ (k : Nat) (L' : List Bg), s11 = .int .i64 (k : Int) ∧ k ≤ n ∧ L'.length = n ∧ (L'.map Bg.z).take k = (L.map (fun b => -b.z)).take k ∧ Rw wr w.heap.size g L' N ∧ Below w.heap.size w wr) (fun _ _ s11 _ => n - (intOf s11).toNat)
  case atStart => exact ⟨0, _, rfl, Nat.zero_le _, List.length_replicate, rfl, HR1.out, HB1.out⟩
  case round =>
    obtain ⟨k, L', rfl, hkn, hLn, hmz, hR, hB⟩ := hrel
    have HM := Lib.hid hmz
    have HLn := Lib.hid hLn
    have HR := Lib.hid hR
    have HB := Lib.hid hB
    clear hmz hLn hR hB
    by_cases hlt : k < n
    · have hki : (k : Int) < (n : Int) := by omega
      have hk0 : (0 : Int) ≤ (k : Int) := by omega
      have hkL : k < L.length := by rw [HL.out]; exact hlt
      obtain ⟨bA, off, rfl, -, hc⟩ := HA.out (by omega)
      obtain ⟨c0, c1⟩ := hc wr HB.out k hkL
      have hbk := HO.out _ (List.getElem_mem hkL)
      have HMS := Lib.hid (show (L.map (fun b => -b.z))[k]? = some (-L[k].z) by rw [List.getElem?_map, List.getElem?_eq_getElem hkL]; rfl)
      clear hc
      generalize L[k] = x at *
      obtain ⟨W2, hW2⟩ : ∃ W2, W2 = wr.alloc (.cells #[.bool x.neg, .slice x.A x.n x.c] 37) := ⟨_, rfl⟩
      obtain ⟨kx, hkx⟩ : ∃ kx, kx = wr.heap.size := ⟨_, rfl⟩
      have hb2 : Below wr.heap.size wr W2 := by rw [hW2]; exact (Below.refl _ _).alloc (Nat.le_refl _) _
      have HB2 := Lib.hid (HB.out.trans (hb2.mono HB.out.size))
      have HR2 := Lib.hid (HR.out.below hb2)
      have KX := Lib.hid (show Blk W2 kx 37 #[.bool x.neg, .slice x.A x.n x.c] by rw [hW2]; exact Blk.new_ hkx rfl)
      have CS := Lib.hid (Neg_any x.val x.z N W2 (hbk.below HB2.out) (Nat.le_trans hN (by decide)))
      unfold Bg.val at CS
      clear hb2 hbk
      go_upto_region 5 with fail
      rw [← hkx, ← hW2]
      clear hkx hW2 c0 c1
      have e0 : W2.cell? ⟨kx, 0, none⟩ = some (.bool x.neg) := KX.out.cell 0
      have e1 : W2.cell? ⟨kx, 1, none⟩ = some (.slice x.A x.n x.c) := KX.out.cell 1
      go_wp2_with fail
      clear e0 e1
      refine CS.out.mono ?_
      rintro e3 w3 ⟨v, rfl, hv, hb3⟩
      have HB3 := Lib.hid (HB2.out.trans (hb3.mono HB2.out.size))
      have HV := Lib.hid (hv.mono HB2.out.size (Nat.le_refl N))
      have HR3 := Lib.hid (HR2.out.below hb3)
      clear hb3 CS hv
      obtain ⟨sb, Av, nv, cv, rfl⟩ := HV.out.expose
      obtain ⟨⟨u0, f0⟩, z0, ⟨u1, f1⟩, z1⟩ := HR3.out.ready k (by rw [HLn.out]; exact hlt) sb
      go_wp2
      have HRS := Lib.hid (HR3.out.set k (by rw [HLn.out]; exact hlt) ⟨sb, Av, nv, cv, -x.z⟩ HV.out)
      have HBS := Lib.hid (setrow_below (g := g) (o := k * 2) HB3.out (by rw [HG.out]; exact Nat.le_refl _) (Bg.cells ⟨sb, Av, nv, cv, -x.z⟩))
      go_roundw
      case rel =>
        refine ⟨k + 1, _, by go_num, hlt, ?_, ?_, HRS.out, HBS.out⟩
        · rw [List.length_set]; exact HLn.out
        · rw [List.map_set, List.take_add_one, List.take_add_one, HMS.out, List.take_set_of_le (Nat.le_refl _), HM.out, List.getElem?_set_self (by rw [List.length_map, HLn.out]; exact hlt)]
      case measure => simp [intOf]; omega
    · obtain rfl : k = n := by omega
      have hlt2 : ¬ ((k : Int) < (k : Int)) := by omega
      have HMM := Lib.hid (show L'.map Bg.z = L.map (fun b => -b.z) by
        have := HM.out
        rw [List.take_of_length_le (by rw [List.length_map, HLn.out]; exact Nat.le_refl _), List.take_of_length_le (by rw [List.length_map, HL.out]; exact Nat.le_refl _)] at this
        exact this)
      go_wp2
      go_ret
      exact ⟨_, _, rfl, HMM.out, HLn.out, HR.out, HB.out⟩
end Go.Proofs.Ythfolccofjaknaa
