/- Digits divided by one digit. -/
import Derived.Test.YthfolccofjaknaaMB
import Derived.Lib.EndianBits
namespace Go.Proofs.Ythfolccofjaknaa
open Go.ChangeShapes Go.WideShapes Go.ChangeAt Go.RowKit Go.ChangeMaps

theorem or32 (r d : Nat) (hr : r < 4294967296) (hd : d < 4294967296) : bits BinOp.or IntKind.u64 ((r : Int) * 4294967296) (d : Int) = ((r * 4294967296 + d : Nat) : Int) := by
  rw [bits_join .u64 64 (by decide) wraps_u64 32 _ _ (by omega) (by omega) (by omega) (by omega) (by omega) (by omega)]
  omega
theorem dd_round {B : Nat} (D Q : List Nat) (j r d b t : Nat) (hd : D[j]? = some d) (hj : j < Q.length) (ht : t = r * B + d) (h : dv B (D.drop (j + 1)) = dv B (Q.drop (j + 1)) * b + r) : dv B (D.drop j) = dv B ((Q.set j (t / b)).drop j) * b + t % b := by
  rw [dv_drop_cons B D j d hd, dv_drop_cons B (Q.set j (t / b)) j (t / b) (by rw [List.getElem?_set_self hj]), h]
  have e : (Q.set j (t / b)).drop (j + 1) = Q.drop (j + 1) := by
    apply List.ext_getElem?
    intro i
    rw [List.getElem?_drop, List.getElem?_drop, List.getElem?_set_ne (by omega)]
  rw [e]
  have h2 := Nat.div_add_mod t b
  rw [Nat.add_mul, Nat.mul_add, ← Nat.mul_assoc]
  rw [Nat.mul_comm (t / b) b]
  rw [Nat.mul_comm r B] at ht
  omega
set_option maxRecDepth 100000 in
set_option maxHeartbeats 4000000 in
theorem divDigit_any (A : Option Addr) (n c : Nat) (D : List Nat) (b : Nat) (w : World) (h : DG w A n D) (hn : n ≤ 100000) (hb0 : 0 < b) (hbB : b < 4294967296) :
    Calls Try.prog 84 #[.slice A n c, .int .u32 (b : Int)] w fun e w' => ∃ g Q r, e = .returned (.tuple #[.slice (some ⟨g, 0, none⟩) Q.length Q.length, .int .u32 ((r : Nat) : Int)]) ∧ Blk w' g 86 (dc Q) ∧ w.heap.size ≤ g ∧ dok 4294967296 Q ∧ dv 4294967296 D = dv 4294967296 Q * b + r ∧ r < b ∧ Q.length = n ∧ Below w.heap.size w w' := by
  have HA := Lib.hid h.at
  have HL := Lib.hid h.1
  have HD := Lib.hid h.2.1
  clear h
  have hbI : (b : Int) < 4294967296 := by omega
  have hbI0 : (1 : Int) ≤ b := by omega
  have hbne : ((b : Int) == 0) = false := by simp; omega
  have hmk := make32 n (by omega) w
  obtain ⟨W0, hW0⟩ : ∃ W, W = w.alloc (.cells (dc (List.replicate n 0)) 86) := ⟨_, rfl⟩
  rw [← hW0] at hmk
  have HB0 := Lib.hid (show Below w.heap.size w W0 by rw [hW0]; exact (Below.refl _ w).alloc (Nat.le_refl _) _)
  have HK0 := Lib.hid (show Blk W0 w.heap.size 86 (dc (List.replicate n 0)) by rw [hW0]; exact Blk.new _ _ _)
  clear hW0
  go_enter Try.func84, Try.ntmps84
  go_wp2
  clear hmk
  obtain ⟨g, hg⟩ : ∃ g, w.heap.size = g := ⟨_, rfl⟩
  have HG := Lib.hid (show w.heap.size ≤ g by omega)
  rw [hg] at HK0 ⊢
  clear hg
  go_loopw [7, 8] (fun s7 s8 wr => ∃ (k r : Nat) (x : Int) (Q : List Nat), s7 = .int .u64 (r : Int) ∧ s8 = .int .i64 x ∧ x = (k : Int) - 1 ∧ k ≤ n ∧ r < b ∧ Q.length = n ∧ dok 4294967296 Q ∧ dv 4294967296 (D.drop k) = dv 4294967296 (Q.drop k) * b + r ∧ Blk wr g 86 (dc Q) ∧ Below w.heap.size w wr) (fun _ s8 _ => (intOf s8 + 1).toNat)
  case atStart => exact ⟨n, 0, _, _, rfl, rfl, rfl, Nat.le_refl _, hb0, by simp, dok_rep (by decide) _, by rw [List.drop_of_length_le (show D.length ≤ n by rw [HL.out]; exact Nat.le_refl _), List.drop_of_length_le (by simp)]; simp [dv], HK0.out, HB0.out⟩
  case round =>
    obtain ⟨k, r, x, Q, rfl, rfl, hx, hkn, hr, hQl, hQd, hinv, hblk, hb⟩ := hrel
    have HI := Lib.hid hinv
    have HQ := Lib.hid hQd
    have HK := Lib.hid hblk
    have HBW := Lib.hid hb
    have HQL := Lib.hid hQl
    clear hinv hQd hblk hb hQl HK0 HB0
    by_cases h0 : k = 0
    · subst h0
      obtain rfl : x = -1 := by omega
      clear hx
      have hrI : (r : Int) < 4294967296 := by omega
      have HF := Lib.hid (show dv 4294967296 D = dv 4294967296 Q * b + r by simpa using HI.out)
      go_wp2
      go_ret2
      refine ⟨g, Q, r, ?_, HK.out, HG.out, HQ.out, HF.out, hr, HQL.out, HBW.out⟩
      rw [HQL.out]; rfl
    · obtain ⟨j, rfl⟩ : ∃ j : Nat, k = j + 1 := ⟨k - 1, by omega⟩
      obtain rfl : x = (j : Int) := by omega
      clear hx h0
      have hjn : (j : Int) < n := by omega
      obtain ⟨b2, off, rfl, hbl, hcell⟩ := HA.out (by omega)
      obtain ⟨d, hd⟩ : ∃ d, D[j]? = some d := ⟨_, List.getElem?_eq_getElem (by have := HL.out; omega)⟩
      have hdB := dok_at HD.out hd
      have hdI : (d : Int) < 4294967296 := by omega
      have hrI : (r : Int) < 4294967296 := by omega
      have c0 := hcell wr HBW.out j d hd
      obtain ⟨o, ho⟩ : ∃ o, Q[j]? = some o := ⟨_, List.getElem?_eq_getElem (by have := HQL.out; omega)⟩
      have c9 : wr.cell? ⟨g, j, none⟩ = some (.int .u32 (o : Int)) := (HK.out.cell _).trans (dc_get ho)
      have f9 : wr.frozen? ⟨g, j, none⟩ = false := Joins.unfrozen_of_block HK.out _
      have HDd := Lib.hid hd
      have hor := or32 r d (by omega) hdB
      obtain ⟨t, ht⟩ : ∃ t, t = r * 4294967296 + d := ⟨_, rfl⟩
      rw [← ht] at hor
      have htI : (t : Int) < 18446744073709551616 := by omega
      have hq : IntKind.u64.wrap ((t : Int).tdiv (b : Int)) = ((t / b : Nat) : Int) := by
        rw [IntWalk.u64_quo _ _ ⟨by omega, by omega, by omega⟩]; simp
      have hq2 : (t : Int) / (b : Int) = ((t / b : Nat) : Int) := by simp
      have hm : (t : Int).tmod (b : Int) = ((t % b : Nat) : Int) := by rw [IntWalk.rem_in _ _ (by omega)]; simp
      have htb : t / b < 4294967296 := by
        rw [Nat.div_lt_iff_lt_mul hb0, ht]
        have : (r + 1) * 4294967296 ≤ b * 4294967296 := Nat.mul_le_mul_right _ hr
        rw [Nat.mul_comm 4294967296 b]
        omega
      have htbI : ((t / b : Nat) : Int) < 4294967296 := by omega
      have hmb : t % b < b := Nat.mod_lt _ hb0
      have HT := Lib.hid ht
      have HNx := Lib.hid (show ∃ (k' r' : Nat) (x' : Int) (Q' : List Nat), Value.int .u64 ((t % b : Nat) : Int) = .int .u64 (r' : Int) ∧ Value.int .i64 ((j : Int) - 1) = .int .i64 x' ∧ x' = (k' : Int) - 1 ∧ k' ≤ n ∧ r' < b ∧ Q'.length = n ∧ dok 4294967296 Q' ∧ dv 4294967296 (D.drop k') = dv 4294967296 (Q'.drop k') * b + r' ∧ Blk (wr.setCell ⟨g, j, none⟩ (.int .u32 ((t / b : Nat) : Int))) g 86 (dc Q') ∧ Below w.heap.size w (wr.setCell ⟨g, j, none⟩ (.int .u32 ((t / b : Nat) : Int))) from by
        refine ⟨j, t % b, (j : Int) - 1, Q.set j (t / b), rfl, rfl, rfl, by omega, hmb, by rw [List.length_set]; exact HQL.out, dok_set HQ.out _ _ htb, dd_round D Q j r d b t HDd.out (by have := HQL.out; omega) HT.out HI.out, ?_, ?_⟩
        · rw [← dc_set]; exact (store_step HK.out j _).1
        · exact (store_step HK.out j _).2.2 _ _ HBW.out HG.out)
      clear hcell hd ho ht
      obtain ⟨u, hu⟩ : ∃ u, t / b = u := ⟨_, rfl⟩
      obtain ⟨v, hv⟩ : ∃ u, t % b = u := ⟨_, rfl⟩
      rw [hu] at HNx hq hq2 htbI
      rw [hv] at HNx hm
      clear hu hv htb hmb
      go_wp2
      go_roundw
      case rel => exact HNx.out
      case measure => simp only [intOf]; omega
end Go.Proofs.Ythfolccofjaknaa
