/- Size. -/
import Derived.Test.YthfolccofjaknaaCda
import Derived.Deep.Cut
namespace Go.Proofs.Ythfolccofjaknaa
open Go.ChangeShapes Go.WideShapes Go.ChangeAt Go.RowKit Go.ChangeMaps

theorem pf_lt {sA : Option Addr} {sn sc : Nat} {S : List Sp} {fA : Option Addr} {fn fc : Nat} {F : List Bg} {b : Bg} {kA : Option Addr} {kn kc : Nat} {K : List Pf} {k : Pf} (h : k ∈ K) : SizeOf.sizeOf k < SizeOf.sizeOf (Pf.mk sA sn sc S fA fn fc F b kA kn kc K) := by
  have := List.sizeOf_lt_of_mem h
  simp only [Pf.mk.sizeOf_spec]
  omega
theorem mem_sum {α : Type} (f : α → Nat) : ∀ (K : List α) (k : α), k ∈ K → f k ≤ (K.map f).sum
  | x :: K, k, h => by
    rw [List.map_cons, List.sum_cons]
    rcases List.mem_cons.1 h with rfl | h
    · omega
    · have := mem_sum f K k h
      omega
theorem sum_take {α : Type} (f : α → Nat) {K : List α} {k : Nat} (h : k < K.length) : ((K.map f).take (k + 1)).sum = ((K.map f).take k).sum + f K[k] := by
  rw [List.take_succ_eq_append_getElem (by rw [List.length_map]; exact h), List.sum_append]
  simp
theorem sum_le {α : Type} (f : α → Nat) (K : List α) (k : Nat) : ((K.map f).take k).sum ≤ (K.map f).sum := by
  conv => rhs; rw [← List.take_append_drop k (K.map f), List.sum_append]
  omega
set_option maxRecDepth 100000 in
set_option maxHeartbeats 4000000 in
theorem Size_upto : ∀ (M : Nat) (p : Pf), SizeOf.sizeOf p ≤ M → ∀ (w : World) (N : Nat), p.ok w N → sizeP p.m ≤ 1000000000 → Calls Try.prog 30 #[p.val] w fun e w' => e = .returned (.int .i64 (sizeP p.m : Int)) ∧ Below w.heap.size w w' := by
  intro M
  induction M with
  | zero => intro p hp; cases p; simp only [Pf.mk.sizeOf_spec] at hp; omega
  | succ M ih =>
    intro p hp w N hok hsz
    cases hok with
    | @mk sA sn sc S fA fn fc F b kA kn kc K h1 h2 h3 h4 h5 h7 h6 =>
      rw [Pf.m_eq] at hsz ⊢
      rw [sizeP_eq] at hsz ⊢
      have hSl : S.length = sn := by
        have := h1.1
        rw [flat_len Sp.cells 3 (fun _ => rfl)] at this
        omega
      have hKl := kids_len h5
      rw [List.length_map, List.length_map, List.map_map, hSl, hKl] at hsz ⊢
      obtain ⟨tot, htot⟩ : ∃ t, (K.map (sizeP ∘ Pf.m)).sum = t := ⟨_, rfl⟩
      have HTOT := Lib.hid htot
      rw [htot] at hsz ⊢
      have HIH := Lib.hid (show ∀ k ∈ K, ∀ (W : World), Below w.heap.size w W → Calls Try.prog 30 #[k.val] W fun e w' => e = .returned (.int .i64 (sizeP k.m : Int)) ∧ Below W.heap.size W w' from fun k hk W hW => ih k (by have := pf_lt (sA := sA) (sn := sn) (sc := sc) (S := S) (fA := fA) (fn := fn) (fc := fc) (F := F) (b := b) (kA := kA) (kn := kn) (kc := kc) hk; omega) W N ((h6 k hk).keep hW) (by
        have : sizeP k.m ≤ (K.map (sizeP ∘ Pf.m)).sum := mem_sum (sizeP ∘ Pf.m) K k hk
        omega))
      have HK := Lib.hid h5
      have hkn := h7.2.1
      have hsn := h7.1
      unfold Pf.val Pf.cells
      dsimp only
      obtain ⟨kx, hkx⟩ : ∃ kx, kx = w.heap.size := ⟨_, rfl⟩
      obtain ⟨W1, hW1⟩ : ∃ W1, W1 = w.alloc (.cells #[.slice sA sn sc, .slice fA fn fc, .bool b.neg, .slice b.A b.n b.c, .slice kA kn kc] 52) := ⟨_, rfl⟩
      have HB1 := Lib.hid (show Below w.heap.size w W1 by rw [hW1]; exact (Below.refl _ _).alloc (Nat.le_refl _) _)
      have KX := Lib.hid (show Blk W1 kx 52 #[.slice sA sn sc, .slice fA fn fc, .bool b.neg, .slice b.A b.n b.c, .slice kA kn kc] by rw [hW1]; exact Blk.new_ hkx rfl)
      have c0 : W1.cell? ⟨kx, 0, none⟩ = some (.slice sA sn sc) := KX.out.cell 0
      have c4 : W1.cell? ⟨kx, 4, none⟩ = some (.slice kA kn kc) := KX.out.cell 4
      clear h1 h2 h3 h4 h5 h6 h7 hp ih htot
      have hKl' := hKl
      by_cases hk0 : kn = 0
      · subst hk0
        have htz : tot = 0 := by rw [← HTOT.out, List.eq_nil_of_length_eq_zero hKl']; rfl
        subst htz
        have hk1 : ¬ ((0 : Int) > 0) := by omega
        have HRZ := Lib.hid (show (((sn + (if 0 > 0 then 1 else 0) + 0 : Nat)) : Int) = (sn : Int) by simp)
        rw [HRZ.out]
        go_enter Try.func30, Try.ntmps30
        go_upto_region 1 with fail
        rw [← hkx, ← hW1]
        clear hkx hW1
        go_wp2
        clear c0 c4
        go_loopw [3, 18] (fun s3 s18 wr => s3 = .int .i64 (sn : Int) ∧ s18 = .int .i64 0 ∧ wr = W1) (fun _ _ _ => 0)
        case atStart => exact ⟨rfl, rfl, rfl⟩
        case round =>
          obtain ⟨rfl, rfl, hwr⟩ := hrel
          replace hwr := hwr.symm
          subst hwr
          go_wp2
          go_ret
          exact ⟨rfl, HB1.out⟩
      have hkp : kn > 0 := by omega
      have hkpi : (kn : Int) > 0 := by omega
      rw [if_pos hkp] at hsz ⊢
      have hsn1 : sn ≤ 1000000000 := by omega
      have hwn : IntKind.i64.wrap ((sn : Int) + 1) = (sn : Int) + 1 := IntWalk.i64_in _ (by omega)
      have HRES := Lib.hid (show ((sn + 1 + tot : Nat) : Int) = (sn : Int) + 1 + (tot : Int) by omega)
      rw [HRES.out]
      have hszn : sn + 1 + tot ≤ 1000000000 := hsz
      clear hsz
      go_enter Try.func30, Try.ntmps30
      go_upto_region 1 with fail
      rw [← hkx, ← hW1]
      clear hkx hW1
      go_wp2
      clear c0 c4
      go_loopw [3, 18] (fun s3 s18 wr => ∃ k : Nat, s18 = .int .i64 (k : Int) ∧ s3 = .int .i64 ((sn : Int) + 1 + (((K.map (sizeP ∘ Pf.m)).take k).sum : Nat)) ∧ k ≤ kn ∧ Below w.heap.size w wr) (fun _ s18 _ => kn - (intOf s18).toNat)
      case atStart => exact ⟨0, rfl, by simp, Nat.zero_le _, HB1.out⟩
      case round =>
        obtain ⟨k, rfl, rfl, hkk, hB⟩ := hrel
        have HB := Lib.hid hB
        clear hB
        by_cases hlt : k < kn
        · have hki : (k : Int) < (kn : Int) := by omega
          have hk0' : (0 : Int) ≤ (k : Int) := by omega
          have hkL : k < K.length := by rw [hKl']; exact hlt
          obtain ⟨bA, off, rfl, -, hc⟩ := at5 Pf.cells_len HK.out (show 0 < kn by omega)
          have HST := Lib.hid (sum_take (sizeP ∘ Pf.m) hkL)
          have hle := sum_le (sizeP ∘ Pf.m) K (k + 1)
          rw [HTOT.out, HST.out] at hle
          have HC := Lib.hid (HIH.out K[k] (List.getElem_mem hkL))
          have HCC := Lib.hid (fun x0 x1 x2 x3 x4 => hc wr HB.out k hkL x0 x1 x2 x3 x4)
          clear hc
          generalize K[k] = ch at *
          obtain ⟨tA, tn, tc, T, gA, gn, gc, G, d, lA, ln, lc, L⟩ := ch
          unfold Pf.val Pf.cells at HC
          unfold Pf.cells at HCC
          obtain ⟨e0, e1, e2, e3, e4⟩ := HCC.out _ _ _ _ _ rfl
          obtain ⟨W2, hW2⟩ : ∃ W2, W2 = wr.alloc (.cells #[.slice tA tn tc, .slice gA gn gc, .bool d.neg, .slice d.A d.n d.c, .slice lA ln lc] 52) := ⟨_, rfl⟩
          obtain ⟨ky, hky⟩ : ∃ ky, ky = wr.heap.size := ⟨_, rfl⟩
          have hb2 : Below wr.heap.size wr W2 := by rw [hW2]; exact (Below.refl _ _).alloc (Nat.le_refl _) _
          have HB2 := Lib.hid (HB.out.trans (hb2.mono HB.out.size))
          have KY := Lib.hid (show Blk W2 ky 52 #[.slice tA tn tc, .slice gA gn gc, .bool d.neg, .slice d.A d.n d.c, .slice lA ln lc] by rw [hW2]; exact Blk.new_ hky rfl)
          clear hb2
          go_upto_region 7 with fail
          rw [← hky, ← hW2]
          clear hky hW2 e0 e1 e2 e3 e4
          have e0 : W2.cell? ⟨ky, 0, none⟩ = some (.slice tA tn tc) := KY.out.cell 0
          have e1 : W2.cell? ⟨ky, 1, none⟩ = some (.slice gA gn gc) := KY.out.cell 1
          have e2 : W2.cell? ⟨ky, 2, none⟩ = some (.bool d.neg) := KY.out.cell 2
          have e3 : W2.cell? ⟨ky, 3, none⟩ = some (.slice d.A d.n d.c) := KY.out.cell 3
          have e4 : W2.cell? ⟨ky, 4, none⟩ = some (.slice lA ln lc) := KY.out.cell 4
          go_wp2_with fail
          clear e0 e1 e2 e3 e4
          refine (HC.out W2 HB2.out).mono ?_
          rintro e5 w5 ⟨rfl, hb5⟩
          have HB5 := Lib.hid (HB2.out.trans (hb5.mono HB2.out.size))
          clear hb5
          obtain ⟨sc0, hsc0⟩ : ∃ x, ((K.map (sizeP ∘ Pf.m)).take k).sum = x := ⟨_, rfl⟩
          obtain ⟨sc1, hsc1⟩ : ∃ x, sizeP (Pf.mk tA tn tc T gA gn gc G d lA ln lc L).m = x := ⟨_, rfl⟩
          have HSN := Lib.hid (show ((sn : Int) + 1 + (((K.map (sizeP ∘ Pf.m)).take (k + 1)).sum : Nat)) = (sn : Int) + 1 + (sc0 : Int) + (sc1 : Int) by
            rw [HST.out, hsc0, Function.comp, hsc1]
            omega)
          rw [hsc0, Function.comp, hsc1] at hle
          rw [hsc0, hsc1]
          have hws : IntKind.i64.wrap ((sn : Int) + 1 + (sc0 : Int) + (sc1 : Int)) = (sn : Int) + 1 + (sc0 : Int) + (sc1 : Int) := IntWalk.i64_in _ (by omega)
          clear hsc0 hsc1 hle
          go_wp2
          go_roundw
          case rel => exact ⟨k + 1, by go_num, by rw [HSN.out], hlt, HB5.out⟩
          case measure => simp [intOf]; omega
        · obtain rfl : k = kn := by omega
          have hlt2 : ¬ ((k : Int) < (k : Int)) := by omega
          have HFN := Lib.hid (show ((K.map (sizeP ∘ Pf.m)).take k).sum = tot by rw [List.take_of_length_le (by rw [List.length_map]; omega)]; exact HTOT.out)
          rw [HFN.out]
          go_wp2
          go_ret
          exact ⟨rfl, HB.out⟩
theorem Size_any (p : Pf) (w : World) (N : Nat) (h : p.ok w N) (hs : sizeP p.m ≤ 1000000000) : Calls Try.prog 30 #[p.val] w fun e w' => e = .returned (.int .i64 (sizeP p.m : Int)) ∧ Below w.heap.size w w' := Size_upto _ p (Nat.le_refl _) w N h hs
end Go.Proofs.Ythfolccofjaknaa
