/- An integer made of a sign and digits. -/
import Derived.Test.YtndkcimdbidgaaaDoorBtr
namespace Go.Proofs.YtndkcimdbidgaaaDoor
open Go.ChangeShapes Go.WideShapes Go.ChangeAt Go.RowKit Go.ChangeMaps

/-- A normal integer in a value: its sign, its digits and where they lie. -/
def NB (w : World) (base : Nat) (v : Value) (z : Int) (N : Nat) : Prop := ∃ A n c D, v = .agg #[.bool (decide (z < 0)), .slice A n c] ∧ Own w base A n D ∧ Sl A n c ∧ nmz D ∧ dv 4294967296 D = z.natAbs ∧ n ≤ N
theorem Own.row {w : World} {base g : Nat} {A : Option Addr} {n : Nat} {D : List Nat} {cs : Array Value} (h : Own w base A n D) (hk : Blk w g 24 cs) (ds : Array Value) : Own (w.setRow g ds) base A n D :=
  ⟨h.1, h.2.1, fun hn => by
    obtain ⟨g2, off, cs2, e, hg, hb, hc⟩ := h.2.2 hn
    refine ⟨g2, off, cs2, e, hg, ((grown_row w g ds).block _ hb.lt ?_).trans hb, hc⟩
    intro e
    injection e with e
    subst e
    have := hb.symm.trans hk
    injection this with this
    injection this with _ e2
    exact absurd e2 (by decide)⟩
theorem NB.row {w : World} {base g N : Nat} {v : Value} {z : Int} {cs : Array Value} (h : NB w base v z N) (hk : Blk w g 24 cs) (ds : Array Value) : NB (w.setRow g ds) base v z N :=
  let ⟨A, n, c, D, e, ho, hs, hn, hv, hN⟩ := h; ⟨A, n, c, D, e, ho.row hk ds, hs, hn, hv, hN⟩
theorem NB.below {w w' : World} {base N : Nat} {v : Value} {z : Int} (h : NB w base v z N) (hb : Below w.heap.size w w') : NB w' base v z N :=
  let ⟨A, n, c, D, e, ho, hs, hn, hv, hN⟩ := h; ⟨A, n, c, D, e, ho.below hb, hs, hn, hv, hN⟩
theorem NB.mono {w : World} {base b2 N N2 : Nat} {v : Value} {z : Int} (h : NB w base v z N) (hb : b2 ≤ base) (hN2 : N ≤ N2) : NB w b2 v z N2 :=
  let ⟨A, n, c, D, e, ho, hs, hn, hv, hN⟩ := h; ⟨A, n, c, D, e, ho.mono hb, hs, hn, hv, Nat.le_trans hN hN2⟩
def sgn (neg : Bool) (m : Nat) : Int := if neg = true then -(m : Int) else (m : Int)
/-- An integer in a value: any representation that can be read. -/
def BG (w : World) (v : Value) (z : Int) (N : Nat) : Prop := ∃ neg A n c D, v = .agg #[.bool neg, .slice A n c] ∧ DG w A n D ∧ Sl A n c ∧ n ≤ N ∧ z = sgn neg (dv 4294967296 D)
theorem BG.below {w w' : World} {N : Nat} {v : Value} {z : Int} (h : BG w v z N) (hb : Below w.heap.size w w') : BG w' v z N :=
  let ⟨neg, A, n, c, D, e, ho, hs, hn, hz⟩ := h; ⟨neg, A, n, c, D, e, ho.below hb, hs, hn, hz⟩
theorem sgn_abs (neg : Bool) (m : Nat) : (sgn neg m).natAbs = m := by cases neg <;> simp [sgn]
theorem sgn_neg {neg : Bool} {m : Nat} (h : m ≠ 0) : decide (sgn neg m < 0) = neg := by cases neg <;> simp [sgn] <;> omega
theorem sgn_zero (neg : Bool) : sgn neg 0 = 0 := by cases neg <;> rfl
theorem NB.bg {w : World} {base N : Nat} {v : Value} {z : Int} (h : NB w base v z N) : BG w v z N := by
  obtain ⟨A, n, c, D, e, ho, hs, hn, hv, hN⟩ := h
  refine ⟨_, A, n, c, D, e, ho.dg, hs, hN, ?_⟩
  rw [hv]
  unfold sgn
  by_cases h : z < 0
  · rw [decide_eq_true h, if_pos rfl]; omega
  · rw [decide_eq_false h, if_neg (by decide)]; omega
set_option maxRecDepth 100000 in
set_option maxHeartbeats 4000000 in
theorem signed_any (neg : Bool) (A : Option Addr) (n c : Nat) (D : List Nat) (base : Nat) (w : World) (h : Own w base A n D) (hs : Sl A n c) :
    Calls Tryd.prog 48 #[.bool neg, .slice A n c] w fun e w' => ∃ v, e = .returned v ∧ NB w' base v (sgn neg (dv 4294967296 D)) n ∧ Below w.heap.size w w' := by
  have HO := Lib.hid h
  have HS := Lib.hid hs
  obtain ⟨W0, hW0⟩ : ∃ W, W = w.alloc (.cells #[.bool false, .slice none 0 0] 24) := ⟨_, rfl⟩
  have HB := Lib.hid (show Below w.heap.size w W0 by rw [hW0]; exact (Below.refl _ w).alloc (Nat.le_refl _) _)
  have HK := Lib.hid (show Blk W0 w.heap.size 24 #[.bool false, .slice none 0 0] by rw [hW0]; exact Blk.new _ _ _)
  have CT := Lib.hid (trim_any A n c D W0 (h.dg.below HB.out) hs)
  clear h hs
  go_enter Tryd.func48, Tryd.ntmps48
  go_wp2_with fail
  rw [← hW0]
  clear hW0
  refine CT.out.mono ?_
  rintro e w1 ⟨k, rfl, ht, rfl⟩
  have HT := Lib.hid ht
  have HOk := Lib.hid ((HO.out.below HB.out).take (show k ≤ n by have := ht.1; rw [HO.out.1] at this; exact this))
  have HSk := Lib.hid (HS.out.take (show k ≤ n by have := ht.1; rw [HO.out.1] at this; exact this))
  clear ht
  by_cases h0 : k = 0
  · subst h0
    have hd0 : dv 4294967296 D = 0 := by rw [← HT.out.dv]; rfl
    go_wp2_with ((refine wpList_store_row (o := ⟨none, _, _, _, _, _⟩) rfl 24 _ _ rfl (w.heap.size) #[.bool false, .slice none 0 0] rfl rfl 24 _ HK.out (by kernel_rfl) rfl (by simp [Value.oneCell']) ?_))
    have gr := grown_row w1 w.heap.size #[.bool false, .slice none 0 0]
    refine bodyPost_ret (results_c1 rfl _ _ _ (w.heap.size) _ rfl (load24 (HK.out.setRow (ds := #[.bool false, .slice none 0 0])) rfl)) rfl ?_
    exact ⟨_, rfl, ⟨none, 0, 0, [], by rw [hd0, sgn_zero]; rfl, Own.empty _ _ _, Sl.nil, nmz_nil, by rw [hd0, sgn_zero]; rfl, Nat.zero_le _⟩, HB.out.grown gr HB.out.size (fun j hj => by first | (injection hj with hj; omega) | omega | (cases hj; exact Nat.le_refl _))⟩
  · have hk0 : ((k : Int) == 0) = false := by simp; omega
    have hnz : dv 4294967296 D ≠ 0 := by
      have h1 := nmz_zero (B := 4294967296) (by decide) (D.take k) HT.out.nmz
      rw [HT.out.dv] at h1
      intro e
      have := congrArg List.length (h1.1 e)
      rw [HOk.out.1] at this
      simp at this
      omega
    have HKB := Lib.hid (show ∀ (ds : Array Value) (g : Nat) (cs : Array Value), Blk w1 g 47 cs → Blk (w1.setRow w.heap.size ds) g 47 cs from fun ds g cs hb => by
      refine ((grown_row w1 w.heap.size ds).block _ hb.lt ?_).trans hb
      intro e
      injection e with e
      subst e
      have := hb.symm.trans HK.out
      injection this with this
      injection this with _ e2
      exact absurd e2 (by decide))
    go_wp2_with ((refine wpList_store_row (o := ⟨none, _, _, _, _, _⟩) rfl 24 _ _ rfl (w.heap.size) #[.bool neg, .slice A k c] rfl rfl 24 _ HK.out (by kernel_rfl) rfl (by simp [Value.oneCell']) ?_))
    have gr := grown_row w1 w.heap.size #[.bool neg, .slice A k c]
    refine bodyPost_ret (results_c1 rfl _ _ _ (w.heap.size) _ rfl (load24 (HK.out.setRow (ds := #[.bool neg, .slice A k c])) rfl)) rfl ?_
    refine ⟨_, rfl, ⟨A, k, c, D.take k, by rw [sgn_neg hnz], ⟨HOk.out.1, HOk.out.2.1, fun hk => ?_⟩, HSk.out, HT.out.nmz, by rw [HT.out.dv, sgn_abs], by have := HT.out.1; rw [HO.out.1] at this; exact this⟩, HB.out.grown gr HB.out.size (fun j hj => by first | (injection hj with hj; omega) | omega | (cases hj; exact Nat.le_refl _))⟩
    obtain ⟨g, off, cs, e, hg, hb, hc⟩ := HOk.out.2.2 hk
    exact ⟨g, off, cs, e, hg, HKB.out _ _ _ hb, hc⟩
end Go.Proofs.YtndkcimdbidgaaaDoor
