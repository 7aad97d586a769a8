/- Facts for the greatest common divisor. -/
import Derived.Test.YtndkcimdbidgaaaDoorBdf
namespace Go.Proofs.YtndkcimdbidgaaaDoor
open Go.ChangeShapes Go.WideShapes Go.ChangeAt Go.RowKit Go.ChangeMaps

theorem nb_inj {w : World} {b1 b2 N1 N2 : Nat} {v : Value} {x y : Nat} (h1 : NB w b1 v (x : Int) N1) (h2 : NB w b2 v (y : Int) N2) : x = y := by
  obtain ⟨A, n, c, D, e, ho, hs, hn, hv, hN⟩ := h1
  obtain ⟨A2, n2, c2, D2, e2, ho2, hs2, hn2, hv2, hN2⟩ := h2
  subst e
  injection e2 with e2
  injection e2 with e2
  injection e2 with _ e2
  injection e2 with e2 _
  injection e2 with eA en ec
  subst eA
  subst en
  have hD : D = D2 := by
    apply List.ext_getElem (by rw [ho.1, ho2.1])
    intro i h1 h2
    obtain ⟨g, off, cs, eA, _, hb, hc⟩ := ho.2.2 (by have := ho.1; omega)
    obtain ⟨g2, off2, cs2, eA2, _, hb2, hc2⟩ := ho2.2.2 (by have := ho.1; omega)
    subst eA
    injection eA2 with eA2
    injection eA2 with e1 e2 _
    subst e1
    subst e2
    have := hb.symm.trans hb2
    injection this with this
    injection this with this _
    subst this
    have := (hc i _ (List.getElem?_eq_getElem h1)).symm.trans (hc2 i _ (List.getElem?_eq_getElem h2))
    injection this with this
    injection this with _ this
    omega
  subst hD
  simp at hv hv2
  omega
theorem ok_inj {α : Type} {a b : α} {w w' : World} (h : (Result.ok a w : Result α) = .ok b w') : a = b := by cases h; rfl
/-- The number whose digits an integer in block 'g' holds. -/
noncomputable def inBlk (g : Nat) (W : World) : Nat := open Classical in
  if h : ∃ y : Nat, ∃ v b N, (loadVar 24 ⟨g, 0, none⟩).run Tryd.prog W = .ok v W ∧ NB W b v (y : Int) N then Classical.choose h else 0
theorem inBlk_eq {g : Nat} {W : World} {b N y : Nat} {cs : Array Value} (hk : Blk W g 24 cs) (hs : cs.size = 2) (h : NB W b (.agg cs) (y : Int) N) : inBlk g W = y := by
  have hex : ∃ y : Nat, ∃ v b N, (loadVar 24 ⟨g, 0, none⟩).run Tryd.prog W = .ok v W ∧ NB W b v (y : Int) N := ⟨y, _, b, N, load24 hk hs, h⟩
  unfold inBlk
  rw [dif_pos hex]
  obtain ⟨v, b', N', hl, hn⟩ := Classical.choose_spec hex
  have e := hl.symm.trans (load24 hk hs)
  have e := ok_inj e
  rw [e] at hn
  exact nb_inj hn h
theorem NB.small {w : World} {base N K : Nat} {v : Value} {z : Int} (h : NB w base v z N) (hz : z.natAbs < 4294967296 ^ K) : NB w base v z K := by
  obtain ⟨A, n, c, D, e, ho, hs, hn, hv, hN⟩ := h
  refine ⟨A, n, c, D, e, ho, hs, hn, hv, ?_⟩
  rcases Nat.eq_zero_or_pos n with e0 | e0
  · omega
  · have h1 := nmz_low (B := 4294967296) (by decide) D hn (by rw [ho.1]; exact e0)
    rw [hv, ho.1] at h1
    have h2 : (4294967296 : Nat) ^ (n - 1) < 4294967296 ^ K := Nat.lt_of_le_of_lt h1 hz
    have := (Nat.pow_lt_pow_iff_right (by decide : 1 < 4294967296)).1 h2
    omega
theorem NB.lt {w : World} {base N : Nat} {v : Value} {z : Int} (h : NB w base v z N) : z.natAbs < 4294967296 ^ N := by
  obtain ⟨A, n, c, D, e, ho, hs, hn, hv, hN⟩ := h
  have h1 := dv_lt (B := 4294967296) (by decide) D ho.2.1
  rw [hv, ho.1] at h1
  exact Nat.lt_of_lt_of_le h1 (Nat.pow_le_pow_right (by decide) hN)
theorem NB.pos {w : World} {base N n c : Nat} {A : Option Addr} {s : Bool} {z : Int} (h : NB w base (.agg #[.bool s, .slice A n c]) z N) : NB w base (.agg #[.bool false, .slice A n c]) (z.natAbs : Int) N := by
  obtain ⟨A, n, c, D, e, ho, hs, hn, hv, hN⟩ := h
  injection e with e
  injection e with e
  injection e with _ e
  injection e with e _
  injection e with eA en ec
  subst eA
  subst en
  subst ec
  exact ⟨_, _, _, D, by rw [decide_eq_false (by omega)], ho, hs, hn, by rw [hv]; simp, hN⟩
theorem NB.len {w : World} {base N n c : Nat} {A : Option Addr} {s : Bool} {z : Int} (h : NB w base (.agg #[.bool s, .slice A n c]) z N) : (n : Int) > 0 ↔ z ≠ 0 := by
  obtain ⟨A, n, c, D, e, ho, hs, hn, hv, hN⟩ := h
  injection e with e
  injection e with e
  injection e with _ e
  injection e with e _
  injection e with eA en ec
  subst en
  have h1 := nmz_zero (B := 4294967296) (by decide) D hn
  rw [hv] at h1
  have h2 := ho.1
  constructor
  · intro h e
    have := congrArg List.length (h1.1 (by omega))
    rw [List.length_nil] at this
    omega
  · intro h
    rcases Nat.eq_zero_or_pos (D.length) with e | e
    · exact absurd (h1.2 (List.eq_nil_of_length_eq_zero e)) (by omega)
    · omega
theorem qr_gcd {x y : Nat} {q r : Int} (h : QR (x : Int) (y : Int) q r) (hy : 0 < y) : ∃ k : Nat, r = (k : Int) ∧ k < y ∧ Nat.gcd y k = Nat.gcd x y := by
  obtain ⟨he, ⟨h0, h1⟩ | ⟨h0, h1⟩⟩ := h
  · obtain ⟨k, rfl⟩ : ∃ k : Nat, r = (k : Int) := ⟨r.toNat, by omega⟩
    refine ⟨k, rfl, by omega, ?_⟩
    have hm : x % y = k := by
      have : (x : Int) % (y : Int) = (k : Int) := by
        rw [he, Int.add_comm, Int.add_mul_emod_self_right]
        exact Int.emod_eq_of_lt h0 h1
      omega
    rw [Nat.gcd_comm x y, Nat.gcd_rec y x, hm, Nat.gcd_comm]
  · omega
end Go.Proofs.YtndkcimdbidgaaaDoor
