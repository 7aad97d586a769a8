/- Division of digits: the contract, and the two easy cases. -/
import Derived.Test.YthfolccofjaknaaMB
import Derived.Test.YthfolccofjaknaaBdd
namespace Go.Proofs.Ythfolccofjaknaa
open Go.ChangeShapes Go.WideShapes Go.ChangeAt Go.RowKit Go.ChangeMaps

/-- What a division of digits gives. -/
def DivPost (w : World) (D E : List Nat) (N : Nat) (e : Ending) (w' : World) : Prop := ∃ A n c Q B m d R, e = .returned (.tuple #[.slice A n c, .slice B m d]) ∧ Own w' w.heap.size A n Q ∧ Sl A n c ∧ Own w' w.heap.size B m R ∧ Sl B m d ∧ n ≤ N ∧ m ≤ N ∧ dv 4294967296 D = dv 4294967296 Q * dv 4294967296 E + dv 4294967296 R ∧ dv 4294967296 R < dv 4294967296 E ∧ Below w.heap.size w w'
/-- Division works for divisors below a bound. -/
def DivOn (X : Nat) : Prop := ∀ (A : Option Addr) (n c : Nat) (D : List Nat) (A2 : Option Addr) (m c2 : Nat) (E : List Nat) (w : World), DG w A n D → DG w A2 m E → nmz D → nmz E → n ≤ 50000 → m ≤ 50000 → 0 < dv 4294967296 E → dv 4294967296 E < X →
  Calls Try.prog 82 #[.slice A n c, .slice A2 m c2] w (DivPost w D E (max n m))
theorem scmp_lt {x y : Nat} (h : x < y) : scmp x y = -1 := by unfold scmp; rw [if_pos h]
theorem scmp_ge {x y : Nat} (h : ¬ x < y) : ¬ scmp x y < 0 := by unfold scmp; rw [if_neg h]; split <;> omega
set_option maxRecDepth 100000 in
set_option maxHeartbeats 4000000 in
theorem div_lt (A : Option Addr) (n c : Nat) (D : List Nat) (A2 : Option Addr) (m c2 : Nat) (E : List Nat) (w : World) (h : DG w A n D) (h2 : DG w A2 m E) (n1 : nmz D) (n2 : nmz E) (hn : n ≤ 50000) (_hm : m ≤ 50000) (hlt : dv 4294967296 D < dv 4294967296 E) :
    Calls Try.prog 82 #[.slice A n c, .slice A2 m c2] w (DivPost w D E (max n m)) := by
  obtain ⟨i0, hi, hz0, hz1, hz2⟩ := info_parts (show (Try.prog.info? 86).map (fun i => (i.zero, i.size, i.bytes)) = some (some (.int .u32 0), 1, 4) by kernel_rfl)
  have CC := Lib.hid (compare_any A n c D A2 m c2 E w h h2 (by omega) (.inr ⟨n1, n2⟩))
  rw [scmp_lt hlt] at CC
  have HDG := Lib.hid h
  have HLT := Lib.hid hlt
  clear h h2 n1 n2 hlt
  go_enter Try.func82, Try.ntmps82
  go_wp2_with fail
  refine CC.out.mono ?_
  rintro e w1 ⟨rfl, hb⟩
  have HB := Lib.hid hb
  have HS := Lib.hid (src_dg (c := c) (HDG.out.below hb))
  clear hb
  go_wp2_with (at_builtin; go_loud (refine wpList_append_src _ rfl _ _ 35 35 rfl w1.heap.size 86 i0 _ 1 4 Try.underlying35 hi hz0 hz1 hz2 rfl (.slice none 0 0) 0 [] rfl (World.ownsRow_nil _ _ _ _) _ n (dcl D) rfl HS.out (by unfold maxLen; omega) (by omega) (Nat.le_refl _) ?_))
  intro v1 y1 ho hg hm'
  have hc : Below w1.heap.size w1 y1 := (Below.refl _ _).grown hg (Nat.le_refl _) (fun k hk => by simp [Value.ownBlock] at hk)
  have HB2 := Lib.hid (HB.out.trans (hc.mono HB.out.size))
  obtain ⟨A1, c1, rfl, HO1, HS1⟩ := own_row ho HDG.out.2.1
  replace HO1 := Lib.hid (HO1.mono HB.out.size)
  replace HS1 := Lib.hid HS1
  clear ho hg hm' hc
  go_wp2
  go_ret2
  exact ⟨none, 0, 0, [], A1, n, c1, D, rfl, Own.empty _ _ _, Sl.nil, HO1.out, HS1.out, Nat.zero_le _, by omega, by simp [dv], HLT.out, HB2.out⟩
set_option maxRecDepth 100000 in
set_option maxHeartbeats 4000000 in
theorem div_one (A : Option Addr) (n c : Nat) (D : List Nat) (A2 : Option Addr) (c2 : Nat) (b : Nat) (w : World) (h : DG w A n D) (h2 : DG w A2 1 [b]) (n1 : nmz D) (n2 : nmz [b]) (hn : n ≤ 50000) (hle : ¬ dv 4294967296 D < dv 4294967296 [b]) (hb0 : 0 < b) :
    Calls Try.prog 82 #[.slice A n c, .slice A2 1 c2] w (DivPost w D [b] (max n 1)) := by
  have hbB : b < 4294967296 := dok_at h2.2.1 (show [b][0]? = some b from rfl)
  have CC := Lib.hid (compare_any A n c D A2 1 c2 [b] w h h2 (by omega) (.inr ⟨n1, n2⟩))
  have hge := scmp_ge hle
  obtain ⟨sc, hsc⟩ : ∃ q, scmp (dv 4294967296 D) (dv 4294967296 [b]) = q := ⟨_, rfl⟩
  rw [hsc] at CC hge
  have CD := Lib.hid (fun W (hW : Below w.heap.size w W) => divDigit_any A n c D b W (h.below hW) (by omega) hb0 hbB)
  have HD := Lib.hid (show 0 < n from by
    have h1 := h.1
    rcases Nat.eq_zero_or_pos n with e | e
    · subst e
      have e2 : D = [] := List.eq_nil_of_length_eq_zero h1
      subst e2
      exfalso
      apply hle
      simp [dv]
      omega
    · exact e)
  obtain ⟨b2, off2, rfl, hbl2, hc2⟩ := h2.at (by omega)
  have HC2 := Lib.hid hc2
  clear h h2 n1 n2 hle hsc hc2
  go_enter Try.func82, Try.ntmps82
  go_wp2_with fail
  refine CC.out.mono ?_
  rintro e w1 ⟨rfl, hb⟩
  have HB := Lib.hid hb
  have c0 := HC2.out w1 hb 0 b rfl
  rw [Nat.add_zero] at c0
  clear hb
  go_wp2_with fail
  refine (CD.out w1 HB.out).mono ?_
  rintro e w2 ⟨g, Q, r, rfl, hk, hg, hd, hv, hr, hl, hb⟩
  have HB2 := Lib.hid (HB.out.trans (hb.mono HB.out.size))
  have HK := Lib.hid hk
  have HG := Lib.hid (show w.heap.size ≤ g from Nat.le_trans HB.out.size hg)
  have HV := Lib.hid hv
  have HR := Lib.hid hr
  have HQ := Lib.hid hd
  have HL := Lib.hid hl
  clear hk hg hv hr hd hl hb c0 hge
  go_wp2
  go_ret2
  have hb3 := (Below.refl w2.heap.size w2).alloc (Nat.le_refl _) (.cells #[.int .u32 (r : Int)] 86)
  refine ⟨some ⟨g, 0, none⟩, n, n, Q, some ⟨w2.heap.size, 0, none⟩, 1, 1, [r], ?_, ?_, Sl.own (Nat.le_refl _) (by omega), ?_, Sl.own (Nat.le_refl _) (by omega), by omega, by omega, ?_, ?_, HB2.out.alloc HB2.out.size _⟩
  · rw [HL.out]; rfl
  · have h1 := (Own.of_blk HK.out HG.out HQ.out).below hb3
    rw [HL.out] at h1
    exact h1
  · exact Own.of_blk (D := [r]) (show Blk _ _ 86 (dc [r]) from Blk.new_ rfl rfl) HB2.out.size (by intro d hd; simp at hd; have := HR.out; omega)
  · simp only [dv, Nat.mul_zero, Nat.add_zero]; exact HV.out
  · simp only [dv, Nat.mul_zero, Nat.add_zero]; exact HR.out
theorem div_small : DivOn 4294967296 := by
  intro A n c D A2 m c2 E w h h2 n1 n2 hn hm h0 hX
  by_cases hlt : dv 4294967296 D < dv 4294967296 E
  · exact div_lt A n c D A2 m c2 E w h h2 n1 n2 hn hm hlt
  · match E, h2, n2, h0, hX, hlt with
    | [], h2, n2, h0, hX, hlt => exact absurd h0 (by simp [dv])
    | [b], h2, n2, h0, hX, hlt =>
      obtain rfl : m = 1 := h2.1.symm
      exact div_one A n c D A2 c2 b w h h2 n1 n2 hn hlt (by simpa [dv] using h0)
    | b :: b2 :: E, h2, n2, h0, hX, hlt =>
      exfalso
      have := nmz_low (B := 4294967296) (by decide) (b :: b2 :: E) n2 (by simp)
      simp only [List.length_cons] at this
      have h3 : 4294967296 ^ 1 ≤ 4294967296 ^ (E.length + 1 + 1 - 1) := Nat.pow_le_pow_right (by decide) (by omega)
      omega
end Go.Proofs.Ythfolccofjaknaa
