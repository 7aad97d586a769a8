/- The reference of a disk: reading; writing, whatever comes. -/
import Derived.Test.YthdkcmbdbdhedaaRwm
import Derived.Test.YthdkcmbdbdhedaaRwt
namespace Go.Proofs.Ythdkcmbdbdhedaa
open Go.ChangeShapes Go.WideShapes Go.ChangeAt Go.RowKit Go.ChangeMaps

set_option maxRecDepth 100000 in
set_option maxHeartbeats 1000000 in
theorem RRead_ok (F : Nat → Prop) (w : World) (r t : Nat) (s : St) (h : Rk F w r t s) (hFB : ∀ k, F k → k < w.heap.size) (hf : s.f = false) (k : Nat) (hk : k < s.R.length) : Calls Try.prog 32 #[.pointer (some ⟨r, 0, none⟩), .int .i64 (k : Int)] w fun e w' => ∃ A c, e = .returned (.tuple #[.slice A 64 c, .int .i64 0]) ∧ BA F w' A 64 (s.R.getD k []) ∧ Below w.heap.size w w' := by
  obtain ⟨i0, hi, hz0, hz1, hz2⟩ := info_parts Try.info5
  obtain ⟨cap, hcap, c0, c1, c2, c3, c4, fz⟩ := h.cells
  rw [hf] at c1
  obtain ⟨A9, c9, e9, h9, h9', b9, f9⟩ := h.sec k hk
  have hki : (k : Int) < s.R.length := by omega
  have hkk : (0 : Int) ≤ k := by omega
  have hn : s.R.length ≤ 65536 := h.ok.2.2.1
  have hrl : r < w.heap.size := block_lt_of_cell c0
  have htl : t < w.heap.size := block_lt_of_cell e9
  have HFB := Lib.hid hFB
  have HSRC := Lib.hid (src_at (n := 64) (c := c9) (b9.at.below ((Below.refl _ w).alloc (Nat.le_refl _) (.cells #[] 5))))
  have HL := Lib.hid b9.1
  generalize s.R.getD k [] = od at *
  clear h hf fz b9 hFB
  go_enter Try.func32, Try.ntmps32
  go_wp2_with (at_builtin; refine wpList_app rfl (.tmp 21) (.tmp 28) 34 34 rfl w.heap.size _ _ 5 i0 Try.underlying34 hi hz0 hz1 hz2 _ [] rfl (Grows.refl (E := 5) (l := []) (own_empty w) (by simp)) _ 64 od rfl HSRC.out (by simp) ?_; intro v2 w2 G2 z2 k2; obtain ⟨A2, c2', rfl, hb2, hc2, hc3⟩ := own_bytes3 G2.1 HFB.out)
  have HB2 := Lib.hid (((Below.refl w.heap.size w).alloc (Nat.le_refl _) (.cells #[] 5)).trans (G2.below_of (own_empty w) (by simp)))
  simp only [List.nil_append, HL.out] at hb2
  go_ret2
  exact ⟨A2, c2', by simp [HL.out], hb2, HB2.out⟩
theorem RRead_bad (F : Nat → Prop) (w : World) (r t : Nat) (s : St) (h : Rk F w r t s) (i : Int) (c : Int) (hc : (s.f = true ∧ c = 15) ∨ (s.f = false ∧ ¬ (0 ≤ i ∧ i < s.R.length) ∧ c = 1)) : Calls Try.prog 32 #[.pointer (some ⟨r, 0, none⟩), .int .i64 i] w fun e w' => e = .returned (.tuple #[.slice none 0 0, .int .i64 c]) ∧ w = w' := by
  obtain ⟨cap, hcap, c0, c1, c2, c3, c4, fz⟩ := h.cells
  have hR : s.R.length ≤ 65536 := h.ok.2.2.1
  rcases hc with ⟨hf, rfl⟩ | ⟨hf, hi, rfl⟩
  · rw [hf] at c1
    clear hf fz h
    go_enter Try.func32, Try.ntmps32
    go_wp2
    go_ret2
    exact ⟨rfl, rfl⟩
  · rw [hf] at c1
    clear hf fz h
    generalize s.R.length = m at *
    by_cases h0 : i < 0
    · clear hi
      go_enter Try.func32, Try.ntmps32
      go_wp2
      go_ret2
      exact ⟨rfl, rfl⟩
    · have h1 : (m : Int) ≤ i := by omega
      clear hi
      go_enter Try.func32, Try.ntmps32
      go_wp2
      go_ret2
      exact ⟨rfl, rfl⟩
theorem RWrite_any (F : Nat → Prop) (w : World) (r t : Nat) (s : St) (h : Rk F w r t s) (hr : F r) (ht : F t) (hFB : ∀ k, F k → k < w.heap.size) (hx : s.x < 1000000000) (i : Int) (A : Option Addr) (n c : Nat) (d : List UInt8) (hd : BA F w A n d) (hc : n ≤ c) :
    Calls Try.prog 31 #[.pointer (some ⟨r, 0, none⟩), .int .i64 i, .slice A n c] w fun e w' => e = .returned (.int .i64 (s.Wr i d).2) ∧ Rk F w' r t (s.Wr i d).1 ∧ Chg (PQ r t) w w' := by
  cases hf : s.f
  · by_cases hi : 0 ≤ i ∧ i < s.R.length ∧ n = 64
    · obtain ⟨h1, h2, rfl⟩ := hi
      obtain ⟨k, rfl⟩ : ∃ k : Nat, i = (k : Int) := ⟨i.toNat, by omega⟩
      have hk : k < s.R.length := by omega
      by_cases ha : s.a = 1
      · have e : s.Wr k d = ({ s with R := s.R.set k (d.take s.b ++ (s.R.getD k []).drop s.b), f := true, a := 0 }, 15) := by
          unfold St.Wr
          rw [hf, if_neg (by decide), if_pos ⟨h1, h2, hd.1⟩]
          unfold St.wr
          rw [if_pos ha, Int.toNat_natCast]
        rw [e]
        exact RWrite_torn F w r t s h hr ht hFB hf ha k hk A c d hd hc
      · have e : s.Wr k d = ({ s with R := s.R.set k d, a := s.a - 1, x := s.x + 1 }, 0) := by
          unfold St.Wr
          rw [hf, if_neg (by decide), if_pos ⟨h1, h2, hd.1⟩]
          unfold St.wr
          rw [if_neg ha, Int.toNat_natCast]
          rw [hf]
        rw [e]
        rcases Nat.eq_zero_or_pos s.a with h0 | h0
        · exact RWrite_zero F w r t s h hr ht hFB hf h0 hx k hk A c d hd hc
        · exact RWrite_more F w r t s h hr ht hFB hf (by omega) hx k hk A c d hd hc
    · have e : s.Wr i d = (s, 1) := by
        unfold St.Wr
        rw [hf, if_neg (by decide), if_neg (by rw [hd.1]; exact hi)]
      rw [e]
      refine (RWrite_bad F w r t s h hf i A n c (by omega)).mono ?_
      rintro e' w' ⟨h1, rfl⟩
      exact ⟨h1, h, Chg.refl _ _⟩
  · have e : s.Wr i d = (s, 15) := by unfold St.Wr; rw [hf]; rfl
    rw [e]
    refine (RWrite_fail F w r t s h hf i _).mono ?_
    rintro e' w' ⟨h1, rfl⟩
    exact ⟨h1, h, Chg.refl _ _⟩
end Go.Proofs.Ythdkcmbdbdhedaa
