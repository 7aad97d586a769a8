/- A damaged version: the plain mathematics. -/
import Derived.Test.YthhpilkhcomhbaaDoorLmt
namespace Go.Proofs.YthhpilkhcomhbaaDoor
open Go.ChangeShapes Go.WideShapes Go.ChangeAt Go.RowKit Go.ChangeMaps

theorem xor_u8 (x : UInt8) (Y : Nat) (hY : Y < 256) : bits BinOp.xor IntKind.u8 (x.toNat : Int) (Y : Int) = ((x ^^^ UInt8.ofNat Y).toNat : Int) := by
  have hx := x.toNat_lt
  have h1 : (BitVec.ofInt 8 (x.toNat : Int)).toNat = x.toNat := by rw [BitVec.ofInt_natCast, BitVec.toNat_ofNat]; exact Nat.mod_eq_of_lt (by omega)
  have h2 : (BitVec.ofInt 8 (Y : Int)).toNat = Y := by rw [BitVec.ofInt_natCast, BitVec.toNat_ofNat]; exact Nat.mod_eq_of_lt (by omega)
  show IntKind.u8.wrap ((BitVec.ofInt 8 (x.toNat : Int) ^^^ BitVec.ofInt 8 (Y : Int)).toNat : Int) = _
  rw [BitVec.toNat_xor, h1, h2, UInt8.toNat_xor, UInt8.toNat_ofNat', Nat.mod_eq_of_lt (by omega : Y < 2 ^ 8)]
  have h3 : x.toNat ^^^ Y < 2 ^ 8 := Nat.xor_lt_two_pow (by omega) (by omega)
  rw [IntKind.wrap_u8]
  omega
theorem dam_facts {S E n i : Nat} {l : List UInt8} {s : St} {y : UInt8} (h : Has s E l) (hE : E ≠ 0) (hs : slotOf s = 1) (hR : s.R.length = S) (h64 : ∀ r ∈ s.R, r.length = 64) (hl : l.length = n) (hi : i < n) (hy : y ≠ 0) :
    ∃ (k : Nat) (sec : List UInt8) (x : UInt8), k = 3 + areaOf S + i / 64 ∧ k < S ∧ s.R.getD k [] = sec ∧ sec.length = 64 ∧ sec[i % 64]? = some x ∧
      ∀ t : St, t.f = false → t.R = s.R.set k (sec.set (i % 64) (x ^^^ y)) → SR t = ([], 0, 17) := by
  obtain ⟨g1, g2, g3, g4⟩ := h.rest hE
  have hn := h.n
  have hfit : 3 + 1 * areaOf s.R.length + areaOf s.R.length ≤ s.R.length := area_fit (o := 1) hn (by omega)
  have hna := nch_area g3
  have hb : baseOf s (slotOf s) = 3 + areaOf S := by unfold baseOf; rw [hs, hR, Nat.one_mul]
  have hkn : i / 64 < nch l.length := by unfold nch; omega
  rw [hR] at hfit hna
  have hk : 3 + areaOf S + i / 64 < S := by omega
  have hsl : (s.R.getD (3 + areaOf S + i / 64) []).length = 64 := getD_len64 h64 (by omega)
  have hx := rall_get (s := s) (base := 3 + areaOf S) (len := l.length) h64 (by omega) (t := i) (by omega)
  rw [hb] at g4
  rw [g4, List.getElem?_eq_getElem (by omega : i < l.length)] at hx
  refine ⟨_, _, l[i]'(by omega), rfl, hk, rfl, hsl, hx.symm, fun t hf ht => ?_⟩
  refine has_damage (i := i) (y := y) h hE hf h64 (by omega) hy ?_
  rw [hb]
  exact ht
theorem u16_bd {n : Int} (h : (Lit.int .u16 n).wf = true) : 0 ≤ n ∧ n ≤ 65535 := by
  have h1 : IntKind.u16.min = 0 := rfl
  have h2 : IntKind.u16.max = 65535 := rfl
  simp only [Lit.wf, Bool.and_eq_true, decide_eq_true_eq, h1, h2] at h
  exact h
/-- A disk that holds the version k. -/
structure Ho (s : St) (S k : Nat) (d : List UInt8) : Prop where
  h : Has s k d
  f : s.f = false
  R : s.R.length = S
  r64 : ∀ x ∈ s.R, x.length = 64
  b : s.b ≤ 64
theorem Ho.new {S : Nat} (h7 : 7 ≤ S) (h : S ≤ 60) (d : List UInt8) : Ho (St.new S) S 0 d :=
  ⟨has_new S h7 d, rfl, new_len S, (St.new_ok (by omega)).1, by simp [St.new]⟩
theorem Ho.write {s : St} {S k n : Nat} {d0 d : List UInt8} (h : Ho s S k d0) (hd : d.length = n) (hn : n ≤ 64 * areaOf S) (hn6 : n ≤ 600) (hk : k ≤ 100) :
    (SW s (k + 1) d).1.x ≤ s.x + 12 ∧ (((SW s (k + 1) d).2 = 0 ∧ Ho (SW s (k + 1) d).1 S (k + 1) d ∧ (s.a = 0 → (SW s (k + 1) d).1.a = 0)) ∨
      ((SW s (k + 1) d).2 = 15 ∧ s.a ≠ 0 ∧ (Ho (SW s (k + 1) d).1.Re S k d0 ∨ Ho (SW s (k + 1) d).1.Re S (k + 1) d))) := by
  obtain ⟨a1, a2, a3, a4, a5⟩ := has_write (e := k + 1) (d := d) h.h h.f h.r64 h.b (by omega) (by omega) (by rw [h.R]; omega) (by omega)
  have hx : nch d.length ≤ 10 := by unfold nch; omega
  have hR := a1.trans h.R
  have hb : (SW s (k + 1) d).1.b ≤ 64 := by rw [a3]; exact h.b
  refine ⟨by omega, ?_⟩
  rcases a5 with a5 | a5
  · exact .inl ⟨a5.1, ⟨a5.2.2.1, a5.2.1, hR, a2, hb⟩, a5.2.2.2.2.1⟩
  · refine .inr ⟨a5.1, a5.2.2.1, ?_⟩
    rcases a5.2.2.2 with b | b
    · exact .inl ⟨has_R b rfl, rfl, hR, a2, hb⟩
    · exact .inr ⟨has_R b rfl, rfl, hR, a2, hb⟩
end Go.Proofs.YthhpilkhcomhbaaDoor
