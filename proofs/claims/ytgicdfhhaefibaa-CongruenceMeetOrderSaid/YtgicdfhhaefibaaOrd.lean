/- Meet is commutative, and associative as long as no error occurs: the mathematics. -/
import Derived.Test.YtgicdfhhaefibaaMea
namespace Go.Proofs.Ytgicdfhhaefibaa
open Go.RowKit
/-- Two numbers from 0 to l - 1 that are equal modulo l are equal. -/
theorem same_res (x y l : Int) (x0 : 0 ≤ x) (x1 : x < l) (y0 : 0 ≤ y) (y1 : y < l) (h : l ∣ x - y) : x = y := by
  have h2 : (x - y) % l = 0 := Int.emod_eq_zero_of_dvd h
  have := Int.emod_eq_emod_iff_emod_sub_eq_zero.2 h2
  rw [Int.emod_eq_of_lt x0 x1, Int.emod_eq_of_lt y0 y1] at this
  exact this
/-- Two positive moduli that divide the same numbers are equal. -/
theorem same_mod (a b : Int) (a0 : 1 ≤ a) (b0 : 1 ≤ b) (h : ∀ d, a ∣ d ↔ b ∣ d) : a = b := by
  have h1 : b ∣ a := (h a).1 (Int.dvd_refl a)
  have h2 : a ∣ b := (h b).2 (Int.dvd_refl b)
  have := Int.le_of_dvd (by omega) h1
  have := Int.le_of_dvd (by omega) h2
  omega

theorem lcm_pos (m1 m2 : Int) (h1 : 1 ≤ m1) (h2 : 1 ≤ m2) : 1 ≤ m1 * (m2 / (Int.gcd m1 m2 : Nat)) := by
  have gp : Int.gcd m1 m2 ≠ 0 := by rw [ne_eq, Int.gcd_eq_zero_iff]; omega
  have := div_pos' (Int.gcd m1 m2 : Nat) m2 (by omega) h2 (Int.gcd_dvd_right m1 m2)
  have := Int.mul_le_mul h1 this (by omega) (by omega)
  omega
theorem lcm_symm (m1 m2 : Int) (h1 : 1 ≤ m1) (h2 : 1 ≤ m2) : m1 * (m2 / (Int.gcd m1 m2 : Nat)) = m2 * (m1 / (Int.gcd m2 m1 : Nat)) :=
  same_mod _ _ (lcm_pos m1 m2 h1 h2) (lcm_pos m2 m1 h2 h1) fun d => by
    rw [lcm_iff m1 m2 _ d h1 rfl, lcm_iff m2 m1 _ d h2 rfl]; exact And.comm
theorem diff_dvd {x m r : Int} (h : x % m = r) : m ∣ x - r := by
  rw [Int.dvd_iff_emod_eq_zero, ← h, ← Int.emod_eq_emod_iff_emod_sub_eq_zero, Int.emod_emod]
theorem both_dvd {x y m r : Int} (h1 : x % m = r) (h2 : y % m = r) : m ∣ x - y := by
  rw [Int.dvd_iff_emod_eq_zero, ← Int.emod_eq_emod_iff_emod_sub_eq_zero, h1, h2]
theorem dvd_flip {g a b : Int} (h : g ∣ a - b) : g ∣ b - a := by
  have := Int.dvd_neg.2 h
  rwa [Int.neg_sub] at this

theorem meet_comm {r1 m1 r2 m2 x l y l' : Int} {ok ok' : Bool} {er er' : Int} (h : MeetF r1 m1 r2 m2 x l ok er) (h' : MeetF r2 m2 r1 m1 y l' ok' er') : x = y ∧ l = l' ∧ ok = ok' ∧ er = er' := by
  have gs : ((Int.gcd m2 m1 : Nat) : Int) = ((Int.gcd m1 m2 : Nat) : Int) := by rw [Int.gcd_comm]
  cases v1 : vld r1 m1
  · rcases h with ⟨_, a, b, c, d⟩ | ⟨q, _⟩ | ⟨q, _⟩ | ⟨q, _⟩
    · rcases h' with ⟨_, a', b', c', d'⟩ | ⟨_, q, _⟩ | ⟨_, q, _⟩ | ⟨_, q, _⟩
      · exact ⟨a.trans a'.symm, b.trans b'.symm, c.trans c'.symm, d.trans d'.symm⟩
      all_goals (rw [v1] at q; cases q)
    all_goals (rw [v1] at q; cases q)
  cases v2 : vld r2 m2
  · rcases h with ⟨_, a, b, c, d⟩ | ⟨_, q, _⟩ | ⟨_, q, _⟩ | ⟨_, q, _⟩
    · rcases h' with ⟨_, a', b', c', d'⟩ | ⟨q, _⟩ | ⟨q, _⟩ | ⟨q, _⟩
      · exact ⟨a.trans a'.symm, b.trans b'.symm, c.trans c'.symm, d.trans d'.symm⟩
      all_goals (rw [v2] at q; cases q)
    all_goals (rw [v2] at q; cases q)
  obtain ⟨p1, _⟩ := vld_yes v1
  obtain ⟨q1, _⟩ := vld_yes v2
  have hs := lcm_symm m1 m2 p1 q1
  rcases h with ⟨q, _⟩ | ⟨_, _, hd, a, b, c, d⟩ | ⟨_, _, hd, hb, a, b, c, d⟩ | ⟨_, _, hd, hb, a, b, c, x0, x1, x2, x3⟩
  · rw [v1, v2] at q; cases q
  all_goals rcases h' with ⟨q, _⟩ | ⟨_, _, hd', a', b', c', d'⟩ | ⟨_, _, hd', hb', a', b', c', d'⟩ | ⟨_, _, hd', hb', a', b', c', y0, y1, y2, y3⟩
  all_goals first | (rw [v1, v2] at q; cases q; done) | skip
  · exact ⟨a.trans a'.symm, b.trans b'.symm, c.trans c'.symm, d.trans d'.symm⟩
  · rw [gs] at hd'; exact absurd (dvd_flip hd') hd
  · rw [gs] at hd'; exact absurd (dvd_flip hd') hd
  · rw [gs] at hd'; exact absurd (dvd_flip hd) hd'
  · exact ⟨a.trans a'.symm, b.trans b'.symm, c.trans c'.symm, d.trans d'.symm⟩
  · omega
  · rw [gs] at hd'; exact absurd (dvd_flip hd) hd'
  · omega
  · have hl : l = l' := by rw [a, a', hs]
    refine ⟨?_, hl, b.trans b'.symm, c.trans c'.symm⟩
    refine same_res x y l x0 x1 y0 (by omega) ?_
    rw [a, lcm_iff m1 m2 _ _ p1 rfl]
    exact ⟨both_dvd x2 y3, both_dvd x3 y2⟩

/-- What the fourth case says. -/
theorem meet_four {r1 m1 r2 m2 x l er : Int} (h : MeetF r1 m1 r2 m2 x l true er) : vld r1 m1 = true ∧ vld r2 m2 = true ∧ (∀ d, l ∣ d ↔ m1 ∣ d ∧ m2 ∣ d) ∧ 1 ≤ l ∧ l ≤ 4611686018427387904 ∧ 0 ≤ x ∧ x < l ∧ x % m1 = r1 ∧ x % m2 = r2 := by
  rcases h with ⟨_, _, _, c, _⟩ | ⟨_, _, _, _, _, c, _⟩ | ⟨_, _, _, _, _, _, c, _⟩ | ⟨v1, v2, _, hb, a, _, _, x0, x1, x2, x3⟩
  · cases c
  · cases c
  · cases c
  · obtain ⟨p1, _⟩ := vld_yes v1
    obtain ⟨q1, _⟩ := vld_yes v2
    exact ⟨v1, v2, fun d => by rw [a]; exact lcm_iff m1 m2 _ d p1 rfl, by rw [a]; exact lcm_pos m1 m2 p1 q1, by omega, x0, x1, x2, x3⟩

/-- No error and no class: the residues differ modulo the greatest common divisor. -/
theorem meet_two {r1 m1 r2 m2 x l er : Int} (h : MeetF r1 m1 r2 m2 x l false er) (he : er = 0) : x = 0 ∧ l = 0 ∧ ∀ n, m1 ∣ n - r1 → ¬ m2 ∣ n - r2 := by
  rcases h with ⟨_, _, _, _, e⟩ | ⟨_, _, hd, a, b, _, _⟩ | ⟨_, _, _, _, _, _, _, e⟩ | ⟨_, _, _, _, _, c, _⟩
  · omega
  · refine ⟨a, b, fun n h1 h2 => hd ?_⟩
    have e1 := Int.dvd_trans (Int.gcd_dvd_left m1 m2) h1
    have e2 := Int.dvd_trans (Int.gcd_dvd_right m1 m2) h2
    have := Int.dvd_sub e1 e2
    rwa [show n - r1 - (n - r2) = r2 - r1 by omega] at this
  · omega
  · cases c

theorem meet_assoc {r1 m1 r2 m2 r3 m3 x l z lz X Lx Z Lz e1 e2 ex ez : Int} {okx okz : Bool} (hab : MeetF r1 m1 r2 m2 x l true e1) (hbc : MeetF r2 m2 r3 m3 z lz true e2)
    (hl : MeetF x l r3 m3 X Lx okx ex) (hr : MeetF r1 m1 z lz Z Lz okz ez) (e1 : ex = 0) (e2 : ez = 0) : X = Z ∧ Lx = Lz ∧ okx = okz := by
  obtain ⟨v1, v2, d12, l0, _, x0, x1, xa, xb⟩ := meet_four hab
  obtain ⟨_, v3, d23, l0', _, z0, z1, zb, zc⟩ := meet_four hbc
  cases okx <;> cases okz
  · obtain ⟨a, b, _⟩ := meet_two hl e1
    obtain ⟨a', b', _⟩ := meet_two hr e2
    exact ⟨a.trans a'.symm, b.trans b'.symm, rfl⟩
  · exfalso
    obtain ⟨_, _, no⟩ := meet_two hl e1
    obtain ⟨_, _, _, _, _, _, _, Z1, Z2⟩ := meet_four hr
    have f1 := diff_dvd Z1
    have f2 := (d23 _).1 (diff_dvd Z2)
    refine no Z ((d12 _).2 ⟨?_, ?_⟩) ?_
    · have := Int.dvd_sub f1 (diff_dvd xa); rwa [show Z - r1 - (x - r1) = Z - x by omega] at this
    · have := Int.dvd_sub (Int.dvd_add f2.1 (diff_dvd zb)) (diff_dvd xb); rwa [show Z - z + (z - r2) - (x - r2) = Z - x by omega] at this
    · have := Int.dvd_add f2.2 (diff_dvd zc); rwa [show Z - z + (z - r3) = Z - r3 by omega] at this
  · exfalso
    obtain ⟨_, _, no⟩ := meet_two hr e2
    obtain ⟨_, _, _, _, _, _, _, X1, X2⟩ := meet_four hl
    have f1 := (d12 _).1 (diff_dvd X1)
    have f2 := diff_dvd X2
    refine no X ?_ ((d23 _).2 ⟨?_, ?_⟩)
    · have := Int.dvd_add f1.1 (diff_dvd xa); rwa [show X - x + (x - r1) = X - r1 by omega] at this
    · have := Int.dvd_sub (Int.dvd_add f1.2 (diff_dvd xb)) (diff_dvd zb); rwa [show X - x + (x - r2) - (z - r2) = X - z by omega] at this
    · have := Int.dvd_sub f2 (diff_dvd zc); rwa [show X - r3 - (z - r3) = X - z by omega] at this
  · obtain ⟨_, _, dl, L0, _, X0, X1, Xa, Xb⟩ := meet_four hl
    obtain ⟨_, _, dr, L0', _, Z0, Z1, Za, Zb⟩ := meet_four hr
    have hL : Lx = Lz := same_mod _ _ L0 L0' fun d => by
      rw [dl, dr, d12, d23]; exact and_assoc
    have f1 := (d12 _).1 (diff_dvd Xa)
    have f2 := diff_dvd Xb
    have g1 := diff_dvd Za
    have g2 := (d23 _).1 (diff_dvd Zb)
    refine ⟨same_res X Z Lx X0 X1 Z0 (by omega) ((dl _).2 ⟨(d12 _).2 ⟨?_, ?_⟩, ?_⟩), hL, rfl⟩
    · have := Int.dvd_sub (Int.dvd_add f1.1 (diff_dvd xa)) g1; rwa [show X - x + (x - r1) - (Z - r1) = X - Z by omega] at this
    · have := Int.dvd_sub (Int.dvd_add f1.2 (diff_dvd xb)) (Int.dvd_add g2.1 (diff_dvd zb)); rwa [show X - x + (x - r2) - (Z - z + (z - r2)) = X - Z by omega] at this
    · have := Int.dvd_sub f2 (Int.dvd_add g2.2 (diff_dvd zc)); rwa [show X - r3 - (Z - z + (z - r3)) = X - Z by omega] at this

end Go.Proofs.Ytgicdfhhaefibaa
