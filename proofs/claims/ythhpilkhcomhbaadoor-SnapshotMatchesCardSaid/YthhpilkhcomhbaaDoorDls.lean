/- What was written last. -/
import Derived.Test.YthhpilkhcomhbaaDoorTrn
namespace Go.Proofs.YthhpilkhcomhbaaDoor
open Go.ChangeShapes Go.WideShapes Go.ChangeAt Go.RowKit Go.ChangeMaps

theorem Write_any (w : World) (p q : Nat) (s : St) (h : Dk w p q s) (hx : s.x < 1000000000) (i : Int) (A : Option Addr) (n c : Nat) (d : List UInt8) (hd : BA (PQ p q) w A n d) (hc : n ≤ c) :
    Calls Tryd.prog 27 #[.pointer (some ⟨p, 0, none⟩), .int .i64 i, .slice A n c] w fun e w' => e = .returned (.int .i64 (s.Wr i d).2) ∧ Dk w' p q (s.Wr i d).1 ∧ Chg (PQ p q) w w' := by
  cases hf : s.f
  · by_cases hi : 0 ≤ i ∧ i < s.R.length ∧ n = 64
    · obtain ⟨h1, h2, rfl⟩ := hi
      obtain ⟨k, rfl⟩ : ∃ k : Nat, i = (k : Int) := ⟨i.toNat, by omega⟩
      have hk : k < s.R.length := by omega
      by_cases ha : s.a = 1
      · have e : s.Wr k d = ({ s with R := s.R.set k (d.take s.b ++ (s.R.getD k []).drop s.b), f := true, a := 0 }, 15) := by
          unfold St.Wr
          rw [hf, if_neg (by decide), if_pos ⟨h1, h2, hd.1⟩]
          unfold St.wr
          rw [if_pos ha, Int.toNat_natCast]
        rw [e]
        exact Write_torn w p q s h hf ha k hk A c d hd.at hc
      · have e : s.Wr k d = ({ s with R := s.R.set k d, a := s.a - 1, x := s.x + 1 }, 0) := by
          unfold St.Wr
          rw [hf, if_neg (by decide), if_pos ⟨h1, h2, hd.1⟩]
          unfold St.wr
          rw [if_neg ha, Int.toNat_natCast]
          rw [hf]
        rw [e]
        rcases Nat.eq_zero_or_pos s.a with h0 | h0
        · exact Write_zero w p q s h hf h0 hx k hk A c d hd hc
        · exact Write_more w p q s h hf (by omega) hx k hk A c d hd hc
    · have e : s.Wr i d = (s, 1) := by
        unfold St.Wr
        rw [hf, if_neg (by decide), if_neg (by rw [hd.1]; exact hi)]
      rw [e]
      refine (Write_bad w p q s h hf i A n c (by omega)).mono ?_
      rintro e' w' ⟨h1, rfl⟩
      exact ⟨h1, h, Chg.refl _ _⟩
  · have e : s.Wr i d = (s, 15) := by unfold St.Wr; rw [hf]; rfl
    rw [e]
    refine (Write_fail w p q s h hf i _).mono ?_
    rintro e' w' ⟨h1, rfl⟩
    exact ⟨h1, h, Chg.refl _ _⟩
end Go.Proofs.YthhpilkhcomhbaaDoor
