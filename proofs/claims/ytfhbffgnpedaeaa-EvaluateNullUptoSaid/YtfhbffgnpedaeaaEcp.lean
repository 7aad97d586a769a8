/- Comparisons. -/
import Derived.Test.YtfhbffgnpedaeaaElk
import Derived.Test.YtfhbffgnpedaeaaEvd
namespace Go.Proofs.Ytfhbffgnpedaeaa
open Go.ChangeShapes Go.WideShapes Go.ChangeAt Go.RowKit Go.ChangeMaps

def cmpM (op : Int) (a b : V3) : Int := if op = 10 then eqM a b else if op = 11 then notM (eqM a b) else if op = 12 then ltM a b else if op = 13 then notM (ltM b a) else if op = 14 then ltM b a else if op = 15 then notM (ltM a b) else if op = 16 then (if a.k = 0 then 2 else if b.k = 0 then 2 else ofM (likeM b.s.data.toList a.s.data.toList)) else 2
set_option maxRecDepth 100000 in
set_option maxHeartbeats 2000000 in
theorem comparison_any (op : Int) (a b : V3) (w : World) (ha : a.ok) (hb : b.ok) : Calls Try.prog 38 #[.int .i64 op, a.agg, b.agg] w fun e w' => e = .returned (.int .i64 (cmpM op a b)) ∧ Below w.heap.size w w' := by
  have CE := Lib.hid (fun W => Equal_any a b W)
  have CL := Lib.hid (fun W => Less_any a b W)
  have CG := Lib.hid (fun W => Less_any b a W)
  have CN := Lib.hid (fun x W => Not_any x W)
  have CO := Lib.hid (fun x W => Of_any x W)
  have CK := Lib.hid (fun W => Like_any a.s b.s W ha.2.2.2.2 hb.2.2.2.2)
  obtain ⟨r, hr⟩ : ∃ r, cmpM op a b = r := ⟨_, rfl⟩
  rw [hr]
  unfold cmpM at hr
  have HR := Lib.hid hr
  clear hr ha hb
  obtain ⟨eq, heq⟩ : ∃ x, eqM a b = x := ⟨_, rfl⟩
  obtain ⟨lt, hlt⟩ : ∃ x, ltM a b = x := ⟨_, rfl⟩
  obtain ⟨gt, hgt⟩ : ∃ x, ltM b a = x := ⟨_, rfl⟩
  obtain ⟨lk, hlk⟩ : ∃ x, likeM b.s.data.toList a.s.data.toList = x := ⟨_, rfl⟩
  simp only [heq] at CE HR
  simp only [hlt] at CL HR
  simp only [hgt] at CG HR
  simp only [hlk] at CK HR
  clear heq hlt hgt hlk
  obtain ⟨k, n, s⟩ := a
  obtain ⟨k', n', t⟩ := b
  unfold V3.agg at *
  dsimp only at *
  have HB := Lib.hid (show Below w.heap.size w ((w.alloc (.cells #[.int .i64 k, .int .i64 n, .string s] 23)).alloc (.cells #[.int .i64 k', .int .i64 n', .string t] 23)) from ((Below.refl _ w).alloc (Nat.le_refl _) _).alloc (by simp) _)
  by_cases h10 : op = 10
  · subst h10
    go_enter Try.func38, Try.ntmps38
    go_wp2_with fail
    refine (CE.out _).mono ?_
    rintro e w1 ⟨rfl, hb⟩
    have HB1 := Lib.hid (HB.out.trans (hb.mono HB.out.size))
    clear hb
    go_wp2
    go_ret
    exact ⟨by rw [← HR.out]; rfl, HB1.out⟩
  have e10 : (op == 10) = false := by simpa using h10
  by_cases h11 : op = 11
  · subst h11
    go_enter Try.func38, Try.ntmps38
    go_wp2_with fail
    refine (CE.out _).mono ?_
    rintro e w1 ⟨rfl, hb⟩
    have HB1 := Lib.hid (HB.out.trans (hb.mono HB.out.size))
    clear hb
    go_wp2_with fail
    refine (CN.out _ _).mono ?_
    rintro e w2 ⟨rfl, rfl⟩
    go_wp2
    go_ret
    exact ⟨by rw [← HR.out]; rfl, HB1.out⟩
  have e11 : (op == 11) = false := by simpa using h11
  by_cases h12 : op = 12
  · subst h12
    go_enter Try.func38, Try.ntmps38
    go_wp2_with fail
    refine (CL.out _).mono ?_
    rintro e w1 ⟨rfl, hb⟩
    have HB1 := Lib.hid (HB.out.trans (hb.mono HB.out.size))
    clear hb
    go_wp2
    go_ret
    exact ⟨by rw [← HR.out]; rfl, HB1.out⟩
  have e12 : (op == 12) = false := by simpa using h12
  by_cases h13 : op = 13
  · subst h13
    go_enter Try.func38, Try.ntmps38
    go_wp2_with fail
    refine (CG.out _).mono ?_
    rintro e w1 ⟨rfl, hb⟩
    have HB1 := Lib.hid (HB.out.trans (hb.mono HB.out.size))
    clear hb
    go_wp2_with fail
    refine (CN.out _ _).mono ?_
    rintro e w2 ⟨rfl, rfl⟩
    go_wp2
    go_ret
    exact ⟨by rw [← HR.out]; rfl, HB1.out⟩
  have e13 : (op == 13) = false := by simpa using h13
  by_cases h14 : op = 14
  · subst h14
    go_enter Try.func38, Try.ntmps38
    go_wp2_with fail
    refine (CG.out _).mono ?_
    rintro e w1 ⟨rfl, hb⟩
    have HB1 := Lib.hid (HB.out.trans (hb.mono HB.out.size))
    clear hb
    go_wp2
    go_ret
    exact ⟨by rw [← HR.out]; rfl, HB1.out⟩
  have e14 : (op == 14) = false := by simpa using h14
  by_cases h15 : op = 15
  · subst h15
    go_enter Try.func38, Try.ntmps38
    go_wp2_with fail
    refine (CL.out _).mono ?_
    rintro e w1 ⟨rfl, hb⟩
    have HB1 := Lib.hid (HB.out.trans (hb.mono HB.out.size))
    clear hb
    go_wp2_with fail
    refine (CN.out _ _).mono ?_
    rintro e w2 ⟨rfl, rfl⟩
    go_wp2
    go_ret
    exact ⟨by rw [← HR.out]; rfl, HB1.out⟩
  have e15 : (op == 15) = false := by simpa using h15
  by_cases h16 : op = 16
  · subst h16
    by_cases h1 : k = 0
    · subst h1
      go_enter Try.func38, Try.ntmps38
      go_wp2
      go_ret
      exact ⟨by rw [← HR.out]; rfl, HB.out⟩
    by_cases h2 : k' = 0
    · subst h2
      have e1 : (k != 0) = true := by simpa using h1
      go_enter Try.func38, Try.ntmps38
      go_wp2
      go_ret
      exact ⟨by rw [← HR.out]; simp [h1], HB.out⟩
    have e1 : (k != 0) = true := by simpa using h1
    have e2 : (k' != 0) = true := by simpa using h2
    have HR2 := Lib.hid (show ofM lk = r by rw [← HR.out]; simp [h1, h2])
    go_enter Try.func38, Try.ntmps38
    go_wp2_with fail
    refine (CK.out _).mono ?_
    rintro e w1 ⟨rfl, hb⟩
    have HB1 := Lib.hid (HB.out.trans (hb.mono HB.out.size))
    clear hb
    go_wp2_with fail
    refine (CO.out _ _).mono ?_
    rintro e w2 ⟨rfl, rfl⟩
    go_wp2
    go_ret
    exact ⟨by rw [← HR2.out]; rfl, HB1.out⟩
  have e16 : (op == 16) = false := by simpa using h16
  go_enter Try.func38, Try.ntmps38
  go_wp2
  go_ret
  exact ⟨by rw [← HR.out]; simp [h10, h11, h12, h13, h14, h15, h16], HB.out⟩
end Go.Proofs.Ytfhbffgnpedaeaa
