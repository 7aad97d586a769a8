/- Equality and order of values. -/
import Derived.Test.YtfhbffgnpedaeaaEvb
import Derived.BigQuiet
import Derived.Lib.QuietBelow
namespace Go.Proofs.Ytfhbffgnpedaeaa
open Go.ChangeShapes Go.WideShapes Go.ChangeAt Go.RowKit Go.ChangeMaps

theorem ba_ext {a b : ByteArray} (h : a.toList = b.toList) : a = b := by
  rw [ByteArray.toList_eq, ByteArray.toList_eq] at h
  obtain ⟨a⟩ := a
  obtain ⟨b⟩ := b
  exact congrArg ByteArray.mk (Array.ext' h)
def V3.eqB (s x : V3) : Bool := (s.k == x.k) && ((s.n == x.n) && (s.s.toList == x.s.toList))
def eqM (a b : V3) : Int := if a.k = 0 then 2 else if b.k = 0 then 2 else ofM (a.eqB b)
def ltM (a b : V3) : Int := if a.k = 0 then 2 else if b.k = 0 then 2 else ofM (decide (a.k = b.k) && decide (vcmp a b < 0))
set_option maxRecDepth 100000 in
set_option maxHeartbeats 2000000 in
theorem Equal_any (a b : V3) (w : World) : Calls Try.prog 50 #[a.agg, b.agg] w fun e w' => e = .returned (.int .i64 (eqM a b)) ∧ Below w.heap.size w w' := by
  obtain ⟨k, n, s⟩ := a
  obtain ⟨k', n', t⟩ := b
  have HB := Lib.hid (show Below w.heap.size w ((w.alloc (.cells #[.int .i64 k, .int .i64 n, .string s] 23)).alloc (.cells #[.int .i64 k', .int .i64 n', .string t] 23)) from ((Below.refl _ w).alloc (Nat.le_refl _) _).alloc (by simp) _)
  have CT := Lib.hid (fun b W => truth_any b W)
  unfold V3.agg
  dsimp only
  by_cases h1 : k = 0
  · subst h1
    go_enter Try.func50, Try.ntmps50
    go_wp2
    go_ret
    exact ⟨rfl, HB.out⟩
  by_cases h2 : k' = 0
  · subst h2
    have e1 : (k == 0) = false := by simpa using h1
    go_enter Try.func50, Try.ntmps50
    go_wp2
    go_ret
    exact ⟨by simp [eqM, h1], HB.out⟩
  have e1 : (k == 0) = false := by simpa using h1
  have e2 : (k' == 0) = false := by simpa using h2
  obtain ⟨q, hq⟩ : ∃ q, V3.eqB ⟨k, n, s⟩ ⟨k', n', t⟩ = q := ⟨_, rfl⟩
  have HQ := Lib.hid hq
  have HE := Lib.hid (show eqM ⟨k, n, s⟩ ⟨k', n', t⟩ = ofM q by unfold eqM; rw [if_neg h1, if_neg h2, hq])
  clear hq h1 h2
  go_enter Try.func50, Try.ntmps50
  go_wp2_with fail
  all_goals
    refine (CT.out _ _).mono ?_
    rintro e w2 ⟨rfl, rfl⟩
    go_wp2
    go_ret
    refine ⟨ret_int ?_, ((Below.refl _ w).alloc (Nat.le_refl _) _).alloc (by simp) _⟩
    rw [HE.out]
    congr 1
    have HQ := HQ.out
    unfold V3.eqB at HQ
    clear HE HB CT e1 e2
    first | (simp_all; done) | (cases q <;> simp_all)
set_option maxRecDepth 100000 in
set_option maxHeartbeats 2000000 in
theorem Less_any (a b : V3) (w : World) : Calls Try.prog 51 #[a.agg, b.agg] w fun e w' => e = .returned (.int .i64 (ltM a b)) ∧ Below w.heap.size w w' := by
  obtain ⟨k, n, s⟩ := a
  obtain ⟨k', n', t⟩ := b
  have HB := Lib.hid (show Below w.heap.size w ((w.alloc (.cells #[.int .i64 k, .int .i64 n, .string s] 23)).alloc (.cells #[.int .i64 k', .int .i64 n', .string t] 23)) from ((Below.refl _ w).alloc (Nat.le_refl _) _).alloc (by simp) _)
  have CT := Lib.hid (fun b W => truth_any b W)
  unfold V3.agg
  dsimp only
  by_cases h1 : k = 0
  · subst h1
    go_enter Try.func51, Try.ntmps51
    go_wp2
    go_ret
    exact ⟨rfl, HB.out⟩
  by_cases h2 : k' = 0
  · subst h2
    have e1 : (k == 0) = false := by simpa using h1
    go_enter Try.func51, Try.ntmps51
    go_wp2
    go_ret
    exact ⟨by simp [ltM, h1], HB.out⟩
  have e1 : (k == 0) = false := by simpa using h1
  have e2 : (k' == 0) = false := by simpa using h2
  by_cases h3 : k = k'
  · have CV := Lib.hid (fun W => VCmp_any k n s k' n' t W)
    obtain ⟨r, hr⟩ : ∃ q, vcmp ⟨k, n, s⟩ ⟨k', n', t⟩ = q := ⟨_, rfl⟩
    have HE := Lib.hid (show ltM ⟨k, n, s⟩ ⟨k', n', t⟩ = ofM (decide (r < 0)) by unfold ltM; rw [if_neg h1, if_neg h2, hr]; simp [h3])
    simp only [hr] at CV
    clear hr h1 h2
    have e3 : (k == k') = true := by simpa using h3
    clear h3
    go_enter Try.func51, Try.ntmps51
    go_wp2_with fail
    refine (CV.out _).mono ?_
    rintro e w2 ⟨rfl, hb⟩
    have HB2 := Lib.hid (HB.out.trans (hb.mono HB.out.size))
    clear hb
    obtain ⟨d, hd⟩ : ∃ d, decide (r < 0) = d := ⟨_, rfl⟩
    rw [hd] at HE
    cases d
    · have hd' : ¬ r < 0 := by simpa using hd
      go_wp2_with fail
      refine (CT.out _ _).mono ?_
      rintro e w3 ⟨rfl, rfl⟩
      go_wp2
      go_ret
      exact ⟨ret_int HE.out.symm, HB2.out⟩
    · have hd' : r < 0 := by simpa using hd
      go_wp2_with fail
      refine (CT.out _ _).mono ?_
      rintro e w3 ⟨rfl, rfl⟩
      go_wp2
      go_ret
      exact ⟨ret_int HE.out.symm, HB2.out⟩
  · have HE := Lib.hid (show ltM ⟨k, n, s⟩ ⟨k', n', t⟩ = ofM false by unfold ltM; rw [if_neg h1, if_neg h2]; simp [h3])
    have e3 : (k == k') = false := by simpa using h3
    clear h1 h2 h3
    go_enter Try.func51, Try.ntmps51
    go_wp2_with fail
    refine (CT.out _ _).mono ?_
    rintro e w3 ⟨rfl, rfl⟩
    go_wp2
    go_ret
    exact ⟨ret_int HE.out.symm, HB.out⟩
end Go.Proofs.Ytfhbffgnpedaeaa
