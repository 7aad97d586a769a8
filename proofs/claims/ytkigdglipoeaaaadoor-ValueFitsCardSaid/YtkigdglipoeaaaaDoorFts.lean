/- Whether a value belongs to the domain of a variable. -/
import Derived.Test.YtkigdglipoeaaaaDoorAgg
import Derived.Test.YtkigdglipoeaaaaDoorDbl
namespace Go.Proofs.YtkigdglipoeaaaaDoor
open Go.ChangeShapes Go.WideShapes Go.ChangeAt Go.RowKit Go.ChangeMaps

def fitsB (x : V3) (t lo hi mx : Int) (nl : Bool) : Bool := if x.valid = false then false else if x.k = 1 then (if t = 1 then (if lo ≤ x.n then decide (x.n ≤ hi) else false) else false) else if x.k = 2 then (if t = 2 then decide ((x.s.size : Int) ≤ mx) else false) else nl

set_option maxHeartbeats 1000000 in
theorem VFits_any (k n : Int) (s : ByteArray) (t lo hi mx : Int) (nl : Bool) (w : World) (hs : s.size ≤ 9223372036854775807) :
    Calls Tryd.prog 24 #[.agg #[.int .i64 k, .int .i64 n, .string s], .agg #[.int .i64 t, .int .i64 lo, .int .i64 hi, .int .i64 mx, .bool nl]] w fun e w' => e = .returned (.bool (fitsB ⟨k, n, s⟩ t lo hi mx nl)) ∧ Below w.heap.size w w' := by
  have HV := Lib.hid (fun w => VValid_any k n s w hs)
  have HX : Hid (fitsB ⟨k, n, s⟩ t lo hi mx nl = if V3.valid ⟨k, n, s⟩ = false then false else if k = 1 then (if t = 1 then (if lo ≤ n then decide (n ≤ hi) else false) else false) else if k = 2 then (if t = 2 then decide ((s.size : Int) ≤ mx) else false) else nl) := Lib.hid rfl
  have HK : Hid (V3.valid ⟨k, n, s⟩ = true → k = 0 ∨ k = 1 ∨ k = 2) := Lib.hid valid_kind
  have B0 := Lib.hid (((Below.refl w.heap.size w).alloc (Nat.le_refl _) (.cells #[.int .i64 k, .int .i64 n, .string s] 23)).alloc (by simp) (.cells #[.int .i64 t, .int .i64 lo, .int .i64 hi, .int .i64 mx, .bool nl] 37))
  generalize hv : V3.valid ⟨k, n, s⟩ = v at *
  generalize hf : fitsB ⟨k, n, s⟩ t lo hi mx nl = f at *
  clear hv hf
  cases v
  · have q := HX.out.trans (if_pos rfl)
    subst q
    go_enter Tryd.func24, Tryd.ntmps24
    go_wp2_with (go_at_call 13; refine (HV.out _).mono ?_; rintro e w1 ⟨rfl, hb⟩)
    go_ret
    exact ⟨rfl, B0.out.trans (hb.mono (by simp; omega))⟩
  · have HX := Lib.hid (HX.out.trans (if_neg (by decide)))
    rcases HK.out rfl with hk | hk | hk
    · subst hk
      rw [(HX.out.trans rfl : f = nl)]
      clear HX
      go_enter Tryd.func24, Tryd.ntmps24
      go_wp2_with fail
      refine (HV.out _).mono ?_
      rintro e w1 ⟨rfl, hb⟩
      have e0 := keepcell hb (pastcell (x := .cells #[.int .i64 t, .int .i64 lo, .int .i64 hi, .int .i64 mx, .bool nl] 37) (newcell (w := w) (cs := #[.int .i64 0, .int .i64 n, .string s]) (T := 23) (g := w.heap.size) 0 (.int .i64 0) rfl rfl))
      have e1 := keepcell hb (pastcell (x := .cells #[.int .i64 t, .int .i64 lo, .int .i64 hi, .int .i64 mx, .bool nl] 37) (newcell (w := w) (cs := #[.int .i64 0, .int .i64 n, .string s]) (T := 23) (g := w.heap.size) 1 (.int .i64 n) rfl rfl))
      have e2 := keepcell hb (pastcell (x := .cells #[.int .i64 t, .int .i64 lo, .int .i64 hi, .int .i64 mx, .bool nl] 37) (newcell (w := w) (cs := #[.int .i64 0, .int .i64 n, .string s]) (T := 23) (g := w.heap.size) 2 (.string s) rfl rfl))
      have f0 := keepcell hb (newcell (w := w.alloc (.cells #[.int .i64 0, .int .i64 n, .string s] 23)) (cs := #[.int .i64 t, .int .i64 lo, .int .i64 hi, .int .i64 mx, .bool nl]) (T := 37) (g := w.heap.size + 1) 0 (.int .i64 t) (by simp) rfl)
      have f1 := keepcell hb (newcell (w := w.alloc (.cells #[.int .i64 0, .int .i64 n, .string s] 23)) (cs := #[.int .i64 t, .int .i64 lo, .int .i64 hi, .int .i64 mx, .bool nl]) (T := 37) (g := w.heap.size + 1) 1 (.int .i64 lo) (by simp) rfl)
      have f2 := keepcell hb (newcell (w := w.alloc (.cells #[.int .i64 0, .int .i64 n, .string s] 23)) (cs := #[.int .i64 t, .int .i64 lo, .int .i64 hi, .int .i64 mx, .bool nl]) (T := 37) (g := w.heap.size + 1) 2 (.int .i64 hi) (by simp) rfl)
      have f3 := keepcell hb (newcell (w := w.alloc (.cells #[.int .i64 0, .int .i64 n, .string s] 23)) (cs := #[.int .i64 t, .int .i64 lo, .int .i64 hi, .int .i64 mx, .bool nl]) (T := 37) (g := w.heap.size + 1) 3 (.int .i64 mx) (by simp) rfl)
      have f4 := keepcell hb (newcell (w := w.alloc (.cells #[.int .i64 0, .int .i64 n, .string s] 23)) (cs := #[.int .i64 t, .int .i64 lo, .int .i64 hi, .int .i64 mx, .bool nl]) (T := 37) (g := w.heap.size + 1) 4 (.bool nl) (by simp) rfl)
      have HB := Lib.hid (B0.out.trans (hb.mono B0.out.size))
      go_wp2
      go_ret
      exact ⟨rfl, HB.out⟩
    · subst hk
      have HX : Hid (f = if t = 1 then (if lo ≤ n then decide (n ≤ hi) else false) else false) := Lib.hid (HX.out.trans rfl)
      by_cases ht : t = 1
      · subst ht
        by_cases hl : lo ≤ n
        · have q : f = decide (n ≤ hi) := HX.out.trans ((if_pos rfl).trans (if_pos hl))
          have d1 : decide (lo ≤ n) = true := decide_eq_true hl
          have d1b : decide (n ≥ lo) = true := decide_eq_true hl
          rcases d2 : decide (n ≤ hi) with _ | _ <;> rw [d2] at q <;> subst q
          · skip
            go_enter Tryd.func24, Tryd.ntmps24
            go_wp2_with fail
            refine (HV.out _).mono ?_
            rintro e w1 ⟨rfl, hb⟩
            have e0 := keepcell hb (pastcell (x := .cells #[.int .i64 1, .int .i64 lo, .int .i64 hi, .int .i64 mx, .bool nl] 37) (newcell (w := w) (cs := #[.int .i64 1, .int .i64 n, .string s]) (T := 23) (g := w.heap.size) 0 (.int .i64 1) rfl rfl))
            have e1 := keepcell hb (pastcell (x := .cells #[.int .i64 1, .int .i64 lo, .int .i64 hi, .int .i64 mx, .bool nl] 37) (newcell (w := w) (cs := #[.int .i64 1, .int .i64 n, .string s]) (T := 23) (g := w.heap.size) 1 (.int .i64 n) rfl rfl))
            have e2 := keepcell hb (pastcell (x := .cells #[.int .i64 1, .int .i64 lo, .int .i64 hi, .int .i64 mx, .bool nl] 37) (newcell (w := w) (cs := #[.int .i64 1, .int .i64 n, .string s]) (T := 23) (g := w.heap.size) 2 (.string s) rfl rfl))
            have f0 := keepcell hb (newcell (w := w.alloc (.cells #[.int .i64 1, .int .i64 n, .string s] 23)) (cs := #[.int .i64 1, .int .i64 lo, .int .i64 hi, .int .i64 mx, .bool nl]) (T := 37) (g := w.heap.size + 1) 0 (.int .i64 1) (by simp) rfl)
            have f1 := keepcell hb (newcell (w := w.alloc (.cells #[.int .i64 1, .int .i64 n, .string s] 23)) (cs := #[.int .i64 1, .int .i64 lo, .int .i64 hi, .int .i64 mx, .bool nl]) (T := 37) (g := w.heap.size + 1) 1 (.int .i64 lo) (by simp) rfl)
            have f2 := keepcell hb (newcell (w := w.alloc (.cells #[.int .i64 1, .int .i64 n, .string s] 23)) (cs := #[.int .i64 1, .int .i64 lo, .int .i64 hi, .int .i64 mx, .bool nl]) (T := 37) (g := w.heap.size + 1) 2 (.int .i64 hi) (by simp) rfl)
            have f3 := keepcell hb (newcell (w := w.alloc (.cells #[.int .i64 1, .int .i64 n, .string s] 23)) (cs := #[.int .i64 1, .int .i64 lo, .int .i64 hi, .int .i64 mx, .bool nl]) (T := 37) (g := w.heap.size + 1) 3 (.int .i64 mx) (by simp) rfl)
            have f4 := keepcell hb (newcell (w := w.alloc (.cells #[.int .i64 1, .int .i64 n, .string s] 23)) (cs := #[.int .i64 1, .int .i64 lo, .int .i64 hi, .int .i64 mx, .bool nl]) (T := 37) (g := w.heap.size + 1) 4 (.bool nl) (by simp) rfl)
            have HB := Lib.hid (B0.out.trans (hb.mono B0.out.size))
            go_wp2
            go_ret
            exact ⟨rfl, HB.out⟩
          · skip
            go_enter Tryd.func24, Tryd.ntmps24
            go_wp2_with fail
            refine (HV.out _).mono ?_
            rintro e w1 ⟨rfl, hb⟩
            have e0 := keepcell hb (pastcell (x := .cells #[.int .i64 1, .int .i64 lo, .int .i64 hi, .int .i64 mx, .bool nl] 37) (newcell (w := w) (cs := #[.int .i64 1, .int .i64 n, .string s]) (T := 23) (g := w.heap.size) 0 (.int .i64 1) rfl rfl))
            have e1 := keepcell hb (pastcell (x := .cells #[.int .i64 1, .int .i64 lo, .int .i64 hi, .int .i64 mx, .bool nl] 37) (newcell (w := w) (cs := #[.int .i64 1, .int .i64 n, .string s]) (T := 23) (g := w.heap.size) 1 (.int .i64 n) rfl rfl))
            have e2 := keepcell hb (pastcell (x := .cells #[.int .i64 1, .int .i64 lo, .int .i64 hi, .int .i64 mx, .bool nl] 37) (newcell (w := w) (cs := #[.int .i64 1, .int .i64 n, .string s]) (T := 23) (g := w.heap.size) 2 (.string s) rfl rfl))
            have f0 := keepcell hb (newcell (w := w.alloc (.cells #[.int .i64 1, .int .i64 n, .string s] 23)) (cs := #[.int .i64 1, .int .i64 lo, .int .i64 hi, .int .i64 mx, .bool nl]) (T := 37) (g := w.heap.size + 1) 0 (.int .i64 1) (by simp) rfl)
            have f1 := keepcell hb (newcell (w := w.alloc (.cells #[.int .i64 1, .int .i64 n, .string s] 23)) (cs := #[.int .i64 1, .int .i64 lo, .int .i64 hi, .int .i64 mx, .bool nl]) (T := 37) (g := w.heap.size + 1) 1 (.int .i64 lo) (by simp) rfl)
            have f2 := keepcell hb (newcell (w := w.alloc (.cells #[.int .i64 1, .int .i64 n, .string s] 23)) (cs := #[.int .i64 1, .int .i64 lo, .int .i64 hi, .int .i64 mx, .bool nl]) (T := 37) (g := w.heap.size + 1) 2 (.int .i64 hi) (by simp) rfl)
            have f3 := keepcell hb (newcell (w := w.alloc (.cells #[.int .i64 1, .int .i64 n, .string s] 23)) (cs := #[.int .i64 1, .int .i64 lo, .int .i64 hi, .int .i64 mx, .bool nl]) (T := 37) (g := w.heap.size + 1) 3 (.int .i64 mx) (by simp) rfl)
            have f4 := keepcell hb (newcell (w := w.alloc (.cells #[.int .i64 1, .int .i64 n, .string s] 23)) (cs := #[.int .i64 1, .int .i64 lo, .int .i64 hi, .int .i64 mx, .bool nl]) (T := 37) (g := w.heap.size + 1) 4 (.bool nl) (by simp) rfl)
            have HB := Lib.hid (B0.out.trans (hb.mono B0.out.size))
            go_wp2
            go_ret
            exact ⟨rfl, HB.out⟩
        · have q : f = false := HX.out.trans ((if_pos rfl).trans (if_neg hl))
          have d1 : decide (lo ≤ n) = false := decide_eq_false hl
          have d1b : decide (n ≥ lo) = false := decide_eq_false hl
          subst q
          go_enter Tryd.func24, Tryd.ntmps24
          go_wp2_with fail
          refine (HV.out _).mono ?_
          rintro e w1 ⟨rfl, hb⟩
          have e0 := keepcell hb (pastcell (x := .cells #[.int .i64 1, .int .i64 lo, .int .i64 hi, .int .i64 mx, .bool nl] 37) (newcell (w := w) (cs := #[.int .i64 1, .int .i64 n, .string s]) (T := 23) (g := w.heap.size) 0 (.int .i64 1) rfl rfl))
          have e1 := keepcell hb (pastcell (x := .cells #[.int .i64 1, .int .i64 lo, .int .i64 hi, .int .i64 mx, .bool nl] 37) (newcell (w := w) (cs := #[.int .i64 1, .int .i64 n, .string s]) (T := 23) (g := w.heap.size) 1 (.int .i64 n) rfl rfl))
          have e2 := keepcell hb (pastcell (x := .cells #[.int .i64 1, .int .i64 lo, .int .i64 hi, .int .i64 mx, .bool nl] 37) (newcell (w := w) (cs := #[.int .i64 1, .int .i64 n, .string s]) (T := 23) (g := w.heap.size) 2 (.string s) rfl rfl))
          have f0 := keepcell hb (newcell (w := w.alloc (.cells #[.int .i64 1, .int .i64 n, .string s] 23)) (cs := #[.int .i64 1, .int .i64 lo, .int .i64 hi, .int .i64 mx, .bool nl]) (T := 37) (g := w.heap.size + 1) 0 (.int .i64 1) (by simp) rfl)
          have f1 := keepcell hb (newcell (w := w.alloc (.cells #[.int .i64 1, .int .i64 n, .string s] 23)) (cs := #[.int .i64 1, .int .i64 lo, .int .i64 hi, .int .i64 mx, .bool nl]) (T := 37) (g := w.heap.size + 1) 1 (.int .i64 lo) (by simp) rfl)
          have f2 := keepcell hb (newcell (w := w.alloc (.cells #[.int .i64 1, .int .i64 n, .string s] 23)) (cs := #[.int .i64 1, .int .i64 lo, .int .i64 hi, .int .i64 mx, .bool nl]) (T := 37) (g := w.heap.size + 1) 2 (.int .i64 hi) (by simp) rfl)
          have f3 := keepcell hb (newcell (w := w.alloc (.cells #[.int .i64 1, .int .i64 n, .string s] 23)) (cs := #[.int .i64 1, .int .i64 lo, .int .i64 hi, .int .i64 mx, .bool nl]) (T := 37) (g := w.heap.size + 1) 3 (.int .i64 mx) (by simp) rfl)
          have f4 := keepcell hb (newcell (w := w.alloc (.cells #[.int .i64 1, .int .i64 n, .string s] 23)) (cs := #[.int .i64 1, .int .i64 lo, .int .i64 hi, .int .i64 mx, .bool nl]) (T := 37) (g := w.heap.size + 1) 4 (.bool nl) (by simp) rfl)
          have HB := Lib.hid (B0.out.trans (hb.mono B0.out.size))
          go_wp2
          go_ret
          exact ⟨rfl, HB.out⟩
      · have q : f = false := HX.out.trans (if_neg ht)
        have d1 : (t == 1) = false := by simpa using ht
        subst q
        go_enter Tryd.func24, Tryd.ntmps24
        go_wp2_with fail
        refine (HV.out _).mono ?_
        rintro e w1 ⟨rfl, hb⟩
        have e0 := keepcell hb (pastcell (x := .cells #[.int .i64 t, .int .i64 lo, .int .i64 hi, .int .i64 mx, .bool nl] 37) (newcell (w := w) (cs := #[.int .i64 1, .int .i64 n, .string s]) (T := 23) (g := w.heap.size) 0 (.int .i64 1) rfl rfl))
        have e1 := keepcell hb (pastcell (x := .cells #[.int .i64 t, .int .i64 lo, .int .i64 hi, .int .i64 mx, .bool nl] 37) (newcell (w := w) (cs := #[.int .i64 1, .int .i64 n, .string s]) (T := 23) (g := w.heap.size) 1 (.int .i64 n) rfl rfl))
        have e2 := keepcell hb (pastcell (x := .cells #[.int .i64 t, .int .i64 lo, .int .i64 hi, .int .i64 mx, .bool nl] 37) (newcell (w := w) (cs := #[.int .i64 1, .int .i64 n, .string s]) (T := 23) (g := w.heap.size) 2 (.string s) rfl rfl))
        have f0 := keepcell hb (newcell (w := w.alloc (.cells #[.int .i64 1, .int .i64 n, .string s] 23)) (cs := #[.int .i64 t, .int .i64 lo, .int .i64 hi, .int .i64 mx, .bool nl]) (T := 37) (g := w.heap.size + 1) 0 (.int .i64 t) (by simp) rfl)
        have f1 := keepcell hb (newcell (w := w.alloc (.cells #[.int .i64 1, .int .i64 n, .string s] 23)) (cs := #[.int .i64 t, .int .i64 lo, .int .i64 hi, .int .i64 mx, .bool nl]) (T := 37) (g := w.heap.size + 1) 1 (.int .i64 lo) (by simp) rfl)
        have f2 := keepcell hb (newcell (w := w.alloc (.cells #[.int .i64 1, .int .i64 n, .string s] 23)) (cs := #[.int .i64 t, .int .i64 lo, .int .i64 hi, .int .i64 mx, .bool nl]) (T := 37) (g := w.heap.size + 1) 2 (.int .i64 hi) (by simp) rfl)
        have f3 := keepcell hb (newcell (w := w.alloc (.cells #[.int .i64 1, .int .i64 n, .string s] 23)) (cs := #[.int .i64 t, .int .i64 lo, .int .i64 hi, .int .i64 mx, .bool nl]) (T := 37) (g := w.heap.size + 1) 3 (.int .i64 mx) (by simp) rfl)
        have f4 := keepcell hb (newcell (w := w.alloc (.cells #[.int .i64 1, .int .i64 n, .string s] 23)) (cs := #[.int .i64 t, .int .i64 lo, .int .i64 hi, .int .i64 mx, .bool nl]) (T := 37) (g := w.heap.size + 1) 4 (.bool nl) (by simp) rfl)
        have HB := Lib.hid (B0.out.trans (hb.mono B0.out.size))
        go_wp2
        go_ret
        exact ⟨rfl, HB.out⟩
    · subst hk
      have HX : Hid (f = if t = 2 then decide ((s.size : Int) ≤ mx) else false) := Lib.hid (HX.out.trans rfl)
      by_cases ht : t = 2
      · subst ht
        have q : f = decide ((s.size : Int) ≤ mx) := HX.out.trans (if_pos rfl)
        rcases d2 : decide ((s.size : Int) ≤ mx) with _ | _ <;> rw [d2] at q <;> subst q
        · skip
          go_enter Tryd.func24, Tryd.ntmps24
          go_wp2_with fail
          refine (HV.out _).mono ?_
          rintro e w1 ⟨rfl, hb⟩
          have e0 := keepcell hb (pastcell (x := .cells #[.int .i64 2, .int .i64 lo, .int .i64 hi, .int .i64 mx, .bool nl] 37) (newcell (w := w) (cs := #[.int .i64 2, .int .i64 n, .string s]) (T := 23) (g := w.heap.size) 0 (.int .i64 2) rfl rfl))
          have e1 := keepcell hb (pastcell (x := .cells #[.int .i64 2, .int .i64 lo, .int .i64 hi, .int .i64 mx, .bool nl] 37) (newcell (w := w) (cs := #[.int .i64 2, .int .i64 n, .string s]) (T := 23) (g := w.heap.size) 1 (.int .i64 n) rfl rfl))
          have e2 := keepcell hb (pastcell (x := .cells #[.int .i64 2, .int .i64 lo, .int .i64 hi, .int .i64 mx, .bool nl] 37) (newcell (w := w) (cs := #[.int .i64 2, .int .i64 n, .string s]) (T := 23) (g := w.heap.size) 2 (.string s) rfl rfl))
          have f0 := keepcell hb (newcell (w := w.alloc (.cells #[.int .i64 2, .int .i64 n, .string s] 23)) (cs := #[.int .i64 2, .int .i64 lo, .int .i64 hi, .int .i64 mx, .bool nl]) (T := 37) (g := w.heap.size + 1) 0 (.int .i64 2) (by simp) rfl)
          have f1 := keepcell hb (newcell (w := w.alloc (.cells #[.int .i64 2, .int .i64 n, .string s] 23)) (cs := #[.int .i64 2, .int .i64 lo, .int .i64 hi, .int .i64 mx, .bool nl]) (T := 37) (g := w.heap.size + 1) 1 (.int .i64 lo) (by simp) rfl)
          have f2 := keepcell hb (newcell (w := w.alloc (.cells #[.int .i64 2, .int .i64 n, .string s] 23)) (cs := #[.int .i64 2, .int .i64 lo, .int .i64 hi, .int .i64 mx, .bool nl]) (T := 37) (g := w.heap.size + 1) 2 (.int .i64 hi) (by simp) rfl)
          have f3 := keepcell hb (newcell (w := w.alloc (.cells #[.int .i64 2, .int .i64 n, .string s] 23)) (cs := #[.int .i64 2, .int .i64 lo, .int .i64 hi, .int .i64 mx, .bool nl]) (T := 37) (g := w.heap.size + 1) 3 (.int .i64 mx) (by simp) rfl)
          have f4 := keepcell hb (newcell (w := w.alloc (.cells #[.int .i64 2, .int .i64 n, .string s] 23)) (cs := #[.int .i64 2, .int .i64 lo, .int .i64 hi, .int .i64 mx, .bool nl]) (T := 37) (g := w.heap.size + 1) 4 (.bool nl) (by simp) rfl)
          have HB := Lib.hid (B0.out.trans (hb.mono B0.out.size))
          go_wp2
          go_ret
          exact ⟨rfl, HB.out⟩
        · skip
          go_enter Tryd.func24, Tryd.ntmps24
          go_wp2_with fail
          refine (HV.out _).mono ?_
          rintro e w1 ⟨rfl, hb⟩
          have e0 := keepcell hb (pastcell (x := .cells #[.int .i64 2, .int .i64 lo, .int .i64 hi, .int .i64 mx, .bool nl] 37) (newcell (w := w) (cs := #[.int .i64 2, .int .i64 n, .string s]) (T := 23) (g := w.heap.size) 0 (.int .i64 2) rfl rfl))
          have e1 := keepcell hb (pastcell (x := .cells #[.int .i64 2, .int .i64 lo, .int .i64 hi, .int .i64 mx, .bool nl] 37) (newcell (w := w) (cs := #[.int .i64 2, .int .i64 n, .string s]) (T := 23) (g := w.heap.size) 1 (.int .i64 n) rfl rfl))
          have e2 := keepcell hb (pastcell (x := .cells #[.int .i64 2, .int .i64 lo, .int .i64 hi, .int .i64 mx, .bool nl] 37) (newcell (w := w) (cs := #[.int .i64 2, .int .i64 n, .string s]) (T := 23) (g := w.heap.size) 2 (.string s) rfl rfl))
          have f0 := keepcell hb (newcell (w := w.alloc (.cells #[.int .i64 2, .int .i64 n, .string s] 23)) (cs := #[.int .i64 2, .int .i64 lo, .int .i64 hi, .int .i64 mx, .bool nl]) (T := 37) (g := w.heap.size + 1) 0 (.int .i64 2) (by simp) rfl)
          have f1 := keepcell hb (newcell (w := w.alloc (.cells #[.int .i64 2, .int .i64 n, .string s] 23)) (cs := #[.int .i64 2, .int .i64 lo, .int .i64 hi, .int .i64 mx, .bool nl]) (T := 37) (g := w.heap.size + 1) 1 (.int .i64 lo) (by simp) rfl)
          have f2 := keepcell hb (newcell (w := w.alloc (.cells #[.int .i64 2, .int .i64 n, .string s] 23)) (cs := #[.int .i64 2, .int .i64 lo, .int .i64 hi, .int .i64 mx, .bool nl]) (T := 37) (g := w.heap.size + 1) 2 (.int .i64 hi) (by simp) rfl)
          have f3 := keepcell hb (newcell (w := w.alloc (.cells #[.int .i64 2, .int .i64 n, .string s] 23)) (cs := #[.int .i64 2, .int .i64 lo, .int .i64 hi, .int .i64 mx, .bool nl]) (T := 37) (g := w.heap.size + 1) 3 (.int .i64 mx) (by simp) rfl)
          have f4 := keepcell hb (newcell (w := w.alloc (.cells #[.int .i64 2, .int .i64 n, .string s] 23)) (cs := #[.int .i64 2, .int .i64 lo, .int .i64 hi, .int .i64 mx, .bool nl]) (T := 37) (g := w.heap.size + 1) 4 (.bool nl) (by simp) rfl)
          have HB := Lib.hid (B0.out.trans (hb.mono B0.out.size))
          go_wp2
          go_ret
          exact ⟨rfl, HB.out⟩
      · have q : f = false := HX.out.trans (if_neg ht)
        have d1 : (t == 2) = false := by simpa using ht
        subst q
        go_enter Tryd.func24, Tryd.ntmps24
        go_wp2_with fail
        refine (HV.out _).mono ?_
        rintro e w1 ⟨rfl, hb⟩
        have e0 := keepcell hb (pastcell (x := .cells #[.int .i64 t, .int .i64 lo, .int .i64 hi, .int .i64 mx, .bool nl] 37) (newcell (w := w) (cs := #[.int .i64 2, .int .i64 n, .string s]) (T := 23) (g := w.heap.size) 0 (.int .i64 2) rfl rfl))
        have e1 := keepcell hb (pastcell (x := .cells #[.int .i64 t, .int .i64 lo, .int .i64 hi, .int .i64 mx, .bool nl] 37) (newcell (w := w) (cs := #[.int .i64 2, .int .i64 n, .string s]) (T := 23) (g := w.heap.size) 1 (.int .i64 n) rfl rfl))
        have e2 := keepcell hb (pastcell (x := .cells #[.int .i64 t, .int .i64 lo, .int .i64 hi, .int .i64 mx, .bool nl] 37) (newcell (w := w) (cs := #[.int .i64 2, .int .i64 n, .string s]) (T := 23) (g := w.heap.size) 2 (.string s) rfl rfl))
        have f0 := keepcell hb (newcell (w := w.alloc (.cells #[.int .i64 2, .int .i64 n, .string s] 23)) (cs := #[.int .i64 t, .int .i64 lo, .int .i64 hi, .int .i64 mx, .bool nl]) (T := 37) (g := w.heap.size + 1) 0 (.int .i64 t) (by simp) rfl)
        have f1 := keepcell hb (newcell (w := w.alloc (.cells #[.int .i64 2, .int .i64 n, .string s] 23)) (cs := #[.int .i64 t, .int .i64 lo, .int .i64 hi, .int .i64 mx, .bool nl]) (T := 37) (g := w.heap.size + 1) 1 (.int .i64 lo) (by simp) rfl)
        have f2 := keepcell hb (newcell (w := w.alloc (.cells #[.int .i64 2, .int .i64 n, .string s] 23)) (cs := #[.int .i64 t, .int .i64 lo, .int .i64 hi, .int .i64 mx, .bool nl]) (T := 37) (g := w.heap.size + 1) 2 (.int .i64 hi) (by simp) rfl)
        have f3 := keepcell hb (newcell (w := w.alloc (.cells #[.int .i64 2, .int .i64 n, .string s] 23)) (cs := #[.int .i64 t, .int .i64 lo, .int .i64 hi, .int .i64 mx, .bool nl]) (T := 37) (g := w.heap.size + 1) 3 (.int .i64 mx) (by simp) rfl)
        have f4 := keepcell hb (newcell (w := w.alloc (.cells #[.int .i64 2, .int .i64 n, .string s] 23)) (cs := #[.int .i64 t, .int .i64 lo, .int .i64 hi, .int .i64 mx, .bool nl]) (T := 37) (g := w.heap.size + 1) 4 (.bool nl) (by simp) rfl)
        have HB := Lib.hid (B0.out.trans (hb.mono B0.out.size))
        go_wp2
        go_ret
        exact ⟨rfl, HB.out⟩

set_option maxHeartbeats 1000000 in
theorem RFits_any (k n : Int) (s : ByteArray) (t lo hi mx : Int) (nl : Bool) (w : World) (hs : s.size ≤ 9223372036854775807) :
    Calls Tryd.prog 25 #[.agg #[.int .i64 k, .int .i64 n, .string s], .agg #[.int .i64 t, .int .i64 lo, .int .i64 hi, .int .i64 mx, .bool nl]] w fun e w' => e = .returned (.bool (fitsB ⟨k, n, s⟩ t lo hi mx nl)) ∧ Below w.heap.size w w' := by
  have HV := Lib.hid (fun w => Valid_any k n s w hs)
  have HX : Hid (fitsB ⟨k, n, s⟩ t lo hi mx nl = if V3.valid ⟨k, n, s⟩ = false then false else if k = 1 then (if t = 1 then (if lo ≤ n then decide (n ≤ hi) else false) else false) else if k = 2 then (if t = 2 then decide ((s.size : Int) ≤ mx) else false) else nl) := Lib.hid rfl
  have HK : Hid (V3.valid ⟨k, n, s⟩ = true → k = 0 ∨ k = 1 ∨ k = 2) := Lib.hid valid_kind
  have B0 := Lib.hid (((Below.refl w.heap.size w).alloc (Nat.le_refl _) (.cells #[.int .i64 k, .int .i64 n, .string s] 23)).alloc (by simp) (.cells #[.int .i64 t, .int .i64 lo, .int .i64 hi, .int .i64 mx, .bool nl] 37))
  generalize hv : V3.valid ⟨k, n, s⟩ = v at *
  generalize hf : fitsB ⟨k, n, s⟩ t lo hi mx nl = f at *
  clear hv hf
  cases v
  · have q := HX.out.trans (if_pos rfl)
    subst q
    go_enter Tryd.func25, Tryd.ntmps25
    go_wp2_with (go_at_call 14; refine (HV.out _).mono ?_; rintro e w1 ⟨rfl, hb⟩)
    go_ret
    exact ⟨rfl, B0.out.trans (hb.mono (by simp; omega))⟩
  · have HX := Lib.hid (HX.out.trans (if_neg (by decide)))
    rcases HK.out rfl with hk | hk | hk
    · subst hk
      rw [(HX.out.trans rfl : f = nl)]
      clear HX
      go_enter Tryd.func25, Tryd.ntmps25
      go_wp2_with fail
      refine (HV.out _).mono ?_
      rintro e w1 ⟨rfl, hb⟩
      have e0 := keepcell hb (pastcell (x := .cells #[.int .i64 t, .int .i64 lo, .int .i64 hi, .int .i64 mx, .bool nl] 37) (newcell (w := w) (cs := #[.int .i64 0, .int .i64 n, .string s]) (T := 23) (g := w.heap.size) 0 (.int .i64 0) rfl rfl))
      have e1 := keepcell hb (pastcell (x := .cells #[.int .i64 t, .int .i64 lo, .int .i64 hi, .int .i64 mx, .bool nl] 37) (newcell (w := w) (cs := #[.int .i64 0, .int .i64 n, .string s]) (T := 23) (g := w.heap.size) 1 (.int .i64 n) rfl rfl))
      have e2 := keepcell hb (pastcell (x := .cells #[.int .i64 t, .int .i64 lo, .int .i64 hi, .int .i64 mx, .bool nl] 37) (newcell (w := w) (cs := #[.int .i64 0, .int .i64 n, .string s]) (T := 23) (g := w.heap.size) 2 (.string s) rfl rfl))
      have f0 := keepcell hb (newcell (w := w.alloc (.cells #[.int .i64 0, .int .i64 n, .string s] 23)) (cs := #[.int .i64 t, .int .i64 lo, .int .i64 hi, .int .i64 mx, .bool nl]) (T := 37) (g := w.heap.size + 1) 0 (.int .i64 t) (by simp) rfl)
      have f1 := keepcell hb (newcell (w := w.alloc (.cells #[.int .i64 0, .int .i64 n, .string s] 23)) (cs := #[.int .i64 t, .int .i64 lo, .int .i64 hi, .int .i64 mx, .bool nl]) (T := 37) (g := w.heap.size + 1) 1 (.int .i64 lo) (by simp) rfl)
      have f2 := keepcell hb (newcell (w := w.alloc (.cells #[.int .i64 0, .int .i64 n, .string s] 23)) (cs := #[.int .i64 t, .int .i64 lo, .int .i64 hi, .int .i64 mx, .bool nl]) (T := 37) (g := w.heap.size + 1) 2 (.int .i64 hi) (by simp) rfl)
      have f3 := keepcell hb (newcell (w := w.alloc (.cells #[.int .i64 0, .int .i64 n, .string s] 23)) (cs := #[.int .i64 t, .int .i64 lo, .int .i64 hi, .int .i64 mx, .bool nl]) (T := 37) (g := w.heap.size + 1) 3 (.int .i64 mx) (by simp) rfl)
      have f4 := keepcell hb (newcell (w := w.alloc (.cells #[.int .i64 0, .int .i64 n, .string s] 23)) (cs := #[.int .i64 t, .int .i64 lo, .int .i64 hi, .int .i64 mx, .bool nl]) (T := 37) (g := w.heap.size + 1) 4 (.bool nl) (by simp) rfl)
      have HB := Lib.hid (B0.out.trans (hb.mono B0.out.size))
      go_wp2
      go_ret
      exact ⟨rfl, HB.out⟩
    · subst hk
      have HX : Hid (f = if t = 1 then (if lo ≤ n then decide (n ≤ hi) else false) else false) := Lib.hid (HX.out.trans rfl)
      by_cases ht : t = 1
      · subst ht
        by_cases hl : lo ≤ n
        · have q : f = decide (n ≤ hi) := HX.out.trans ((if_pos rfl).trans (if_pos hl))
          have d1 : decide (lo ≤ n) = true := decide_eq_true hl
          have d1b : decide (n ≥ lo) = true := decide_eq_true hl
          rcases d2 : decide (n ≤ hi) with _ | _ <;> rw [d2] at q <;> subst q
          · skip
            go_enter Tryd.func25, Tryd.ntmps25
            go_wp2_with fail
            refine (HV.out _).mono ?_
            rintro e w1 ⟨rfl, hb⟩
            have e0 := keepcell hb (pastcell (x := .cells #[.int .i64 1, .int .i64 lo, .int .i64 hi, .int .i64 mx, .bool nl] 37) (newcell (w := w) (cs := #[.int .i64 1, .int .i64 n, .string s]) (T := 23) (g := w.heap.size) 0 (.int .i64 1) rfl rfl))
            have e1 := keepcell hb (pastcell (x := .cells #[.int .i64 1, .int .i64 lo, .int .i64 hi, .int .i64 mx, .bool nl] 37) (newcell (w := w) (cs := #[.int .i64 1, .int .i64 n, .string s]) (T := 23) (g := w.heap.size) 1 (.int .i64 n) rfl rfl))
            have e2 := keepcell hb (pastcell (x := .cells #[.int .i64 1, .int .i64 lo, .int .i64 hi, .int .i64 mx, .bool nl] 37) (newcell (w := w) (cs := #[.int .i64 1, .int .i64 n, .string s]) (T := 23) (g := w.heap.size) 2 (.string s) rfl rfl))
            have f0 := keepcell hb (newcell (w := w.alloc (.cells #[.int .i64 1, .int .i64 n, .string s] 23)) (cs := #[.int .i64 1, .int .i64 lo, .int .i64 hi, .int .i64 mx, .bool nl]) (T := 37) (g := w.heap.size + 1) 0 (.int .i64 1) (by simp) rfl)
            have f1 := keepcell hb (newcell (w := w.alloc (.cells #[.int .i64 1, .int .i64 n, .string s] 23)) (cs := #[.int .i64 1, .int .i64 lo, .int .i64 hi, .int .i64 mx, .bool nl]) (T := 37) (g := w.heap.size + 1) 1 (.int .i64 lo) (by simp) rfl)
            have f2 := keepcell hb (newcell (w := w.alloc (.cells #[.int .i64 1, .int .i64 n, .string s] 23)) (cs := #[.int .i64 1, .int .i64 lo, .int .i64 hi, .int .i64 mx, .bool nl]) (T := 37) (g := w.heap.size + 1) 2 (.int .i64 hi) (by simp) rfl)
            have f3 := keepcell hb (newcell (w := w.alloc (.cells #[.int .i64 1, .int .i64 n, .string s] 23)) (cs := #[.int .i64 1, .int .i64 lo, .int .i64 hi, .int .i64 mx, .bool nl]) (T := 37) (g := w.heap.size + 1) 3 (.int .i64 mx) (by simp) rfl)
            have f4 := keepcell hb (newcell (w := w.alloc (.cells #[.int .i64 1, .int .i64 n, .string s] 23)) (cs := #[.int .i64 1, .int .i64 lo, .int .i64 hi, .int .i64 mx, .bool nl]) (T := 37) (g := w.heap.size + 1) 4 (.bool nl) (by simp) rfl)
            have HB := Lib.hid (B0.out.trans (hb.mono B0.out.size))
            go_wp2
            go_ret
            exact ⟨rfl, HB.out⟩
          · skip
            go_enter Tryd.func25, Tryd.ntmps25
            go_wp2_with fail
            refine (HV.out _).mono ?_
            rintro e w1 ⟨rfl, hb⟩
            have e0 := keepcell hb (pastcell (x := .cells #[.int .i64 1, .int .i64 lo, .int .i64 hi, .int .i64 mx, .bool nl] 37) (newcell (w := w) (cs := #[.int .i64 1, .int .i64 n, .string s]) (T := 23) (g := w.heap.size) 0 (.int .i64 1) rfl rfl))
            have e1 := keepcell hb (pastcell (x := .cells #[.int .i64 1, .int .i64 lo, .int .i64 hi, .int .i64 mx, .bool nl] 37) (newcell (w := w) (cs := #[.int .i64 1, .int .i64 n, .string s]) (T := 23) (g := w.heap.size) 1 (.int .i64 n) rfl rfl))
            have e2 := keepcell hb (pastcell (x := .cells #[.int .i64 1, .int .i64 lo, .int .i64 hi, .int .i64 mx, .bool nl] 37) (newcell (w := w) (cs := #[.int .i64 1, .int .i64 n, .string s]) (T := 23) (g := w.heap.size) 2 (.string s) rfl rfl))
            have f0 := keepcell hb (newcell (w := w.alloc (.cells #[.int .i64 1, .int .i64 n, .string s] 23)) (cs := #[.int .i64 1, .int .i64 lo, .int .i64 hi, .int .i64 mx, .bool nl]) (T := 37) (g := w.heap.size + 1) 0 (.int .i64 1) (by simp) rfl)
            have f1 := keepcell hb (newcell (w := w.alloc (.cells #[.int .i64 1, .int .i64 n, .string s] 23)) (cs := #[.int .i64 1, .int .i64 lo, .int .i64 hi, .int .i64 mx, .bool nl]) (T := 37) (g := w.heap.size + 1) 1 (.int .i64 lo) (by simp) rfl)
            have f2 := keepcell hb (newcell (w := w.alloc (.cells #[.int .i64 1, .int .i64 n, .string s] 23)) (cs := #[.int .i64 1, .int .i64 lo, .int .i64 hi, .int .i64 mx, .bool nl]) (T := 37) (g := w.heap.size + 1) 2 (.int .i64 hi) (by simp) rfl)
            have f3 := keepcell hb (newcell (w := w.alloc (.cells #[.int .i64 1, .int .i64 n, .string s] 23)) (cs := #[.int .i64 1, .int .i64 lo, .int .i64 hi, .int .i64 mx, .bool nl]) (T := 37) (g := w.heap.size + 1) 3 (.int .i64 mx) (by simp) rfl)
            have f4 := keepcell hb (newcell (w := w.alloc (.cells #[.int .i64 1, .int .i64 n, .string s] 23)) (cs := #[.int .i64 1, .int .i64 lo, .int .i64 hi, .int .i64 mx, .bool nl]) (T := 37) (g := w.heap.size + 1) 4 (.bool nl) (by simp) rfl)
            have HB := Lib.hid (B0.out.trans (hb.mono B0.out.size))
            go_wp2
            go_ret
            exact ⟨rfl, HB.out⟩
        · have q : f = false := HX.out.trans ((if_pos rfl).trans (if_neg hl))
          have d1 : decide (lo ≤ n) = false := decide_eq_false hl
          have d1b : decide (n ≥ lo) = false := decide_eq_false hl
          subst q
          go_enter Tryd.func25, Tryd.ntmps25
          go_wp2_with fail
          refine (HV.out _).mono ?_
          rintro e w1 ⟨rfl, hb⟩
          have e0 := keepcell hb (pastcell (x := .cells #[.int .i64 1, .int .i64 lo, .int .i64 hi, .int .i64 mx, .bool nl] 37) (newcell (w := w) (cs := #[.int .i64 1, .int .i64 n, .string s]) (T := 23) (g := w.heap.size) 0 (.int .i64 1) rfl rfl))
          have e1 := keepcell hb (pastcell (x := .cells #[.int .i64 1, .int .i64 lo, .int .i64 hi, .int .i64 mx, .bool nl] 37) (newcell (w := w) (cs := #[.int .i64 1, .int .i64 n, .string s]) (T := 23) (g := w.heap.size) 1 (.int .i64 n) rfl rfl))
          have e2 := keepcell hb (pastcell (x := .cells #[.int .i64 1, .int .i64 lo, .int .i64 hi, .int .i64 mx, .bool nl] 37) (newcell (w := w) (cs := #[.int .i64 1, .int .i64 n, .string s]) (T := 23) (g := w.heap.size) 2 (.string s) rfl rfl))
          have f0 := keepcell hb (newcell (w := w.alloc (.cells #[.int .i64 1, .int .i64 n, .string s] 23)) (cs := #[.int .i64 1, .int .i64 lo, .int .i64 hi, .int .i64 mx, .bool nl]) (T := 37) (g := w.heap.size + 1) 0 (.int .i64 1) (by simp) rfl)
          have f1 := keepcell hb (newcell (w := w.alloc (.cells #[.int .i64 1, .int .i64 n, .string s] 23)) (cs := #[.int .i64 1, .int .i64 lo, .int .i64 hi, .int .i64 mx, .bool nl]) (T := 37) (g := w.heap.size + 1) 1 (.int .i64 lo) (by simp) rfl)
          have f2 := keepcell hb (newcell (w := w.alloc (.cells #[.int .i64 1, .int .i64 n, .string s] 23)) (cs := #[.int .i64 1, .int .i64 lo, .int .i64 hi, .int .i64 mx, .bool nl]) (T := 37) (g := w.heap.size + 1) 2 (.int .i64 hi) (by simp) rfl)
          have f3 := keepcell hb (newcell (w := w.alloc (.cells #[.int .i64 1, .int .i64 n, .string s] 23)) (cs := #[.int .i64 1, .int .i64 lo, .int .i64 hi, .int .i64 mx, .bool nl]) (T := 37) (g := w.heap.size + 1) 3 (.int .i64 mx) (by simp) rfl)
          have f4 := keepcell hb (newcell (w := w.alloc (.cells #[.int .i64 1, .int .i64 n, .string s] 23)) (cs := #[.int .i64 1, .int .i64 lo, .int .i64 hi, .int .i64 mx, .bool nl]) (T := 37) (g := w.heap.size + 1) 4 (.bool nl) (by simp) rfl)
          have HB := Lib.hid (B0.out.trans (hb.mono B0.out.size))
          go_wp2
          go_ret
          exact ⟨rfl, HB.out⟩
      · have q : f = false := HX.out.trans (if_neg ht)
        have d1 : (t == 1) = false := by simpa using ht
        subst q
        go_enter Tryd.func25, Tryd.ntmps25
        go_wp2_with fail
        refine (HV.out _).mono ?_
        rintro e w1 ⟨rfl, hb⟩
        have e0 := keepcell hb (pastcell (x := .cells #[.int .i64 t, .int .i64 lo, .int .i64 hi, .int .i64 mx, .bool nl] 37) (newcell (w := w) (cs := #[.int .i64 1, .int .i64 n, .string s]) (T := 23) (g := w.heap.size) 0 (.int .i64 1) rfl rfl))
        have e1 := keepcell hb (pastcell (x := .cells #[.int .i64 t, .int .i64 lo, .int .i64 hi, .int .i64 mx, .bool nl] 37) (newcell (w := w) (cs := #[.int .i64 1, .int .i64 n, .string s]) (T := 23) (g := w.heap.size) 1 (.int .i64 n) rfl rfl))
        have e2 := keepcell hb (pastcell (x := .cells #[.int .i64 t, .int .i64 lo, .int .i64 hi, .int .i64 mx, .bool nl] 37) (newcell (w := w) (cs := #[.int .i64 1, .int .i64 n, .string s]) (T := 23) (g := w.heap.size) 2 (.string s) rfl rfl))
        have f0 := keepcell hb (newcell (w := w.alloc (.cells #[.int .i64 1, .int .i64 n, .string s] 23)) (cs := #[.int .i64 t, .int .i64 lo, .int .i64 hi, .int .i64 mx, .bool nl]) (T := 37) (g := w.heap.size + 1) 0 (.int .i64 t) (by simp) rfl)
        have f1 := keepcell hb (newcell (w := w.alloc (.cells #[.int .i64 1, .int .i64 n, .string s] 23)) (cs := #[.int .i64 t, .int .i64 lo, .int .i64 hi, .int .i64 mx, .bool nl]) (T := 37) (g := w.heap.size + 1) 1 (.int .i64 lo) (by simp) rfl)
        have f2 := keepcell hb (newcell (w := w.alloc (.cells #[.int .i64 1, .int .i64 n, .string s] 23)) (cs := #[.int .i64 t, .int .i64 lo, .int .i64 hi, .int .i64 mx, .bool nl]) (T := 37) (g := w.heap.size + 1) 2 (.int .i64 hi) (by simp) rfl)
        have f3 := keepcell hb (newcell (w := w.alloc (.cells #[.int .i64 1, .int .i64 n, .string s] 23)) (cs := #[.int .i64 t, .int .i64 lo, .int .i64 hi, .int .i64 mx, .bool nl]) (T := 37) (g := w.heap.size + 1) 3 (.int .i64 mx) (by simp) rfl)
        have f4 := keepcell hb (newcell (w := w.alloc (.cells #[.int .i64 1, .int .i64 n, .string s] 23)) (cs := #[.int .i64 t, .int .i64 lo, .int .i64 hi, .int .i64 mx, .bool nl]) (T := 37) (g := w.heap.size + 1) 4 (.bool nl) (by simp) rfl)
        have HB := Lib.hid (B0.out.trans (hb.mono B0.out.size))
        go_wp2
        go_ret
        exact ⟨rfl, HB.out⟩
    · subst hk
      have HX : Hid (f = if t = 2 then decide ((s.size : Int) ≤ mx) else false) := Lib.hid (HX.out.trans rfl)
      by_cases ht : t = 2
      · subst ht
        have q : f = decide ((s.size : Int) ≤ mx) := HX.out.trans (if_pos rfl)
        rcases d2 : decide ((s.size : Int) ≤ mx) with _ | _ <;> rw [d2] at q <;> subst q
        · skip
          go_enter Tryd.func25, Tryd.ntmps25
          go_wp2_with fail
          refine (HV.out _).mono ?_
          rintro e w1 ⟨rfl, hb⟩
          have e0 := keepcell hb (pastcell (x := .cells #[.int .i64 2, .int .i64 lo, .int .i64 hi, .int .i64 mx, .bool nl] 37) (newcell (w := w) (cs := #[.int .i64 2, .int .i64 n, .string s]) (T := 23) (g := w.heap.size) 0 (.int .i64 2) rfl rfl))
          have e1 := keepcell hb (pastcell (x := .cells #[.int .i64 2, .int .i64 lo, .int .i64 hi, .int .i64 mx, .bool nl] 37) (newcell (w := w) (cs := #[.int .i64 2, .int .i64 n, .string s]) (T := 23) (g := w.heap.size) 1 (.int .i64 n) rfl rfl))
          have e2 := keepcell hb (pastcell (x := .cells #[.int .i64 2, .int .i64 lo, .int .i64 hi, .int .i64 mx, .bool nl] 37) (newcell (w := w) (cs := #[.int .i64 2, .int .i64 n, .string s]) (T := 23) (g := w.heap.size) 2 (.string s) rfl rfl))
          have f0 := keepcell hb (newcell (w := w.alloc (.cells #[.int .i64 2, .int .i64 n, .string s] 23)) (cs := #[.int .i64 2, .int .i64 lo, .int .i64 hi, .int .i64 mx, .bool nl]) (T := 37) (g := w.heap.size + 1) 0 (.int .i64 2) (by simp) rfl)
          have f1 := keepcell hb (newcell (w := w.alloc (.cells #[.int .i64 2, .int .i64 n, .string s] 23)) (cs := #[.int .i64 2, .int .i64 lo, .int .i64 hi, .int .i64 mx, .bool nl]) (T := 37) (g := w.heap.size + 1) 1 (.int .i64 lo) (by simp) rfl)
          have f2 := keepcell hb (newcell (w := w.alloc (.cells #[.int .i64 2, .int .i64 n, .string s] 23)) (cs := #[.int .i64 2, .int .i64 lo, .int .i64 hi, .int .i64 mx, .bool nl]) (T := 37) (g := w.heap.size + 1) 2 (.int .i64 hi) (by simp) rfl)
          have f3 := keepcell hb (newcell (w := w.alloc (.cells #[.int .i64 2, .int .i64 n, .string s] 23)) (cs := #[.int .i64 2, .int .i64 lo, .int .i64 hi, .int .i64 mx, .bool nl]) (T := 37) (g := w.heap.size + 1) 3 (.int .i64 mx) (by simp) rfl)
          have f4 := keepcell hb (newcell (w := w.alloc (.cells #[.int .i64 2, .int .i64 n, .string s] 23)) (cs := #[.int .i64 2, .int .i64 lo, .int .i64 hi, .int .i64 mx, .bool nl]) (T := 37) (g := w.heap.size + 1) 4 (.bool nl) (by simp) rfl)
          have HB := Lib.hid (B0.out.trans (hb.mono B0.out.size))
          go_wp2
          go_ret
          exact ⟨rfl, HB.out⟩
        · skip
          go_enter Tryd.func25, Tryd.ntmps25
          go_wp2_with fail
          refine (HV.out _).mono ?_
          rintro e w1 ⟨rfl, hb⟩
          have e0 := keepcell hb (pastcell (x := .cells #[.int .i64 2, .int .i64 lo, .int .i64 hi, .int .i64 mx, .bool nl] 37) (newcell (w := w) (cs := #[.int .i64 2, .int .i64 n, .string s]) (T := 23) (g := w.heap.size) 0 (.int .i64 2) rfl rfl))
          have e1 := keepcell hb (pastcell (x := .cells #[.int .i64 2, .int .i64 lo, .int .i64 hi, .int .i64 mx, .bool nl] 37) (newcell (w := w) (cs := #[.int .i64 2, .int .i64 n, .string s]) (T := 23) (g := w.heap.size) 1 (.int .i64 n) rfl rfl))
          have e2 := keepcell hb (pastcell (x := .cells #[.int .i64 2, .int .i64 lo, .int .i64 hi, .int .i64 mx, .bool nl] 37) (newcell (w := w) (cs := #[.int .i64 2, .int .i64 n, .string s]) (T := 23) (g := w.heap.size) 2 (.string s) rfl rfl))
          have f0 := keepcell hb (newcell (w := w.alloc (.cells #[.int .i64 2, .int .i64 n, .string s] 23)) (cs := #[.int .i64 2, .int .i64 lo, .int .i64 hi, .int .i64 mx, .bool nl]) (T := 37) (g := w.heap.size + 1) 0 (.int .i64 2) (by simp) rfl)
          have f1 := keepcell hb (newcell (w := w.alloc (.cells #[.int .i64 2, .int .i64 n, .string s] 23)) (cs := #[.int .i64 2, .int .i64 lo, .int .i64 hi, .int .i64 mx, .bool nl]) (T := 37) (g := w.heap.size + 1) 1 (.int .i64 lo) (by simp) rfl)
          have f2 := keepcell hb (newcell (w := w.alloc (.cells #[.int .i64 2, .int .i64 n, .string s] 23)) (cs := #[.int .i64 2, .int .i64 lo, .int .i64 hi, .int .i64 mx, .bool nl]) (T := 37) (g := w.heap.size + 1) 2 (.int .i64 hi) (by simp) rfl)
          have f3 := keepcell hb (newcell (w := w.alloc (.cells #[.int .i64 2, .int .i64 n, .string s] 23)) (cs := #[.int .i64 2, .int .i64 lo, .int .i64 hi, .int .i64 mx, .bool nl]) (T := 37) (g := w.heap.size + 1) 3 (.int .i64 mx) (by simp) rfl)
          have f4 := keepcell hb (newcell (w := w.alloc (.cells #[.int .i64 2, .int .i64 n, .string s] 23)) (cs := #[.int .i64 2, .int .i64 lo, .int .i64 hi, .int .i64 mx, .bool nl]) (T := 37) (g := w.heap.size + 1) 4 (.bool nl) (by simp) rfl)
          have HB := Lib.hid (B0.out.trans (hb.mono B0.out.size))
          go_wp2
          go_ret
          exact ⟨rfl, HB.out⟩
      · have q : f = false := HX.out.trans (if_neg ht)
        have d1 : (t == 2) = false := by simpa using ht
        subst q
        go_enter Tryd.func25, Tryd.ntmps25
        go_wp2_with fail
        refine (HV.out _).mono ?_
        rintro e w1 ⟨rfl, hb⟩
        have e0 := keepcell hb (pastcell (x := .cells #[.int .i64 t, .int .i64 lo, .int .i64 hi, .int .i64 mx, .bool nl] 37) (newcell (w := w) (cs := #[.int .i64 2, .int .i64 n, .string s]) (T := 23) (g := w.heap.size) 0 (.int .i64 2) rfl rfl))
        have e1 := keepcell hb (pastcell (x := .cells #[.int .i64 t, .int .i64 lo, .int .i64 hi, .int .i64 mx, .bool nl] 37) (newcell (w := w) (cs := #[.int .i64 2, .int .i64 n, .string s]) (T := 23) (g := w.heap.size) 1 (.int .i64 n) rfl rfl))
        have e2 := keepcell hb (pastcell (x := .cells #[.int .i64 t, .int .i64 lo, .int .i64 hi, .int .i64 mx, .bool nl] 37) (newcell (w := w) (cs := #[.int .i64 2, .int .i64 n, .string s]) (T := 23) (g := w.heap.size) 2 (.string s) rfl rfl))
        have f0 := keepcell hb (newcell (w := w.alloc (.cells #[.int .i64 2, .int .i64 n, .string s] 23)) (cs := #[.int .i64 t, .int .i64 lo, .int .i64 hi, .int .i64 mx, .bool nl]) (T := 37) (g := w.heap.size + 1) 0 (.int .i64 t) (by simp) rfl)
        have f1 := keepcell hb (newcell (w := w.alloc (.cells #[.int .i64 2, .int .i64 n, .string s] 23)) (cs := #[.int .i64 t, .int .i64 lo, .int .i64 hi, .int .i64 mx, .bool nl]) (T := 37) (g := w.heap.size + 1) 1 (.int .i64 lo) (by simp) rfl)
        have f2 := keepcell hb (newcell (w := w.alloc (.cells #[.int .i64 2, .int .i64 n, .string s] 23)) (cs := #[.int .i64 t, .int .i64 lo, .int .i64 hi, .int .i64 mx, .bool nl]) (T := 37) (g := w.heap.size + 1) 2 (.int .i64 hi) (by simp) rfl)
        have f3 := keepcell hb (newcell (w := w.alloc (.cells #[.int .i64 2, .int .i64 n, .string s] 23)) (cs := #[.int .i64 t, .int .i64 lo, .int .i64 hi, .int .i64 mx, .bool nl]) (T := 37) (g := w.heap.size + 1) 3 (.int .i64 mx) (by simp) rfl)
        have f4 := keepcell hb (newcell (w := w.alloc (.cells #[.int .i64 2, .int .i64 n, .string s] 23)) (cs := #[.int .i64 t, .int .i64 lo, .int .i64 hi, .int .i64 mx, .bool nl]) (T := 37) (g := w.heap.size + 1) 4 (.bool nl) (by simp) rfl)
        have HB := Lib.hid (B0.out.trans (hb.mono B0.out.size))
        go_wp2
        go_ret
        exact ⟨rfl, HB.out⟩
end Go.Proofs.YtkigdglipoeaaaaDoor
