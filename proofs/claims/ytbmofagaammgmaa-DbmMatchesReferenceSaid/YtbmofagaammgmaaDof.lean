/- Of: the bound that a constraint states. -/
import Derived.Test.YtbmofagaammgmaaDbo
import Derived.Test.YtbmofagaammgmaaDmk
import Derived.Test.YtbmofagaammgmaaApp
import Derived.Deep.Cut
namespace Go.Proofs.Ytbmofagaammgmaa
open Go.ChangeShapes Go.WideShapes Go.ChangeAt Go.RowKit Go.ChangeMaps

def cfc (x : Int × Int) : List Value := [.int .i64 x.1, .int .i64 x.2]
def Cfs (w : World) (A : Option Addr) (n : Nat) (C : List (Int × Int)) : Prop := At w A n 2 (C.flatMap cfc)
theorem Cfs.len {w : World} {A : Option Addr} {n : Nat} {C : List (Int × Int)} (h : Cfs w A n C) : C.length = n := by
  have := h.1
  rw [flat_len cfc 2 (fun _ => rfl)] at this
  omega
theorem Cfs.below {w w' : World} {A : Option Addr} {n : Nat} {C : List (Int × Int)} (h : Cfs w A n C) (hb : Below w.heap.size w w') : Cfs w' A n C := At.below h hb
theorem Cfs.at {w : World} {A : Option Addr} {n : Nat} {C : List (Int × Int)} (h : Cfs w A n C) (hn : 0 < n) : ∃ b off, A = some ⟨b, off, none⟩ ∧ b < w.heap.size ∧ ∀ (W : World), Below w.heap.size w W → ∀ i (hi : i < C.length),
    W.cell? ⟨b, off + i * 2, none⟩ = some (.int .i64 C[i].1) ∧ W.cell? ⟨b, off + i * 2 + 1, none⟩ = some (.int .i64 C[i].2) := by
  obtain ⟨b, off, e, hb, hc⟩ := h.2 hn
  refine ⟨b, off, e, hb, fun W hW i hi => ?_⟩
  have g : ∀ j u, j < 2 → (cfc C[i])[j]? = some u → W.cell? ⟨b, off + i * 2 + j, none⟩ = some u := fun j u hj hu => by
    rw [Nat.add_assoc]
    exact keepcell hW (hc _ _ ((flat_get cfc 2 (fun _ => rfl) C i j hi hj).trans hu))
  exact ⟨g 0 _ (by decide) rfl, g 1 _ (by decide) rfl⟩
theorem results_tmp4 {fn : Func} {t u v x : Tmp} (h : fn.results = #[.tmp t, .tmp u, .tmp v, .tmp x]) (tmps : Array Value) (P : Program) (w : World) :
    (results fn tmps).run P w = .ok (.tuple #[tmps.getD t undef, tmps.getD u undef, tmps.getD v undef, tmps.getD x undef]) w := by
  simp [results, h]
def ofV : Option (Int × Int × Int) → Value
  | none => .tuple #[.int .i64 0, .int .i64 0, .int .i64 0, .bool false]
  | some r => .tuple #[.int .i64 r.1, .int .i64 r.2.1, .int .i64 r.2.2, .bool true]
def OfP (r : Option (Int × Int × Int)) (w : World) (e : Ending) (w' : World) : Prop := e = .returned (ofV r) ∧ Below w.heap.size w w'
set_option maxRecDepth 100000 in
set_option maxHeartbeats 4000000 in
theorem Of_any (A : Option Addr) (m cap : Nat) (C : List (Int × Int)) (k : Int) (eq : Bool) (n : Int) (w : World) (h : Cfs w A m C) (hm : m ≤ 1000) (hn1 : -9223372036854775808 ≤ n) (hn2 : n ≤ 9223372036854775807) :
    Calls Try.prog 23 #[.agg #[.int .i64 k, .slice A m cap, .bool eq], .int .i64 n] w (OfP (ofM C k eq n) w) := by
  have HL := Lib.hid h.len
  have HA := Lib.hid h.at
  clear h
  by_cases h0 : eq = true ∨ k < -1125899906842624 ∨ k > 1125899906842624
  · have HR := Lib.hid (show ofM C k eq n = none by unfold ofM lim; rw [if_pos h0])
    obtain ⟨r, hr⟩ : ∃ r, ofM C k eq n = r := ⟨_, rfl⟩
    rw [hr] at HR ⊢
    clear hr
    cases eq
    · by_cases h1 : k < -1125899906842624
      · go_enter Try.func23, Try.ntmps23
        go_wp2
        ((try simp only [Exit.inBlock, Exit.then]); refine bodyPost_ret (results_tmp4 rfl _ _ _) rfl ?_)
        exact ⟨by rw [HR.out]; rfl, (Below.refl _ w).alloc (Nat.le_refl _) _⟩
      · have h2 : k > 1125899906842624 := by simpa [h1] using h0
        clear h0
        go_enter Try.func23, Try.ntmps23
        go_wp2
        ((try simp only [Exit.inBlock, Exit.then]); refine bodyPost_ret (results_tmp4 rfl _ _ _) rfl ?_)
        exact ⟨by rw [HR.out]; rfl, (Below.refl _ w).alloc (Nat.le_refl _) _⟩
    · clear h0
      go_enter Try.func23, Try.ntmps23
      go_wp2
      ((try simp only [Exit.inBlock, Exit.then]); refine bodyPost_ret (results_tmp4 rfl _ _ _) rfl ?_)
      exact ⟨by rw [HR.out]; rfl, (Below.refl _ w).alloc (Nat.le_refl _) _⟩
  · have he : eq = false := by cases eq <;> simp_all
    subst he
    have h1 : ¬ k < -1125899906842624 := fun h => h0 (.inr (.inl h))
    have h2 : ¬ k > 1125899906842624 := fun h => h0 (.inr (.inr h))
    have HR := Lib.hid (show ofM C k false n = (match ofL n C n n with | none => none | some p => if p.1 = p.2 then none else some (p.1, p.2, -k)) by unfold ofM lim; rw [if_neg h0]; cases ofL n C n n <;> rfl)
    obtain ⟨r, hr⟩ : ∃ r, ofM C k false n = r := ⟨_, rfl⟩
    rw [hr] at HR ⊢
    clear hr h0
    go_enter Try.func23, Try.ntmps23
    go_wp2
    go_loopw [4, 5, 30] (fun s4 s5 s30 wr => ∃ (q : Nat) (i j : Int), s30 = .int .i64 (q : Int) ∧ s4 = .int .i64 i ∧ s5 = .int .i64 j ∧ q ≤ m ∧ ofL n C n n = ofL n (C.drop q) i j ∧ Below w.heap.size w wr) (fun _ _ s30 _ => m - (intOf s30).toNat)
    case atStart => exact ⟨0, n, n, rfl, rfl, rfl, Nat.zero_le _, rfl, (Below.refl _ w).alloc (Nat.le_refl _) _⟩
    case round =>
      obtain ⟨q, i, j, rfl, rfl, rfl, hqm, hof, hB⟩ := hrel
      have HB := Lib.hid hB
      have hsz := hB.size
      have HOF := Lib.hid hof
      clear hB hof
      by_cases hlt : q < m
      · have hki : (q : Int) < m := by omega
        have hk0 : (0 : Int) ≤ (q : Int) := by omega
        obtain ⟨b, off, rfl, hbl, hc⟩ := HA.out (by omega)
        have hi' : q < C.length := by rw [HL.out]; exact hlt
        obtain ⟨c0, c1⟩ := hc wr HB.out q hi'
        have HST := Lib.hid (show ofL n (C.drop q) i j = if C[q].1 < 0 ∨ C[q].1 ≥ n then none else if C[q].2 = 1 ∧ i = n then ofL n (C.drop (q + 1)) C[q].1 j else if C[q].2 = -1 ∧ j = n then ofL n (C.drop (q + 1)) i C[q].1 else none by
          rw [List.drop_eq_getElem_cons hi']
          rfl)
        clear hc hbl
        generalize C[q] = x at *
        obtain ⟨xv, xn⟩ := x
        dsimp only at c0 c1 HST
        have hb2 := Lib.hid (HB.out.alloc (o := .cells #[.int .i64 xv, .int .i64 xn] 77) HB.out.size)
        by_cases g1 : xv < 0
        · have HN := Lib.hid (show ofL n C n n = none by rw [HOF.out, HST.out, if_pos (.inl g1)])
          go_wp2
          ((try simp only [Exit.inBlock, Exit.then]); refine bodyPost_ret (results_tmp4 rfl _ _ _) rfl ?_)
          exact ⟨by rw [HR.out, HN.out]; rfl, hb2.out⟩
        by_cases g2 : xv ≥ n
        · have HN := Lib.hid (show ofL n C n n = none by rw [HOF.out, HST.out, if_pos (.inr g2)])
          go_wp2
          ((try simp only [Exit.inBlock, Exit.then]); refine bodyPost_ret (results_tmp4 rfl _ _ _) rfl ?_)
          exact ⟨by rw [HR.out, HN.out]; rfl, hb2.out⟩
        have HN1 := Lib.hid (show ofL n C n n = if xn = 1 ∧ i = n then ofL n (C.drop (q + 1)) xv j else if xn = -1 ∧ j = n then ofL n (C.drop (q + 1)) i xv else none by rw [HOF.out, HST.out, if_neg (by omega)])
        by_cases g3 : xn = 1
        · subst g3
          by_cases g4 : i = n
          · have HN := Lib.hid (show ofL n C n n = ofL n (C.drop (q + 1)) xv j by rw [HN1.out, if_pos ⟨rfl, g4⟩])
            clear HN1 HST HOF
            go_wp2
            go_roundw
            case rel => exact ⟨q + 1, xv, j, by go_num, rfl, rfl, hlt, HN.out, hb2.out⟩
            case measure => simp [intOf]; omega
          · have g5 : ¬ (1 : Int) = -1 := by omega
            have HN := Lib.hid (show ofL n C n n = none by rw [HN1.out, if_neg (fun h => g4 h.2), if_neg (fun h => g5 h.1)])
            clear HN1 HST HOF
            go_wp2
            ((try simp only [Exit.inBlock, Exit.then]); refine bodyPost_ret (results_tmp4 rfl _ _ _) rfl ?_)
            exact ⟨by rw [HR.out, HN.out]; rfl, hb2.out⟩
        · by_cases g5 : xn = -1
          · subst g5
            by_cases g4 : j = n
            · have HN := Lib.hid (show ofL n C n n = ofL n (C.drop (q + 1)) i xv by rw [HN1.out, if_neg (fun h => g3 h.1), if_pos ⟨rfl, g4⟩])
              clear HN1 HST HOF
              go_wp2
              go_roundw
              case rel => exact ⟨q + 1, i, xv, by go_num, rfl, rfl, hlt, HN.out, hb2.out⟩
              case measure => simp [intOf]; omega
            · have HN := Lib.hid (show ofL n C n n = none by rw [HN1.out, if_neg (fun h => g3 h.1), if_neg (fun h => g4 h.2)])
              clear HN1 HST HOF
              go_wp2
              ((try simp only [Exit.inBlock, Exit.then]); refine bodyPost_ret (results_tmp4 rfl _ _ _) rfl ?_)
              exact ⟨by rw [HR.out, HN.out]; rfl, hb2.out⟩
          · have HN := Lib.hid (show ofL n C n n = none by rw [HN1.out, if_neg (fun h => g3 h.1), if_neg (fun h => g5 h.1)])
            clear HN1 HST HOF
            go_wp2
            ((try simp only [Exit.inBlock, Exit.then]); refine bodyPost_ret (results_tmp4 rfl _ _ _) rfl ?_)
            exact ⟨by rw [HR.out, HN.out]; rfl, hb2.out⟩
      · obtain rfl : m = q := by omega
        have hlt2 : ¬ ((m : Int) < (m : Int)) := by omega
        have HN := Lib.hid (show ofL n C n n = some (i, j) by rw [HOF.out, List.drop_of_length_le (by rw [HL.out]; exact Nat.le_refl _)]; rfl)
        by_cases hij : i = j
        · have HN2 := Lib.hid (show r = none by rw [HR.out, HN.out]; exact if_pos hij)
          go_wp2
          ((try simp only [Exit.inBlock, Exit.then]); refine bodyPost_ret (results_tmp4 rfl _ _ _) rfl ?_)
          exact ⟨by rw [HN2.out]; rfl, HB.out⟩
        · have HN2 := Lib.hid (show r = some (i, j, -k) by rw [HR.out, HN.out]; exact if_neg hij)
          go_wp2
          ((try simp only [Exit.inBlock, Exit.then]); refine bodyPost_ret (results_tmp4 rfl _ _ _) rfl ?_)
          exact ⟨by rw [HN2.out]; rfl, HB.out⟩
end Go.Proofs.Ytbmofagaammgmaa
