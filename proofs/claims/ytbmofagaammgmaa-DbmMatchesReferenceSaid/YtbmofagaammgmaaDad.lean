/- Add. -/
import Derived.Test.YtbmofagaammgmaaDmx
import Derived.Test.YtbmofagaammgmaaMix
namespace Go.Proofs.Ytbmofagaammgmaa
open Go.ChangeShapes Go.WideShapes Go.ChangeAt Go.RowKit Go.ChangeMaps

def bad (n : Nat) (i : Int) : Bool := !(decide (0 ≤ i) && decide (i ≤ (n : Int)))
def addE (n : Nat) (i j c : Int) : Int := if bad n i = true ∨ bad n j = true then 1 else if c < -1125899906842624 ∨ c > 1125899906842624 then 3 else 0
def addS (s : St) (i j c : Int) : St :=
  ⟨if (s.f (i, j)).isSome then s.P else s.P ++ [(i, j)], (match s.f (i, j) with | none => fun p => if p = (i, j) then some (c, (s.a : Int)) else s.f p | some q => if c < q.1 then fun p => if p = (i, j) then some (c, (s.a : Int)) else s.f p else s.f), s.a + 1⟩
theorem wpList_gput {k t e : TypeId} {κ : Type} [DecidableEq κ] {V : KV k κ} {b n s : Nat} {f : κ → Option Value} {ops : Array Oper} {rest : List Oper} {o : Oper} {a : Act} {Q : Exit → Act → World → Prop} (w : World) (hg : o.guard = none) (m x v : Operand) (hop : o.op = Op.mapUpdate t m x v)
    (ht : Try.prog.underlying t = some (.map k e)) (hm : a.eval m = .map (some b)) (h : MG V w b n s f) (hn : n < maxLen) (z : κ) (hz : V.ok z) (hx : a.eval x = V.kv z) (u : Value) (hv : a.eval v = u)
    (hK : ∀ w', MG V w' b (n + 1) (if (f z).isSome then s else s + 1) (gup f z u) → w.grownBy w' (some b) → wpList Try.prog ops Q rest (a.put o.dst undef) w') :
    wpList Try.prog ops Q (o :: rest) a w := by
  refine wpList_plain hg fun K' hK' => ?_
  obtain ⟨w', hrun, r1, r2⟩ := h.put ht hn hz u
  unfold Oper.wp
  simp [execOp, hop, hm, hx, hv, hrun, Result.andThen]
  exact hK' _ _ (hK w' r1 r2)
theorem Try.info72 : (Try.prog.info? 72).map (fun i => (i.zero, i.size, i.bytes)) = some (some (.agg #[.int .i64 0, .int .i64 0]), 2, 16) := by kernel_rfl
theorem pc_one (p : Int × Int) : ∀ u ∈ pcells p, u.oneCell' = true := by
  intro u hu
  simp only [pcells, List.mem_cons, List.not_mem_nil, or_false] at hu
  rcases hu with rfl | rfl <;> rfl
theorem Add_bad (w : World) (B g n : Nat) (s : St) (h : MX w B g n s) (i j c : Int) (hb : addE n i j c ≠ 0) : Calls Try.prog 22 #[.pointer (some ⟨g, 0, none⟩), .int .i64 i, .int .i64 j, .int .i64 c] w fun e w' => e = .returned (.int .i64 (addE n i j c)) ∧ w' = w := by
  obtain ⟨bm, v, M, z, h1, -⟩ := h.all
  have HI := Lib.hid (has_any w g n _ _ _ h1 i)
  have HJ := Lib.hid (has_any w g n _ _ _ h1 j)
  clear h h1
  obtain ⟨bi, hbi⟩ : ∃ b, (decide (0 ≤ i) && decide (i ≤ (n : Int))) = b := ⟨_, rfl⟩
  obtain ⟨bj, hbj⟩ : ∃ b, (decide (0 ≤ j) && decide (j ≤ (n : Int))) = b := ⟨_, rfl⟩
  rw [hbi] at HI
  rw [hbj] at HJ
  obtain ⟨r, hr⟩ : ∃ r, addE n i j c = r := ⟨_, rfl⟩
  have HR := Lib.hid hr
  rw [hr] at hb ⊢
  have HE := Lib.hid (show r = if bi = false ∨ bj = false then 1 else if c < -1125899906842624 ∨ c > 1125899906842624 then 3 else 0 by
    rw [← hr]
    unfold addE bad
    rw [hbi, hbj]
    simp)
  clear hr hbi hbj HR
  cases bi
  · go_enter Try.func22, Try.ntmps22
    go_wp2_with fail
    refine HI.out.mono ?_
    rintro e w1 ⟨rfl, rfl⟩
    go_wp2
    go_ret
    exact ⟨by rw [HE.out]; rfl, rfl⟩
  · cases bj
    · go_enter Try.func22, Try.ntmps22
      go_wp2_with fail
      refine HI.out.mono ?_
      rintro e w1 ⟨rfl, rfl⟩
      go_wp2_with fail
      refine HJ.out.mono ?_
      rintro e w1 ⟨rfl, rfl⟩
      go_wp2
      go_ret
      exact ⟨by rw [HE.out]; rfl, rfl⟩
    · have hc : c < -1125899906842624 ∨ c > 1125899906842624 := by
        have := HE.out
        by_cases hc : c < -1125899906842624 ∨ c > 1125899906842624
        · exact hc
        · rw [if_neg (by simp), if_neg hc] at this
          exact absurd this hb
      have HE3 := Lib.hid (show r = 3 by rw [HE.out, if_neg (by simp), if_pos hc])
      clear hb HE
      by_cases h1 : c < -1125899906842624
      · go_enter Try.func22, Try.ntmps22
        go_wp2_with fail
        refine HI.out.mono ?_
        rintro e w1 ⟨rfl, rfl⟩
        go_wp2_with fail
        refine HJ.out.mono ?_
        rintro e w1 ⟨rfl, rfl⟩
        go_wp2
        go_ret
        exact ⟨by rw [HE3.out]; rfl, rfl⟩
      · have h2 : c > 1125899906842624 := by omega
        go_enter Try.func22, Try.ntmps22
        go_wp2_with fail
        refine HI.out.mono ?_
        rintro e w1 ⟨rfl, rfl⟩
        go_wp2_with fail
        refine HJ.out.mono ?_
        rintro e w1 ⟨rfl, rfl⟩
        go_wp2
        go_ret
        exact ⟨by rw [HE3.out]; rfl, rfl⟩
end Go.Proofs.Ytbmofagaammgmaa
