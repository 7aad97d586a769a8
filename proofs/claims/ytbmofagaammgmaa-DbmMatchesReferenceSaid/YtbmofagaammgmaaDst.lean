/- Bound is attained and not exceeded. -/
import Derived.Test.YtbmofagaammgmaaDap
namespace Go.Proofs.Ytbmofagaammgmaa
open Go.ChangeShapes Go.WideShapes Go.ChangeAt Go.RowKit Go.ChangeMaps

theorem bound_all (g : Bd → Int) : ∀ B : List Bd, ∃ K : Int, ∀ b ∈ B, g b ≤ K
  | [] => ⟨0, fun b hb => by cases hb⟩
  | b :: B => by
    obtain ⟨K, hK⟩ := bound_all g B
    refine ⟨if g b ≤ K then K else g b, fun x hx => ?_⟩
    rcases List.mem_cons.1 hx with rfl | hx
    · split <;> omega
    · have := hK x hx
      split <;> omega
theorem tight_sat {s : St} {n : Nat} {B : List Bd} (h : SG s n) (hs : Sys B s.c s.prs) {i j : Nat} {a : Int} (hb : bndM s n (i : Int) (j : Int) = some a) : ∃ Y : Nat → Int, ∀ b ∈ B ++ [⟨j, i, -a⟩], Y b.i - Y b.j ≤ b.c := by
  obtain ⟨hsat, -, -, F, hF, hFi⟩ := bndM_some hb
  obtain ⟨Y0, hY0⟩ := (sat_iff h hs).1 hsat
  obtain ⟨K, hK⟩ := bound_all (fun b => (F b.i).getD 0 - Y0 b.j - b.c) B
  refine ⟨fun v => match F v with | some f => f | none => Y0 v + K, fun b hb => ?_⟩
  rcases List.mem_append.1 hb with hb | hb
  · obtain ⟨q1, q2⟩ := hs.to b hb
    have k1 := hK b hb
    have k2 := hY0 b hb
    dsimp only at k1 ⊢
    cases hj : F b.j with
    | some f =>
      obtain ⟨f', hf', hl⟩ := hF.1.edge b.i b.j _ ⟨q1, rfl⟩ f hj
      rw [hf']
      dsimp only
      omega
    | none =>
      cases hi : F b.i with
      | some f' =>
        rw [hi] at k1
        dsimp only [Option.getD_some] at k1 ⊢
        omega
      | none => dsimp only; omega
  · rw [List.mem_singleton.1 hb]
    obtain ⟨f, hf, hl⟩ := hF.1.at_
    dsimp only
    rw [hf, hFi]
    dsimp only
    omega
theorem tight_no {s : St} {n : Nat} {B : List Bd} (hs : Sys B s.c s.prs) {i j : Nat} {a : Int} (hb : bndM s n (i : Int) (j : Int) = some a) : ¬ ∃ Y : Nat → Int, ∀ b ∈ B ++ [⟨j, i, -a - 1⟩], Y b.i - Y b.j ≤ b.c := by
  rintro ⟨Y, hY⟩
  obtain ⟨-, -, -, F, hF, hFi⟩ := bndM_some hb
  have h1 := (hF.2 i a hFi).sol (s := Y) (fun x u k hk => by
    obtain ⟨b, hb, e1, e2, e3⟩ := hs.of _ hk.1
    have := hY b (List.mem_append_left _ hb)
    rw [e1, e2, e3] at this
    rw [hk.2]
    exact this)
  have h2 := hY ⟨j, i, -a - 1⟩ (by simp)
  dsimp only at h2
  omega
theorem okL_add (n : Nat) (R : List Rb) (b : Rb) (h : okB n b = true) : okL n (R.filter (okB n) ++ [b]) = okL n R ++ [toBd b] := by
  unfold okL
  rw [List.filter_append, List.filter_filter, List.map_append]
  simp [h]
section
variable {P : Program} (w : World)
theorem wpList_append_new {ops : Array Oper} {rest : List Oper} {o : Oper} {a : Act} {Q : Exit → Act → World → Prop} (hg : o.guard = none) (s x : Operand) (t tx : TypeId)
    (ho : o.op = .call { callee := .builtin .append, args := #[s, x], argTypes := #[t, tx] })
    (B : Nat) (e : TypeId) (i : TypeInfo) (z : Value) (size bytes : Nat) (ht : P.underlying t = some (.slice e)) (hi : P.info? e = some i) (hz : i.zero = some z)
    (hsize : i.size = size) (hby : i.bytes = bytes) (hzs : z.cells.size = size) (g : Nat) (hB : B ≤ g) (hv : a.eval s = .slice (some ⟨g, 0, none⟩) 0 0) (hgh : w.heap[g]? = some (.cells #[] e (0, 0)))
    (y : Value) (m : Nat) (news : List Value) (hy : a.eval x = y) (hs : Src P size tx y m news w) (h63 : m ≤ maxLen) (hbytes : m * bytes ≤ 140737488355328)
    (h : ∀ v' w', w'.ownsRow B e size v' m news → Below w.heap.size w w' → wpList P ops Q rest (a.put o.dst v') w') : wpList P ops Q (o :: rest) a w := by
  refine wpList_plain hg fun K' hK' => ?_
  exact wp_append_new w s x t tx ho B e i z size bytes ht hi hz hsize hby hzs g hB hv hgh y m news hy hs h63 hbytes (fun v' w' h1 h2 => hK' _ _ (h v' w' h1 h2))
end
end Go.Proofs.Ytbmofagaammgmaa
