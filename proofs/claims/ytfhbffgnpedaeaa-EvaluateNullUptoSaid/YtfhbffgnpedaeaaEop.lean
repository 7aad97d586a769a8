/- The arguments opened: an expression, variables, a row, a case. -/
import Derived.Test.YtfhbffgnpedaeaaEsm
import Derived.Lib.SmallJoins
import Derived.SizedLaws
import Derived.ChangeMaps5
namespace Go.Proofs.Ytfhbffgnpedaeaa
open Go.ChangeShapes Go.WideShapes Go.ChangeAt Go.RowKit Go.ChangeMaps

theorem i64_bdx {n : Int} (h : (Lit.int .i64 n).wf = true) : -9223372036854775808 ≤ n ∧ n ≤ 9223372036854775807 := by
  have h1 : IntKind.i64.min = -9223372036854775808 := rfl
  have h2 : IntKind.i64.max = 9223372036854775807 := rfl
  simp only [Lit.wf, Bool.and_eq_true, decide_eq_true_eq, h1, h2] at h
  exact h
theorem at_flat {α : Type} {w : World} (f : α → List Value) (m : Nat) (hf : ∀ a, (f a).length = m) (hm : 0 < m) (L : List α) (n b off : Nat) (hL : L.length = n) (hb : 0 < n → b < w.heap.size)
    (h : ∀ i (hi : i < L.length) r v, r < m → (f L[i])[r]? = some v → w.cell? ⟨b, off + i * m + r, none⟩ = some v) : At w (some ⟨b, off, none⟩) n m (L.flatMap f) := by
  refine ⟨by rw [flat_len f m hf, hL], fun hn => ⟨b, off, rfl, hb hn, fun j v hj => ?_⟩⟩
  have hj2 : j < (L.flatMap f).length := (List.getElem?_eq_some_iff.1 hj).1
  rw [flat_len f m hf] at hj2
  have hi : j / m < L.length := Nat.div_lt_of_lt_mul (by rw [Nat.mul_comm]; exact hj2)
  have hr : j % m < m := Nat.mod_lt _ hm
  have he : j / m * m + j % m = j := by rw [Nat.mul_comm]; exact Nat.div_add_mod j m
  have h1 := h (j / m) hi (j % m) v hr
  rw [← flat_get f m hf L (j / m) (j % m) hi hr, he] at h1
  rw [← h1 hj]
  congr 2
  omega
def V3.zero : V3 := ⟨0, 0, ⟨#[]⟩⟩
def Va.zero : Va := ⟨0, 0, 0, 0, false⟩
def V3.in (x : V3) : Prop := (-9223372036854775808 ≤ x.k ∧ x.k ≤ 9223372036854775807) ∧ (-9223372036854775808 ≤ x.n ∧ x.n ≤ 9223372036854775807) ∧ x.s.size ≤ 140737488351232
theorem Try.cellsE23 : Try.prog.cellsOf 23 = 3 := by kernel_rfl
open Go.Deep Go.WideElems in
set_option maxRecDepth 100000 in
theorem row_trod {H : Type} {enc : TypeId × Value → H} {W : World} {v : Value} {fuel : Nat} {y : DataW H × List MemPlace} (h : DataW.trod enc Try.prog W 0 (fun _ => true) true fuel 29 [v] = some y) (hlt : ∀ x ∈ y.2, x.block < W.heap.size) (hw : ∀ z ∈ DataW.weights Try.prog 29 y.1, z ≤ reachBytes) :
    ∃ (A : Option Addr) (n c : Nat) (R : List V3), v = .slice A n c ∧ At W A n 3 (R.flatMap V3.cells) ∧ n ≤ c ∧ c ≤ 9223372036854775807 ∧ ∀ x ∈ R, x.in := by
  rcases open_slice_fields Try.underlying29 Try.underlying23 (by kernel_rfl) Try.cellsE23 h with ⟨hcs, hx⟩ | ⟨a, len, cap, m, D, Pl, hcs, _, hl, hm, hmm, hx, hi⟩
  · obtain rfl : v = .slice none 0 0 := by simpa using hcs
    exact ⟨_, _, _, [], rfl, ⟨rfl, fun h => absurd h (by omega)⟩, by omega, by omega, fun x hx => by cases hx⟩
  · obtain rfl : v = .slice (some a) len cap := by simpa using hcs
    simp only [if_true] at hmm
    subst hmm
    subst hx
    unfold maxLen at hm
    have key : ∀ i, i < len → ∃ x : V3, x.in ∧ ∀ r u, r < 3 → x.cells[r]? = some u → W.cell? (a.add (i * 3 + r)) = some u := by
      intro i hil
      obtain ⟨ys, nn, hD, _, hyl, hfs⟩ := hi i (by omega)
      obtain ⟨v0, y0, e0, k0, t0⟩ := hfs 0 _ rfl
      obtain ⟨v1, y1, e1, k1, t1⟩ := hfs 1 _ rfl
      obtain ⟨v2, y2, e2, k2, t2⟩ := hfs 2 _ rfl
      obtain ⟨z0, g0, rfl, w0⟩ := DataW.trod_int Try.underlying3 t0
      obtain rfl : v0 = .int .i64 z0 := by simpa using g0
      obtain ⟨z1, g1, rfl, w1⟩ := DataW.trod_int Try.underlying2 t1
      obtain rfl : v1 = .int .i64 z1 := by simpa using g1
      obtain ⟨z2, g2, rfl, w2⟩ := DataW.trod_string Try.underlying9 t2
      obtain rfl : v2 = .string z2 := by simpa using g2
      have s2 : z2.size ≤ 140737488351232 := by
        have hmem : z2.data.toList.length ∈ DataW.weights Try.prog 29 (.slice ((List.range len).map D) ((List.range (m - len)).map fun j => D (len + j))) := by
          simp only [DataW.weights, Try.underlying29, List.mem_cons, List.mem_append]
          refine .inr (.inl (weightsAll_of (x := D i) (List.mem_map.2 ⟨i, List.mem_range.2 hil, rfl⟩) _ ?_))
          rw [hD]
          simp only [DataW.weights, Try.underlying23]
          refine DataW.weights_mem_each (j := 2) (t := 9) (d := .lit (.string z2.data.toList)) rfl (by rw [List.getElem?_map, k2]; rfl) _ ?_
          simp [DataW.weights]
        simpa [reachBytes] using hw _ hmem
      refine ⟨⟨z0, z1, z2⟩, ⟨i64_bdx w0, i64_bdx w1, s2⟩, fun r u hr hu => ?_⟩
      match r, hr with
      | 0, _ => obtain rfl := (Option.some.inj hu); exact e0
      | 1, _ => obtain rfl := (Option.some.inj hu); exact e1
      | 2, _ => obtain rfl := (Option.some.inj hu); exact e2
    obtain ⟨f, hfp⟩ : ∃ f : Nat → V3, ∀ i, i < len → (f i).in ∧ ∀ r u, r < 3 → (f i).cells[r]? = some u → W.cell? (a.add (i * 3 + r)) = some u := by
      rcases Nat.eq_zero_or_pos len with h0 | h0
      · obtain ⟨g⟩ : Nonempty (Nat → V3) := ⟨fun _ => V3.zero⟩
        exact ⟨g, fun i h => by omega⟩
      · exact ⟨fun i => if h : i < len then Classical.choose (key i h) else V3.zero, fun i h => by simp only [dif_pos h]; exact Classical.choose_spec (key i h)⟩
    refine ⟨_, _, _, (List.range len).map f, rfl, ?_, hl, by omega, fun x hx => ?_⟩
    · rcases Nat.eq_zero_or_pos len with h0 | hn
      · subst h0
        exact ⟨by simp, fun h => absurd h (by omega)⟩
      obtain ⟨b, off, spot⟩ := a
      have hspot : spot = none := by
        have := (hfp 0 hn).2 0 _ (by decide) rfl
        simpa [Addr.add] using World.cell?_spot this
      subst hspot
      refine at_flat V3.cells 3 (fun _ => rfl) (by decide) _ _ _ _ (by simp) (fun _ => ?_) (fun i hi r u hr hu => ?_)
      · exact hlt (.cell b off) (List.mem_append_left _ (MemPlace.mem_row.2 ⟨0, by have : 0 < m := (by omega); show 0 < m * 3; omega, by simp⟩))
      · have hil : i < len := by simpa using hi
        have := (hfp i hil).2 r u hr (by simpa using hu)
        simp only [add_plain] at this
        rw [Nat.add_assoc]
        exact this
    · obtain ⟨i, hi, rfl⟩ := List.mem_map.1 hx
      exact (hfp i (List.mem_range.1 hi)).1
theorem open_row {H : Type} {enc : TypeId × Value → H} {W : World} {r : Reach} {b0 : Nat} {v : Value} {d : DataW H} {p : List MemPlace} {ts : List TypeId} {ds : List (DataW H)} {j : Nat}
    (hv : Value.okWide Try.prog W r b0 29 v) (h : DataW.Trod enc Try.prog W 0 (fun _ => true) true 29 v d p) (hlt : ∀ x ∈ p, x.block < W.heap.size)
    (hsz : (DataW.weightsEach Try.prog ts ds).all (· ≤ reachBytes) = true) (hts : ts[j]? = some 29) (hds : ds[j]? = some d) :
    ∃ (A : Option Addr) (n c : Nat) (R : List V3), v = .slice A n c ∧ At W A n 3 (R.flatMap V3.cells) ∧ n ≤ 9223372036854775807 ∧ ∀ x ∈ R, x.in := by
  obtain ⟨a0, len, cap, rfl⟩ := okWide_slice Try.underlying29 hv
  obtain ⟨fuel, hf⟩ := h
  obtain ⟨A, n, c, R, e, h1, h2, h3, h4⟩ := row_trod (v := .slice a0 len cap) hf hlt (fun z hz => by simpa using List.all_eq_true.1 hsz _ (DataW.weights_mem_each hts hds z hz))
  exact ⟨A, n, c, R, e, h1, by omega, h4⟩
def Va.in (x : Va) : Prop := (-9223372036854775808 ≤ x.ty ∧ x.ty ≤ 9223372036854775807) ∧ (-9223372036854775808 ≤ x.lo ∧ x.lo ≤ 9223372036854775807) ∧ (-9223372036854775808 ≤ x.hi ∧ x.hi ≤ 9223372036854775807) ∧ (-9223372036854775808 ≤ x.mx ∧ x.mx ≤ 9223372036854775807)
theorem Try.cellsE69 : Try.prog.cellsOf 69 = 5 := by kernel_rfl
open Go.Deep Go.WideElems in
set_option maxRecDepth 100000 in
theorem vars_trod {H : Type} {enc : TypeId × Value → H} {W : World} {v : Value} {fuel : Nat} {y : DataW H × List MemPlace} (h : DataW.trod enc Try.prog W 0 (fun _ => true) true fuel 27 [v] = some y) (hlt : ∀ x ∈ y.2, x.block < W.heap.size) (hw : ∀ z ∈ DataW.weights Try.prog 27 y.1, z ≤ reachBytes) :
    ∃ (A : Option Addr) (n c : Nat) (R : List Va), v = .slice A n c ∧ At W A n 5 (R.flatMap Va.cells) ∧ n ≤ c ∧ c ≤ 9223372036854775807 ∧ ∀ x ∈ R, x.in := by
  rcases open_slice_fields Try.underlying27 Try.underlying69 (by kernel_rfl) Try.cellsE69 h with ⟨hcs, hx⟩ | ⟨a, len, cap, m, D, Pl, hcs, _, hl, hm, hmm, hx, hi⟩
  · obtain rfl : v = .slice none 0 0 := by simpa using hcs
    exact ⟨_, _, _, [], rfl, ⟨rfl, fun h => absurd h (by omega)⟩, by omega, by omega, fun x hx => by cases hx⟩
  · obtain rfl : v = .slice (some a) len cap := by simpa using hcs
    simp only [if_true] at hmm
    subst hmm
    subst hx
    unfold maxLen at hm
    have key : ∀ i, i < len → ∃ x : Va, x.in ∧ ∀ r u, r < 5 → x.cells[r]? = some u → W.cell? (a.add (i * 5 + r)) = some u := by
      intro i hil
      obtain ⟨ys, nn, hD, _, hyl, hfs⟩ := hi i (by omega)
      obtain ⟨v0, y0, e0, k0, t0⟩ := hfs 0 _ rfl
      obtain ⟨v1, y1, e1, k1, t1⟩ := hfs 1 _ rfl
      obtain ⟨v2, y2, e2, k2, t2⟩ := hfs 2 _ rfl
      obtain ⟨v3, y3, e3, k3, t3⟩ := hfs 3 _ rfl
      obtain ⟨v4, y4, e4, k4, t4⟩ := hfs 4 _ rfl
      obtain ⟨z0, g0, rfl, w0⟩ := DataW.trod_int Try.underlying3 t0
      obtain rfl : v0 = .int .i64 z0 := by simpa using g0
      obtain ⟨z1, g1, rfl, w1⟩ := DataW.trod_int Try.underlying2 t1
      obtain rfl : v1 = .int .i64 z1 := by simpa using g1
      obtain ⟨z2, g2, rfl, w2⟩ := DataW.trod_int Try.underlying2 t2
      obtain rfl : v2 = .int .i64 z2 := by simpa using g2
      obtain ⟨z3, g3, rfl, w3⟩ := DataW.trod_int Try.underlying3 t3
      obtain rfl : v3 = .int .i64 z3 := by simpa using g3
      obtain ⟨z4, g4, rfl⟩ := DataW.trod_bool Try.underlying4 t4
      obtain rfl : v4 = .bool z4 := by simpa using g4
      refine ⟨⟨z0, z1, z2, z3, z4⟩, ⟨i64_bdx w0, i64_bdx w1, i64_bdx w2, i64_bdx w3⟩, fun r u hr hu => ?_⟩
      match r, hr with
      | 0, _ => obtain rfl := (Option.some.inj hu); exact e0
      | 1, _ => obtain rfl := (Option.some.inj hu); exact e1
      | 2, _ => obtain rfl := (Option.some.inj hu); exact e2
      | 3, _ => obtain rfl := (Option.some.inj hu); exact e3
      | 4, _ => obtain rfl := (Option.some.inj hu); exact e4
    obtain ⟨f, hfp⟩ : ∃ f : Nat → Va, ∀ i, i < len → (f i).in ∧ ∀ r u, r < 5 → (f i).cells[r]? = some u → W.cell? (a.add (i * 5 + r)) = some u := by
      rcases Nat.eq_zero_or_pos len with h0 | h0
      · obtain ⟨g⟩ : Nonempty (Nat → Va) := ⟨fun _ => Va.zero⟩
        exact ⟨g, fun i h => by omega⟩
      · exact ⟨fun i => if h : i < len then Classical.choose (key i h) else Va.zero, fun i h => by simp only [dif_pos h]; exact Classical.choose_spec (key i h)⟩
    refine ⟨_, _, _, (List.range len).map f, rfl, ?_, hl, by omega, fun x hx => ?_⟩
    · rcases Nat.eq_zero_or_pos len with h0 | hn
      · subst h0
        exact ⟨by simp, fun h => absurd h (by omega)⟩
      obtain ⟨b, off, spot⟩ := a
      have hspot : spot = none := by
        have := (hfp 0 hn).2 0 _ (by decide) rfl
        simpa [Addr.add] using World.cell?_spot this
      subst hspot
      refine at_flat Va.cells 5 (fun _ => rfl) (by decide) _ _ _ _ (by simp) (fun _ => ?_) (fun i hi r u hr hu => ?_)
      · exact hlt (.cell b off) (List.mem_append_left _ (MemPlace.mem_row.2 ⟨0, by have : 0 < m := (by omega); show 0 < m * 5; omega, by simp⟩))
      · have hil : i < len := by simpa using hi
        have := (hfp i hil).2 r u hr (by simpa using hu)
        simp only [add_plain] at this
        rw [Nat.add_assoc]
        exact this
    · obtain ⟨i, hi, rfl⟩ := List.mem_map.1 hx
      exact (hfp i (List.mem_range.1 hi)).1
theorem open_vars {H : Type} {enc : TypeId × Value → H} {W : World} {r : Reach} {b0 : Nat} {v : Value} {d : DataW H} {p : List MemPlace} {ts : List TypeId} {ds : List (DataW H)} {j : Nat}
    (hv : Value.okWide Try.prog W r b0 27 v) (h : DataW.Trod enc Try.prog W 0 (fun _ => true) true 27 v d p) (hlt : ∀ x ∈ p, x.block < W.heap.size)
    (hsz : (DataW.weightsEach Try.prog ts ds).all (· ≤ reachBytes) = true) (hts : ts[j]? = some 27) (hds : ds[j]? = some d) :
    ∃ (A : Option Addr) (n c : Nat) (R : List Va), v = .slice A n c ∧ At W A n 5 (R.flatMap Va.cells) ∧ n ≤ 9223372036854775807 ∧ ∀ x ∈ R, x.in := by
  obtain ⟨a0, len, cap, rfl⟩ := okWide_slice Try.underlying27 hv
  obtain ⟨fuel, hf⟩ := h
  obtain ⟨A, n, c, R, e, h1, h2, h3, h4⟩ := vars_trod (v := .slice a0 len cap) hf hlt (fun z hz => by simpa using List.all_eq_true.1 hsz _ (DataW.weights_mem_each hts hds z hz))
  exact ⟨A, n, c, R, e, h1, by omega, h4⟩

theorem V3.in_ok {x : V3} (h : x.in) : x.ok := by
  obtain ⟨⟨a, b⟩, ⟨c, d⟩, e⟩ := h
  exact ⟨a, b, c, d, by omega⟩
theorem Try.cells26 : Try.prog.cellsOf 26 = 8 := by kernel_rfl
theorem Try.cells31 : Try.prog.cellsOf 31 = 10 := by kernel_rfl
theorem Try.cells3 : Try.prog.cellsOf 3 = 1 := by kernel_rfl
theorem Try.cells9 : Try.prog.cellsOf 9 = 1 := by kernel_rfl
theorem Try.cells2 : Try.prog.cellsOf 2 = 1 := by kernel_rfl
theorem Try.cells24 : Try.prog.cellsOf 24 = 1 := by kernel_rfl
theorem Try.cells27 : Try.prog.cellsOf 27 = 1 := by kernel_rfl
theorem Try.cells29 : Try.prog.cellsOf 29 = 1 := by kernel_rfl
open Go.Deep Go.WideElems in
theorem struct_parts {H : Type} {enc : TypeId × Value → H} {P : Program} {W : World} {t : TypeId} {fs : Array Field} {fuel : Nat} {cs : List Value} {y : DataW H × List MemPlace} (ht : P.underlying t = some (.struct fs))
    (h : DataW.trod enc P W 0 (fun _ => true) true fuel t cs = some y) (hlt : ∀ x ∈ y.2, x.block < W.heap.size) (hw : ∀ z ∈ DataW.weights P t y.1, z ≤ reachBytes) :
    ∃ n, fuel = n + 1 ∧ cs.length = P.cellsOf t ∧ ∀ (j : Nat) (T : TypeId) (o k : Nat), fs[j]?.map (fun f => (f.type, f.offset)) = some (T, o) → P.cellsOf T = k → ∃ y', DataW.trod enc P W 0 (fun _ => true) true n T ((cs.drop o).take k) = some y' ∧ (∀ x ∈ y'.2, x.block < W.heap.size) ∧ (∀ z ∈ DataW.weights P T y'.1, z ≤ reachBytes) := by
  obtain ⟨ys, n, hn, hy, hlen, hyl, hg⟩ := DataW.trod_struct ht h
  subst hy
  refine ⟨n, hn, hlen, fun j T o k hj0 hk => ?_⟩
  obtain ⟨f, hj, he⟩ := Option.map_eq_some_iff.1 hj0
  injection he with he1 he2
  subst he1 he2 hk
  have hjl : j < ys.length := by rw [hyl]; exact (Array.getElem?_eq_some_iff.1 hj).1
  have hys : ys[j]? = some ys[j] := List.getElem?_eq_getElem hjl
  refine ⟨ys[j], (hg j f hj).trans hys, fun x hx => hlt x (List.mem_flatMap.2 ⟨_, List.getElem_mem _, hx⟩), fun z hz => hw z ?_⟩
  simp only [DataW.weights, ht]
  refine DataW.weights_mem_each (j := j) (t := f.type) ?_ (by rw [List.getElem?_map, hys]; rfl) z hz
  have : fs.toList[j]? = some f := by simpa using hj
  rw [List.getElem?_map, this]; rfl
open Go.Deep Go.WideElems in
theorem slice_parts {H : Type} {enc : TypeId × Value → H} {P : Program} {W : World} {t e : TypeId} {fuel : Nat} {v : Value} {y : DataW H × List MemPlace} (ht : P.underlying t = some (.slice e))
    (h : DataW.trod enc P W 0 (fun _ => true) true fuel t [v] = some y) (hlt : ∀ x ∈ y.2, x.block < W.heap.size) (hw : ∀ z ∈ DataW.weights P t y.1, z ≤ reachBytes) :
    v = .slice none 0 0 ∨ ∃ a len cap n, fuel = n + 1 ∧ v = .slice (some a) len cap ∧ len ≤ cap ∧ cap ≤ maxLen ∧ (∀ b off, a = ⟨b, off, none⟩ → 0 < len * P.cellsOf e → b < W.heap.size) ∧
      ∀ i, i < len → ∃ cs' y', cs'.length = P.cellsOf e ∧ (∀ j, j < P.cellsOf e → W.cell? (a.add (i * P.cellsOf e + j)) = cs'[j]?) ∧ DataW.trod enc P W 0 (fun _ => true) true n e cs' = some y' ∧ (∀ x ∈ y'.2, x.block < W.heap.size) ∧ (∀ z ∈ DataW.weights P e y'.1, z ≤ reachBytes) := by
  rcases DataW.trod_slice ht h with ⟨hcs, hx⟩ | ⟨a, len, cap, elems, rest, n, hn, hcs, hy, _, hl, hm, hel, hg, _, _⟩
  · exact .inl (by simpa using hcs)
  · subst hy
    refine .inr ⟨a, len, cap, n, hn, by simpa using hcs, hl, hm, fun b off ha h0 => ?_, fun i hi => ?_⟩
    · subst ha
      exact hlt (.cell b off) (List.mem_append_left _ (MemPlace.mem_row.2 ⟨0, by rw [hel, Nat.add_mul]; omega, by simp⟩))
    · have h1 := hg i hi
      have hil : i < elems.length := by omega
      rw [List.getElem?_eq_getElem hil] at h1
      obtain ⟨cs', hc, ht'⟩ := Option.bind_eq_some_iff.1 h1
      obtain ⟨_, hcl, hat⟩ := World.cells?_some hc
      refine ⟨cs', elems[i], hcl, fun j hj => ?_, ht', fun x hx => hlt x (List.mem_append_right _ (List.mem_flatMap.2 ⟨_, List.mem_append_left _ (List.getElem_mem hil), hx⟩)), fun z hz => hw z ?_⟩
      · rw [← Go.Deep.add_add]; exact hat j hj
      · simp only [DataW.weights, ht, List.mem_cons, List.mem_append]
        exact .inr (.inl (weightsAll_of (x := elems[i].1) (List.mem_map.2 ⟨_, List.getElem_mem hil, rfl⟩) _ hz))
open Go.Deep Go.WideElems in
theorem int_part {H : Type} {enc : TypeId × Value → H} {P : Program} {W : World} {t : TypeId} {fuel : Nat} {v : Value} {y : DataW H × List MemPlace} (ht : P.underlying t = some (.int .i64)) (h : DataW.trod enc P W 0 (fun _ => true) true fuel t [v] = some y) :
    ∃ n : Int, v = .int .i64 n ∧ -9223372036854775808 ≤ n ∧ n ≤ 9223372036854775807 := by
  obtain ⟨n, hcs, _, w⟩ := DataW.trod_int ht h
  exact ⟨n, by simpa using hcs, i64_bdx w⟩
open Go.Deep Go.WideElems in
theorem str_part {H : Type} {enc : TypeId × Value → H} {P : Program} {W : World} {t : TypeId} {fuel : Nat} {v : Value} {y : DataW H × List MemPlace} (ht : P.underlying t = some .string) (h : DataW.trod enc P W 0 (fun _ => true) true fuel t [v] = some y)
    (hw : ∀ z ∈ DataW.weights P t y.1, z ≤ reachBytes) : ∃ s : ByteArray, v = .string s ∧ s.size ≤ 4611686018427387904 := by
  obtain ⟨s, hcs, rfl, _⟩ := DataW.trod_string ht h
  refine ⟨s, by simpa using hcs, ?_⟩
  have := hw s.data.toList.length (by simp only [DataW.weights, List.mem_singleton])
  unfold reachBytes at this
  have e : s.data.toList.length = s.size := by simp
  omega
open Go.Deep Go.WideElems in
set_option maxRecDepth 100000 in
theorem value_trod {H : Type} {enc : TypeId × Value → H} {W : World} {fuel : Nat} {u0 u1 u2 : Value} {y : DataW H × List MemPlace} (h : DataW.trod enc Try.prog W 0 (fun _ => true) true fuel 23 [u0, u1, u2] = some y) (hlt : ∀ x ∈ y.2, x.block < W.heap.size) (hw : ∀ z ∈ DataW.weights Try.prog 23 y.1, z ≤ reachBytes) :
    ∃ x : V3, u0 = .int .i64 x.k ∧ u1 = .int .i64 x.n ∧ u2 = .string x.s ∧ x.ok := by
  obtain ⟨n, rfl, _, hg⟩ := struct_parts Try.underlying23 h hlt hw
  obtain ⟨y0, t0, _, w0⟩ := hg 0 3 0 1 rfl Try.cells3
  obtain ⟨y1, t1, _, w1⟩ := hg 1 2 1 1 rfl Try.cells2
  obtain ⟨y2, t2, _, w2⟩ := hg 2 9 2 1 rfl Try.cells9
  simp only [List.drop, List.take] at t0 t1 t2
  obtain ⟨k, rfl, k0, k1⟩ := int_part Try.underlying3 t0
  obtain ⟨m, rfl, m0, m1⟩ := int_part Try.underlying2 t1
  obtain ⟨s, rfl, hs⟩ := str_part Try.underlying9 t2 w2
  exact ⟨⟨k, m, s⟩, rfl, rfl, rfl, k0, k1, m0, m1, hs⟩
open Go.Deep Go.WideElems in
set_option maxRecDepth 100000 in
set_option maxHeartbeats 2000000 in
theorem expr_trod {H : Type} {enc : TypeId × Value → H} {W : World} (fuel : Nat) : ∀ (cs : List Value) (y : DataW H × List MemPlace), DataW.trod enc Try.prog W 0 (fun _ => true) true fuel 26 cs = some y → (∀ x ∈ y.2, x.block < W.heap.size) → (∀ z ∈ DataW.weights Try.prog 26 y.1, z ≤ reachBytes) →
    ∃ x : Ex, cs = x.cells ∧ ExAt W x := by
  induction fuel using Nat.strongRecOn with
  | ind fuel ih =>
  intro cs y h hlt hw
  obtain ⟨n, hn, hlen, hg⟩ := struct_parts Try.underlying26 h hlt hw
  rw [Try.cells26] at hlen
  obtain ⟨y0, t0, _, w0⟩ := hg 0 3 0 1 rfl Try.cells3
  obtain ⟨y1, t1, _, w1⟩ := hg 1 9 1 1 rfl Try.cells9
  obtain ⟨y2, t2, _, w2⟩ := hg 2 9 2 1 rfl Try.cells9
  obtain ⟨y3, t3, _, w3⟩ := hg 3 3 3 1 rfl Try.cells3
  obtain ⟨y4, t4, l4, w4⟩ := hg 4 23 4 3 rfl Try.cellsE23
  obtain ⟨y5, t5, l5, w5⟩ := hg 5 24 7 1 rfl Try.cells24
  clear hg h hlt hw
  match cs, hlen with
  | [u0, u1, u2, u3, u4, u5, u6, u7], _ =>
    simp only [List.drop, List.take] at t0 t1 t2 t3 t4 t5
    obtain ⟨op, rfl, _, _⟩ := int_part Try.underlying3 t0
    obtain ⟨tb, rfl, _⟩ := str_part Try.underlying9 t1 w1
    obtain ⟨nm, rfl, _⟩ := str_part Try.underlying9 t2 w2
    obtain ⟨ix, rfl, _, _⟩ := int_part Try.underlying3 t3
    obtain ⟨v, rfl, rfl, rfl, hv⟩ := value_trod t4 l4 w4
    rcases slice_parts Try.underlying24 t5 l5 w5 with rfl | ⟨a, len, cap, m, hm, rfl, hl, hc, hb, hi⟩
    · exact ⟨.mk op tb nm ix v none 0 [], rfl, .mk _ ⟨rfl, fun h => absurd h (Nat.lt_irrefl 0)⟩ (Nat.zero_le _) hv (fun y hy => by cases hy)⟩
    · unfold maxLen at hc
      rw [Try.cells26] at hi hb
      have key : ∀ i, i < len → ∃ x : Ex, ExAt W x ∧ ∀ r u, r < 8 → x.cells[r]? = some u → W.cell? (a.add (i * 8 + r)) = some u := by
        intro i hil
        obtain ⟨cs', y', hcl, hat, ht', hl', hw'⟩ := hi i hil
        obtain ⟨x, rfl, hx⟩ := ih m (by omega) cs' y' ht' hl' hw'
        exact ⟨x, hx, fun r u hr hu => (hat r hr).trans hu⟩
      obtain ⟨f, hfp⟩ : ∃ f : Nat → Ex, ∀ i, i < len → ExAt W (f i) ∧ ∀ r u, r < 8 → (f i).cells[r]? = some u → W.cell? (a.add (i * 8 + r)) = some u :=
        ⟨fun i => if h : i < len then Classical.choose (key i h) else .mk 0 tb nm 0 v none 0 [], fun i h => by simp only [dif_pos h]; exact Classical.choose_spec (key i h)⟩
      have hL : ((List.range len).map f).length = len := by simp
      refine ⟨.mk op tb nm ix v (some a) cap ((List.range len).map f), ?_, .mk _ ?_ ?_ hv ?_⟩
      · simp [Ex.cells, Ex.op, Ex.tb, Ex.nm, Ex.ix, Ex.v, Ex.A, Ex.c, Ex.args]
      · show At W (some a) ((List.range len).map f).length 8 (((List.range len).map f).flatMap Ex.cells)
        rw [hL]
        rcases Nat.eq_zero_or_pos len with h0 | hn0
        · subst h0
          exact ⟨by simp, fun h => absurd h (by omega)⟩
        obtain ⟨b, off, spot⟩ := a
        have hspot : spot = none := by
          have := (hfp 0 hn0).2 0 _ (by decide) rfl
          simpa [Addr.add] using World.cell?_spot this
        subst hspot
        refine at_flat Ex.cells 8 (fun _ => rfl) (by decide) _ _ _ _ (by simp) (fun _ => hb _ _ rfl (by omega)) (fun i hi r u hr hu => ?_)
        have hil : i < len := by simpa using hi
        have := (hfp i hil).2 r u hr (by simpa using hu)
        simp only [add_plain] at this
        rw [Nat.add_assoc]
        exact this
      · show ((List.range len).map f).length ≤ _
        rw [hL]; omega
      · intro y hy
        obtain ⟨i, hi, rfl⟩ := List.mem_map.1 (show y ∈ (List.range len).map f from hy)
        exact (hfp i (List.mem_range.1 hi)).1
open Go.Deep Go.WideElems in
theorem open_expr {H : Type} {enc : TypeId × Value → H} {W : World} {r : Reach} {b0 : Nat} {v : Value} {d : DataW H} {p : List MemPlace} {ts : List TypeId} {ds : List (DataW H)} {j : Nat}
    (hv : Value.okWide Try.prog W r b0 26 v) (h : DataW.Trod enc Try.prog W 0 (fun _ => true) true 26 v d p) (hlt : ∀ x ∈ p, x.block < W.heap.size)
    (hsz : (DataW.weightsEach Try.prog ts ds).all (· ≤ reachBytes) = true) (hts : ts[j]? = some 26) (hds : ds[j]? = some d) : ∃ x : Ex, v = x.agg ∧ ExAt W x := by
  have hw : ∀ z ∈ DataW.weights Try.prog 26 d, z ≤ reachBytes := fun z hz => by simpa using List.all_eq_true.1 hsz _ (DataW.weights_mem_each hts hds z hz)
  obtain ⟨cs, rfl, _⟩ := okWide_struct Try.underlying26 hv
  obtain ⟨fuel, hf⟩ := h
  obtain ⟨x, hx, hat⟩ := expr_trod fuel _ _ hf hlt hw
  refine ⟨x, ?_, hat⟩
  rcases cs with ⟨l⟩
  have : l = x.cells := hx
  subst this
  rfl
open Go.Deep Go.WideElems in
set_option maxRecDepth 100000 in
theorem open_case {H : Type} {enc : TypeId × Value → H} {W : World} {r : Reach} {b0 : Nat} {v : Value} {d : DataW H} {p : List MemPlace} {ts : List TypeId} {ds : List (DataW H)} {j : Nat}
    (hv : Value.okWide Try.prog W r b0 31 v) (h : DataW.Trod enc Try.prog W 0 (fun _ => true) true 31 v d p) (hlt : ∀ x ∈ p, x.block < W.heap.size)
    (hsz : (DataW.weightsEach Try.prog ts ds).all (· ≤ reachBytes) = true) (hts : ts[j]? = some 31) (hds : ds[j]? = some d) :
    ∃ (L : List Va) (R : List V3) (x : Ex) (A0 A : Option Addr) (n0 c0 n c : Nat), v = caseAgg x A0 A n0 c0 n c ∧ ExAt W x ∧ Vas W A0 n0 L ∧ Vls W A n R ∧ n ≤ 9223372036854775807 ∧ (∀ v ∈ R, v.ok) ∧ n ≤ c ∧ c ≤ 9223372036854775807 := by
  have hw : ∀ z ∈ DataW.weights Try.prog 31 d, z ≤ reachBytes := fun z hz => by simpa using List.all_eq_true.1 hsz _ (DataW.weights_mem_each hts hds z hz)
  obtain ⟨cs, rfl, hcz⟩ := okWide_struct Try.underlying31 hv
  rw [Try.cells31] at hcz
  obtain ⟨fuel, hf⟩ := h
  obtain ⟨m, hm, _, hg⟩ := struct_parts Try.underlying31 hf hlt hw
  obtain ⟨y0, t0, l0, w0⟩ := hg 0 26 0 8 rfl Try.cells26
  obtain ⟨y1, t1, l1, w1⟩ := hg 1 27 8 1 rfl Try.cells27
  obtain ⟨y2, t2, l2, w2⟩ := hg 2 29 9 1 rfl Try.cells29
  clear hg hf
  rcases cs with ⟨l⟩
  have hl : l.length = 10 := by simpa using hcz
  match l, hl with
  | [u0, u1, u2, u3, u4, u5, u6, u7, u8, u9], _ =>
    simp only [Value.cells, List.drop, List.take] at t0 t1 t2
    obtain ⟨x, hx, hat⟩ := expr_trod _ _ _ t0 l0 w0
    obtain ⟨A0, n0, c0, L, rfl, hL, _, _, _⟩ := vars_trod t1 l1 w1
    obtain ⟨A, n, c, R, rfl, hR, hn, hc, hin⟩ := row_trod t2 l2 w2
    obtain ⟨rfl, rfl, rfl, rfl, rfl, rfl, rfl, rfl⟩ : u0 = _ ∧ u1 = _ ∧ u2 = _ ∧ u3 = _ ∧ u4 = _ ∧ u5 = _ ∧ u6 = _ ∧ u7 = _ := by simpa [Ex.cells] using hx
    exact ⟨L, R, x, A0, A, n0, c0, n, c, rfl, hat, hL, hR, by omega, fun v hv => V3.in_ok (hin v hv), hn, by omega⟩
end Go.Proofs.Ytfhbffgnpedaeaa
