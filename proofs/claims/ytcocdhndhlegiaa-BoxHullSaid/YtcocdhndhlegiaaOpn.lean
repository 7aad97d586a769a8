/- The arguments opened: a box, a row. -/
import Derived.Test.YtcocdhndhlegiaaSdl
import Derived.Lib.SmallJoins
import Derived.SizedLaws
import Derived.ChangeMaps5
namespace Go.Proofs.Ytcocdhndhlegiaa
open Go.ChangeShapes Go.WideShapes Go.ChangeAt Go.RowKit Go.ChangeMaps

theorem i64_bdx {n : Int} (h : (Lit.int .i64 n).wf = true) : -9223372036854775808 ≤ n ∧ n ≤ 9223372036854775807 := by
  have h1 : IntKind.i64.min = -9223372036854775808 := rfl
  have h2 : IntKind.i64.max = 9223372036854775807 := rfl
  simp only [Lit.wf, Bool.and_eq_true, decide_eq_true_eq, h1, h2] at h
  exact h
theorem at_flat {α : Type} {w : World} (f : α → List Value) (m : Nat) (hf : ∀ a, (f a).length = m) (hm : 0 < m) (L : List α) (n b off : Nat) (hL : L.length = n) (hb : 0 < n → b < w.heap.size)
    (h : ∀ i (hi : i < L.length) r v, r < m → (f L[i])[r]? = some v → w.cell? ⟨b, off + i * m + r, none⟩ = some v) : At w (some ⟨b, off, none⟩) n m (L.flatMap f) := by
  refine ⟨by rw [flat_len f m hf, hL], fun hn => ⟨b, off, rfl, hb hn, fun j v hj => ?_⟩⟩
  have hj2 : j < (L.flatMap f).length := (List.getElem?_eq_some_iff.1 hj).1
  rw [flat_len f m hf] at hj2
  have hi : j / m < L.length := Nat.div_lt_of_lt_mul (by rw [Nat.mul_comm]; exact hj2)
  have hr : j % m < m := Nat.mod_lt _ hm
  have he : j / m * m + j % m = j := by rw [Nat.mul_comm]; exact Nat.div_add_mod j m
  have h1 := h (j / m) hi (j % m) v hr
  rw [← flat_get f m hf L (j / m) (j % m) hi hr, he] at h1
  rw [← h1 hj]
  congr 2
  omega
def Sd.zero : Sd := ⟨false, false, 0, 0, ⟨#[]⟩, ⟨#[]⟩⟩
def V3.zero : V3 := ⟨0, 0, ⟨#[]⟩⟩
def Sd.in (x : Sd) : Prop := (-9223372036854775808 ≤ x.lo ∧ x.lo ≤ 9223372036854775807) ∧ (-9223372036854775808 ≤ x.hi ∧ x.hi ≤ 9223372036854775807) ∧ x.fr.size ≤ 140737488351232 ∧ x.to.size ≤ 140737488351232
theorem Try.cellsE51 : Try.prog.cellsOf 51 = 6 := by kernel_rfl
open Go.Deep Go.WideElems in
set_option maxRecDepth 100000 in
theorem sides_trod {H : Type} {enc : TypeId × Value → H} {W : World} {v : Value} {fuel : Nat} {y : DataW H × List MemPlace} (h : DataW.trod enc Try.prog W 0 (fun _ => true) true fuel 22 [v] = some y) (hlt : ∀ x ∈ y.2, x.block < W.heap.size) (hw : ∀ z ∈ DataW.weights Try.prog 22 y.1, z ≤ reachBytes) :
    ∃ (A : Option Addr) (n c : Nat) (R : List Sd), v = .slice A n c ∧ At W A n 6 (R.flatMap Sd.cells) ∧ n ≤ c ∧ c ≤ 9223372036854775807 ∧ ∀ x ∈ R, x.in := by
  rcases open_slice_fields Try.underlying22 Try.underlying51 (by kernel_rfl) Try.cellsE51 h with ⟨hcs, hx⟩ | ⟨a, len, cap, m, D, Pl, hcs, _, hl, hm, hmm, hx, hi⟩
  · obtain rfl : v = .slice none 0 0 := by simpa using hcs
    exact ⟨_, _, _, [], rfl, ⟨rfl, fun h => absurd h (by omega)⟩, by omega, by omega, fun x hx => by cases hx⟩
  · obtain rfl : v = .slice (some a) len cap := by simpa using hcs
    simp only [if_true] at hmm
    subst hmm
    subst hx
    unfold maxLen at hm
    have key : ∀ i, i < len → ∃ x : Sd, x.in ∧ ∀ r u, r < 6 → x.cells[r]? = some u → W.cell? (a.add (i * 6 + r)) = some u := by
      intro i hil
      obtain ⟨ys, nn, hD, _, hyl, hfs⟩ := hi i (by omega)
      obtain ⟨v0, y0, e0, k0, t0⟩ := hfs 0 _ rfl
      obtain ⟨v1, y1, e1, k1, t1⟩ := hfs 1 _ rfl
      obtain ⟨v2, y2, e2, k2, t2⟩ := hfs 2 _ rfl
      obtain ⟨v3, y3, e3, k3, t3⟩ := hfs 3 _ rfl
      obtain ⟨v4, y4, e4, k4, t4⟩ := hfs 4 _ rfl
      obtain ⟨v5, y5, e5, k5, t5⟩ := hfs 5 _ rfl
      obtain ⟨z0, g0, rfl⟩ := DataW.trod_bool Try.underlying4 t0
      obtain rfl : v0 = .bool z0 := by simpa using g0
      obtain ⟨z1, g1, rfl⟩ := DataW.trod_bool Try.underlying4 t1
      obtain rfl : v1 = .bool z1 := by simpa using g1
      obtain ⟨z2, g2, rfl, w2⟩ := DataW.trod_int Try.underlying2 t2
      obtain rfl : v2 = .int .i64 z2 := by simpa using g2
      obtain ⟨z3, g3, rfl, w3⟩ := DataW.trod_int Try.underlying2 t3
      obtain rfl : v3 = .int .i64 z3 := by simpa using g3
      obtain ⟨z4, g4, rfl, w4⟩ := DataW.trod_string Try.underlying9 t4
      obtain rfl : v4 = .string z4 := by simpa using g4
      have s4 : z4.size ≤ 140737488351232 := by
        have hmem : z4.data.toList.length ∈ DataW.weights Try.prog 22 (.slice ((List.range len).map D) ((List.range (m - len)).map fun j => D (len + j))) := by
          simp only [DataW.weights, Try.underlying22, List.mem_cons, List.mem_append]
          refine .inr (.inl (weightsAll_of (x := D i) (List.mem_map.2 ⟨i, List.mem_range.2 hil, rfl⟩) _ ?_))
          rw [hD]
          simp only [DataW.weights, Try.underlying51]
          refine DataW.weights_mem_each (j := 4) (t := 9) (d := .lit (.string z4.data.toList)) rfl (by rw [List.getElem?_map, k4]; rfl) _ ?_
          simp [DataW.weights]
        simpa [reachBytes] using hw _ hmem
      obtain ⟨z5, g5, rfl, w5⟩ := DataW.trod_string Try.underlying9 t5
      obtain rfl : v5 = .string z5 := by simpa using g5
      have s5 : z5.size ≤ 140737488351232 := by
        have hmem : z5.data.toList.length ∈ DataW.weights Try.prog 22 (.slice ((List.range len).map D) ((List.range (m - len)).map fun j => D (len + j))) := by
          simp only [DataW.weights, Try.underlying22, List.mem_cons, List.mem_append]
          refine .inr (.inl (weightsAll_of (x := D i) (List.mem_map.2 ⟨i, List.mem_range.2 hil, rfl⟩) _ ?_))
          rw [hD]
          simp only [DataW.weights, Try.underlying51]
          refine DataW.weights_mem_each (j := 5) (t := 9) (d := .lit (.string z5.data.toList)) rfl (by rw [List.getElem?_map, k5]; rfl) _ ?_
          simp [DataW.weights]
        simpa [reachBytes] using hw _ hmem
      refine ⟨⟨z0, z1, z2, z3, z4, z5⟩, ⟨i64_bdx w2, i64_bdx w3, s4, s5⟩, fun r u hr hu => ?_⟩
      match r, hr with
      | 0, _ => obtain rfl := (Option.some.inj hu); exact e0
      | 1, _ => obtain rfl := (Option.some.inj hu); exact e1
      | 2, _ => obtain rfl := (Option.some.inj hu); exact e2
      | 3, _ => obtain rfl := (Option.some.inj hu); exact e3
      | 4, _ => obtain rfl := (Option.some.inj hu); exact e4
      | 5, _ => obtain rfl := (Option.some.inj hu); exact e5
    obtain ⟨f, hfp⟩ : ∃ f : Nat → Sd, ∀ i, i < len → (f i).in ∧ ∀ r u, r < 6 → (f i).cells[r]? = some u → W.cell? (a.add (i * 6 + r)) = some u := by
      rcases Nat.eq_zero_or_pos len with h0 | h0
      · obtain ⟨g⟩ : Nonempty (Nat → Sd) := ⟨fun _ => Sd.zero⟩
        exact ⟨g, fun i h => by omega⟩
      · exact ⟨fun i => if h : i < len then Classical.choose (key i h) else Sd.zero, fun i h => by simp only [dif_pos h]; exact Classical.choose_spec (key i h)⟩
    refine ⟨_, _, _, (List.range len).map f, rfl, ?_, hl, by omega, fun x hx => ?_⟩
    · rcases Nat.eq_zero_or_pos len with h0 | hn
      · subst h0
        exact ⟨by simp, fun h => absurd h (by omega)⟩
      obtain ⟨b, off, spot⟩ := a
      have hspot : spot = none := by
        have := (hfp 0 hn).2 0 _ (by decide) rfl
        simpa [Addr.add] using World.cell?_spot this
      subst hspot
      refine at_flat Sd.cells 6 (fun _ => rfl) (by decide) _ _ _ _ (by simp) (fun _ => ?_) (fun i hi r u hr hu => ?_)
      · exact hlt (.cell b off) (List.mem_append_left _ (MemPlace.mem_row.2 ⟨0, by have : 0 < m := (by omega); show 0 < m * 6; omega, by simp⟩))
      · have hil : i < len := by simpa using hi
        have := (hfp i hil).2 r u hr (by simpa using hu)
        simp only [add_plain] at this
        rw [Nat.add_assoc]
        exact this
    · obtain ⟨i, hi, rfl⟩ := List.mem_map.1 hx
      exact (hfp i (List.mem_range.1 hi)).1
theorem open_sides {H : Type} {enc : TypeId × Value → H} {W : World} {r : Reach} {b0 : Nat} {v : Value} {d : DataW H} {p : List MemPlace} {ts : List TypeId} {ds : List (DataW H)} {j : Nat}
    (hv : Value.okWide Try.prog W r b0 22 v) (h : DataW.Trod enc Try.prog W 0 (fun _ => true) true 22 v d p) (hlt : ∀ x ∈ p, x.block < W.heap.size)
    (hsz : (DataW.weightsEach Try.prog ts ds).all (· ≤ reachBytes) = true) (hts : ts[j]? = some 22) (hds : ds[j]? = some d) :
    ∃ (A : Option Addr) (n c : Nat) (R : List Sd), v = .slice A n c ∧ At W A n 6 (R.flatMap Sd.cells) ∧ n ≤ 9223372036854775807 ∧ ∀ x ∈ R, x.in := by
  obtain ⟨a0, len, cap, rfl⟩ := okWide_slice Try.underlying22 hv
  obtain ⟨fuel, hf⟩ := h
  obtain ⟨A, n, c, R, e, h1, h2, h3, h4⟩ := sides_trod (v := .slice a0 len cap) hf hlt (fun z hz => by simpa using List.all_eq_true.1 hsz _ (DataW.weights_mem_each hts hds z hz))
  exact ⟨A, n, c, R, e, h1, by omega, h4⟩
def V3.in (x : V3) : Prop := (-9223372036854775808 ≤ x.k ∧ x.k ≤ 9223372036854775807) ∧ (-9223372036854775808 ≤ x.n ∧ x.n ≤ 9223372036854775807) ∧ x.s.size ≤ 140737488351232
theorem Try.cellsE47 : Try.prog.cellsOf 47 = 3 := by kernel_rfl
open Go.Deep Go.WideElems in
set_option maxRecDepth 100000 in
theorem row_trod {H : Type} {enc : TypeId × Value → H} {W : World} {v : Value} {fuel : Nat} {y : DataW H × List MemPlace} (h : DataW.trod enc Try.prog W 0 (fun _ => true) true fuel 26 [v] = some y) (hlt : ∀ x ∈ y.2, x.block < W.heap.size) (hw : ∀ z ∈ DataW.weights Try.prog 26 y.1, z ≤ reachBytes) :
    ∃ (A : Option Addr) (n c : Nat) (R : List V3), v = .slice A n c ∧ At W A n 3 (R.flatMap V3.cells) ∧ n ≤ c ∧ c ≤ 9223372036854775807 ∧ ∀ x ∈ R, x.in := by
  rcases open_slice_fields Try.underlying26 Try.underlying47 (by kernel_rfl) Try.cellsE47 h with ⟨hcs, hx⟩ | ⟨a, len, cap, m, D, Pl, hcs, _, hl, hm, hmm, hx, hi⟩
  · obtain rfl : v = .slice none 0 0 := by simpa using hcs
    exact ⟨_, _, _, [], rfl, ⟨rfl, fun h => absurd h (by omega)⟩, by omega, by omega, fun x hx => by cases hx⟩
  · obtain rfl : v = .slice (some a) len cap := by simpa using hcs
    simp only [if_true] at hmm
    subst hmm
    subst hx
    unfold maxLen at hm
    have key : ∀ i, i < len → ∃ x : V3, x.in ∧ ∀ r u, r < 3 → x.cells[r]? = some u → W.cell? (a.add (i * 3 + r)) = some u := by
      intro i hil
      obtain ⟨ys, nn, hD, _, hyl, hfs⟩ := hi i (by omega)
      obtain ⟨v0, y0, e0, k0, t0⟩ := hfs 0 _ rfl
      obtain ⟨v1, y1, e1, k1, t1⟩ := hfs 1 _ rfl
      obtain ⟨v2, y2, e2, k2, t2⟩ := hfs 2 _ rfl
      obtain ⟨z0, g0, rfl, w0⟩ := DataW.trod_int Try.underlying3 t0
      obtain rfl : v0 = .int .i64 z0 := by simpa using g0
      obtain ⟨z1, g1, rfl, w1⟩ := DataW.trod_int Try.underlying2 t1
      obtain rfl : v1 = .int .i64 z1 := by simpa using g1
      obtain ⟨z2, g2, rfl, w2⟩ := DataW.trod_string Try.underlying9 t2
      obtain rfl : v2 = .string z2 := by simpa using g2
      have s2 : z2.size ≤ 140737488351232 := by
        have hmem : z2.data.toList.length ∈ DataW.weights Try.prog 26 (.slice ((List.range len).map D) ((List.range (m - len)).map fun j => D (len + j))) := by
          simp only [DataW.weights, Try.underlying26, List.mem_cons, List.mem_append]
          refine .inr (.inl (weightsAll_of (x := D i) (List.mem_map.2 ⟨i, List.mem_range.2 hil, rfl⟩) _ ?_))
          rw [hD]
          simp only [DataW.weights, Try.underlying47]
          refine DataW.weights_mem_each (j := 2) (t := 9) (d := .lit (.string z2.data.toList)) rfl (by rw [List.getElem?_map, k2]; rfl) _ ?_
          simp [DataW.weights]
        simpa [reachBytes] using hw _ hmem
      refine ⟨⟨z0, z1, z2⟩, ⟨i64_bdx w0, i64_bdx w1, s2⟩, fun r u hr hu => ?_⟩
      match r, hr with
      | 0, _ => obtain rfl := (Option.some.inj hu); exact e0
      | 1, _ => obtain rfl := (Option.some.inj hu); exact e1
      | 2, _ => obtain rfl := (Option.some.inj hu); exact e2
    obtain ⟨f, hfp⟩ : ∃ f : Nat → V3, ∀ i, i < len → (f i).in ∧ ∀ r u, r < 3 → (f i).cells[r]? = some u → W.cell? (a.add (i * 3 + r)) = some u := by
      rcases Nat.eq_zero_or_pos len with h0 | h0
      · obtain ⟨g⟩ : Nonempty (Nat → V3) := ⟨fun _ => V3.zero⟩
        exact ⟨g, fun i h => by omega⟩
      · exact ⟨fun i => if h : i < len then Classical.choose (key i h) else V3.zero, fun i h => by simp only [dif_pos h]; exact Classical.choose_spec (key i h)⟩
    refine ⟨_, _, _, (List.range len).map f, rfl, ?_, hl, by omega, fun x hx => ?_⟩
    · rcases Nat.eq_zero_or_pos len with h0 | hn
      · subst h0
        exact ⟨by simp, fun h => absurd h (by omega)⟩
      obtain ⟨b, off, spot⟩ := a
      have hspot : spot = none := by
        have := (hfp 0 hn).2 0 _ (by decide) rfl
        simpa [Addr.add] using World.cell?_spot this
      subst hspot
      refine at_flat V3.cells 3 (fun _ => rfl) (by decide) _ _ _ _ (by simp) (fun _ => ?_) (fun i hi r u hr hu => ?_)
      · exact hlt (.cell b off) (List.mem_append_left _ (MemPlace.mem_row.2 ⟨0, by have : 0 < m := (by omega); show 0 < m * 3; omega, by simp⟩))
      · have hil : i < len := by simpa using hi
        have := (hfp i hil).2 r u hr (by simpa using hu)
        simp only [add_plain] at this
        rw [Nat.add_assoc]
        exact this
    · obtain ⟨i, hi, rfl⟩ := List.mem_map.1 hx
      exact (hfp i (List.mem_range.1 hi)).1
theorem open_row {H : Type} {enc : TypeId × Value → H} {W : World} {r : Reach} {b0 : Nat} {v : Value} {d : DataW H} {p : List MemPlace} {ts : List TypeId} {ds : List (DataW H)} {j : Nat}
    (hv : Value.okWide Try.prog W r b0 26 v) (h : DataW.Trod enc Try.prog W 0 (fun _ => true) true 26 v d p) (hlt : ∀ x ∈ p, x.block < W.heap.size)
    (hsz : (DataW.weightsEach Try.prog ts ds).all (· ≤ reachBytes) = true) (hts : ts[j]? = some 26) (hds : ds[j]? = some d) :
    ∃ (A : Option Addr) (n c : Nat) (R : List V3), v = .slice A n c ∧ At W A n 3 (R.flatMap V3.cells) ∧ n ≤ 9223372036854775807 ∧ ∀ x ∈ R, x.in := by
  obtain ⟨a0, len, cap, rfl⟩ := okWide_slice Try.underlying26 hv
  obtain ⟨fuel, hf⟩ := h
  obtain ⟨A, n, c, R, e, h1, h2, h3, h4⟩ := row_trod (v := .slice a0 len cap) hf hlt (fun z hz => by simpa using List.all_eq_true.1 hsz _ (DataW.weights_mem_each hts hds z hz))
  exact ⟨A, n, c, R, e, h1, by omega, h4⟩
theorem Try.cells24 : Try.prog.cellsOf 24 = 2 := by kernel_rfl
open Go.Deep Go.WideElems in
set_option maxRecDepth 100000 in
theorem open_Box {H : Type} {enc : TypeId × Value → H} {W : World} {r : Reach} {b0 : Nat} {v : Value} {d : DataW H} {p : List MemPlace} {ts : List TypeId} {ds : List (DataW H)} {j : Nat}
    (hv : Value.okWide Try.prog W r b0 24 v) (h : DataW.Trod enc Try.prog W 0 (fun _ => true) true 24 v d p) (hlt : ∀ x ∈ p, x.block < W.heap.size)
    (hsz : (DataW.weightsEach Try.prog ts ds).all (· ≤ reachBytes) = true) (hts : ts[j]? = some 24) (hds : ds[j]? = some d) :
    ∃ (x0 : Int) (A1 : Option Addr) (n1 c1 : Nat) (R1 : List Sd), v = .agg #[.int .i64 x0, .slice A1 n1 c1] ∧ (-9223372036854775808 ≤ x0 ∧ x0 ≤ 9223372036854775807) ∧ (At W A1 n1 6 (R1.flatMap Sd.cells) ∧ n1 ≤ c1 ∧ c1 ≤ 9223372036854775807 ∧ ∀ x ∈ R1, x.in) := by
  have hw : ∀ z ∈ DataW.weights Try.prog 24 d, z ≤ reachBytes := fun z hz => by simpa using List.all_eq_true.1 hsz _ (DataW.weights_mem_each hts hds z hz)
  clear hsz hts hds
  obtain ⟨cs, rfl, hsz⟩ := okWide_struct Try.underlying24 hv
  rw [Try.cells24] at hsz
  obtain ⟨fuel, hf⟩ := h
  obtain ⟨ys, n', hn', hy, hlen, hyl, hg⟩ := DataW.trod_struct Try.underlying24 hf
  simp only [Prod.mk.injEq] at hy
  obtain ⟨hd, hp⟩ := hy
  subst hd
  rcases cs with ⟨l⟩
  have hl4 : l.length = 2 := by simpa using hsz
  have key : ∀ (j : Nat) (f : Field) (u : Value), (match Try.prog.underlying 24 with | some (.struct fs) => fs[j]? | _ => none) = some f → l[j]? = some u → ∃ y, DataW.trod enc Try.prog W 0 (fun _ => true) true n' f.type [u] = some y ∧ (∀ x ∈ y.2, x.block < W.heap.size) ∧ (∀ z ∈ DataW.weights Try.prog f.type y.1, z ≤ reachBytes) := by
    intro j f u hj hu
    rw [Try.underlying24] at hj
    obtain ⟨ho, hk⟩ := hone_of (P := Try.prog) (by kernel_rfl) j f hj
    have h1 := hg j f hj
    rw [ho, hk] at h1
    have hjl : j < l.length := (List.getElem?_eq_some_iff.1 hu).1
    have hys : ys[j]? = some (ys[j]'(by rw [hyl]; have := (Array.getElem?_eq_some_iff.1 hj).1; simpa using this)) := List.getElem?_eq_getElem _
    have hone' : ((Value.cells (.agg ⟨l⟩)).toList.drop j).take 1 = [u] := by
      show (l.drop j).take 1 = [u]
      rw [List.drop_eq_getElem_cons hjl]
      have := (List.getElem?_eq_some_iff.1 hu).2
      simp [this]
    rw [hone'] at h1
    refine ⟨_, h1.trans hys, fun x hx => hlt x ?_, fun z hz => hw z ?_⟩
    · rw [hp]
      exact List.mem_flatMap.2 ⟨_, List.getElem_mem _, hx⟩
    · simp only [DataW.weights, Try.underlying24]
      refine DataW.weights_mem_each (j := j) (t := f.type) ?_ (by rw [List.getElem?_map, hys]; rfl) z hz
      have hj' : (match Try.prog.underlying 24 with | some (.struct fs) => fs.toList[j]? | _ => none) = some f := by rw [Try.underlying24]; simpa using hj
      rw [Try.underlying24] at hj'
      rw [List.getElem?_map]
      exact congrArg (Option.map (·.type)) hj'
  match l, hl4 with
  | [u0, u1], _ =>
    obtain ⟨y0, t0, hl0, hw0⟩ := key 0 _ u0 (by rw [Try.underlying24]; rfl) rfl
    obtain ⟨y1, t1, hl1, hw1⟩ := key 1 _ u1 (by rw [Try.underlying24]; rfl) rfl
    obtain ⟨x0, g0, _, w0⟩ := DataW.trod_int Try.underlying3 t0
    obtain rfl : u0 = .int .i64 x0 := by simpa using g0
    obtain ⟨A1, n1, c1, R1, rfl, b1, k1, m1, i1⟩ := sides_trod t1 hl1 hw1
    exact ⟨x0, A1, n1, c1, R1, rfl, i64_bdx w0, ⟨b1, k1, m1, i1⟩⟩
end Go.Proofs.Ytcocdhndhlegiaa
