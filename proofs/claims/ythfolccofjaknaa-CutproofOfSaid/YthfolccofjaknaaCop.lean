/- The arguments opened: inequalities, steps, uses, proofs. -/
import Derived.Test.YthfolccofjaknaaCsa
import Derived.Test.YthfolccofjaknaaMA
import Derived.Deep.Fields
import Derived.Lib.SmallJoins
import Derived.SizedLaws
import Derived.ChangeMaps5
namespace Go.Proofs.Ythfolccofjaknaa
open Go.ChangeShapes Go.WideShapes Go.ChangeAt Go.RowKit Go.ChangeMaps

theorem i64_bdx {n : Int} (h : (Lit.int .i64 n).wf = true) : -9223372036854775808 ≤ n ∧ n ≤ 9223372036854775807 := by
  have h1 : IntKind.i64.min = -9223372036854775808 := rfl
  have h2 : IntKind.i64.max = 9223372036854775807 := rfl
  simp only [Lit.wf, Bool.and_eq_true, decide_eq_true_eq, h1, h2] at h
  exact h
theorem at_flat {α : Type} {w : World} (f : α → List Value) (m : Nat) (hf : ∀ a, (f a).length = m) (hm : 0 < m) (L : List α) (n b off : Nat) (hL : L.length = n) (hb : 0 < n → b < w.heap.size)
    (h : ∀ i (hi : i < L.length) r v, r < m → (f L[i])[r]? = some v → w.cell? ⟨b, off + i * m + r, none⟩ = some v) : At w (some ⟨b, off, none⟩) n m (L.flatMap f) := by
  refine ⟨by rw [flat_len f m hf, hL], fun hn => ⟨b, off, rfl, hb hn, fun j v hj => ?_⟩⟩
  have hj2 : j < (L.flatMap f).length := (List.getElem?_eq_some_iff.1 hj).1
  rw [flat_len f m hf] at hj2
  have hi : j / m < L.length := Nat.div_lt_of_lt_mul (by rw [Nat.mul_comm]; exact hj2)
  have hr : j % m < m := Nat.mod_lt _ hm
  have he : j / m * m + j % m = j := by rw [Nat.mul_comm]; exact Nat.div_add_mod j m
  have h1 := h (j / m) hi (j % m) v hr
  rw [← flat_get f m hf L (j / m) (j % m) hi hr, he] at h1
  rw [← h1 hj]
  congr 2
  omega
theorem Try.cells2 : Try.prog.cellsOf 2 = 1 := by kernel_rfl
theorem Try.cells3 : Try.prog.cellsOf 3 = 1 := by kernel_rfl
theorem Try.cells4 : Try.prog.cellsOf 4 = 1 := by kernel_rfl
theorem Try.cells35 : Try.prog.cellsOf 35 = 1 := by kernel_rfl
theorem Try.cells34 : Try.prog.cellsOf 34 = 1 := by kernel_rfl
theorem Try.cells39 : Try.prog.cellsOf 39 = 3 := by kernel_rfl
theorem Try.cells42 : Try.prog.cellsOf 42 = 1 := by kernel_rfl
theorem Try.cells44 : Try.prog.cellsOf 44 = 3 := by kernel_rfl
theorem Try.cells49 : Try.prog.cellsOf 49 = 1 := by kernel_rfl
theorem Try.cells50 : Try.prog.cellsOf 50 = 1 := by kernel_rfl
theorem Try.cells52 : Try.prog.cellsOf 52 = 5 := by kernel_rfl
theorem Try.cells62 : Try.prog.cellsOf 62 = 3 := by kernel_rfl
theorem Try.cells30 : Try.prog.cellsOf 30 = 1 := by kernel_rfl
open Go.Deep Go.WideElems in
theorem struct_parts {H : Type} {enc : TypeId × Value → H} {P : Program} {W : World} {t : TypeId} {fs : Array Field} {fuel : Nat} {cs : List Value} {y : DataW H × List MemPlace} (ht : P.underlying t = some (.struct fs))
    (h : DataW.trod enc P W 0 (fun _ => true) true fuel t cs = some y) (hlt : ∀ x ∈ y.2, x.block < W.heap.size) (hw : ∀ z ∈ DataW.weights P t y.1, z ≤ reachBytes) :
    ∃ n, fuel = n + 1 ∧ cs.length = P.cellsOf t ∧ ∀ (j : Nat) (T : TypeId) (o k : Nat), fs[j]?.map (fun f => (f.type, f.offset)) = some (T, o) → P.cellsOf T = k → ∃ y', DataW.trod enc P W 0 (fun _ => true) true n T ((cs.drop o).take k) = some y' ∧ (∀ x ∈ y'.2, x.block < W.heap.size) ∧ (∀ z ∈ DataW.weights P T y'.1, z ≤ reachBytes) := by
  obtain ⟨ys, n, hn, hy, hlen, hyl, hg⟩ := DataW.trod_struct ht h
  subst hy
  refine ⟨n, hn, hlen, fun j T o k hj0 hk => ?_⟩
  obtain ⟨f, hj, he⟩ := Option.map_eq_some_iff.1 hj0
  injection he with he1 he2
  subst he1 he2 hk
  have hjl : j < ys.length := by rw [hyl]; exact (Array.getElem?_eq_some_iff.1 hj).1
  have hys : ys[j]? = some ys[j] := List.getElem?_eq_getElem hjl
  refine ⟨ys[j], (hg j f hj).trans hys, fun x hx => hlt x (List.mem_flatMap.2 ⟨_, List.getElem_mem _, hx⟩), fun z hz => hw z ?_⟩
  simp only [DataW.weights, ht]
  refine DataW.weights_mem_each (j := j) (t := f.type) ?_ (by rw [List.getElem?_map, hys]; rfl) z hz
  have : fs.toList[j]? = some f := by simpa using hj
  rw [List.getElem?_map, this]; rfl
open Go.Deep Go.WideElems in
theorem slice_parts {H : Type} {enc : TypeId × Value → H} {P : Program} {W : World} {t e : TypeId} {fuel : Nat} {v : Value} {y : DataW H × List MemPlace} (ht : P.underlying t = some (.slice e))
    (h : DataW.trod enc P W 0 (fun _ => true) true fuel t [v] = some y) (hlt : ∀ x ∈ y.2, x.block < W.heap.size) (hw : ∀ z ∈ DataW.weights P t y.1, z ≤ reachBytes) :
    v = .slice none 0 0 ∨ ∃ a len cap n, fuel = n + 1 ∧ v = .slice (some a) len cap ∧ len ≤ cap ∧ cap ≤ maxLen ∧ (∀ b off, a = ⟨b, off, none⟩ → 0 < len * P.cellsOf e → b < W.heap.size) ∧
      ∀ i, i < len → ∃ cs' y', cs'.length = P.cellsOf e ∧ (∀ j, j < P.cellsOf e → W.cell? (a.add (i * P.cellsOf e + j)) = cs'[j]?) ∧ DataW.trod enc P W 0 (fun _ => true) true n e cs' = some y' ∧ (∀ x ∈ y'.2, x.block < W.heap.size) ∧ (∀ z ∈ DataW.weights P e y'.1, z ≤ reachBytes) := by
  rcases DataW.trod_slice ht h with ⟨hcs, hx⟩ | ⟨a, len, cap, elems, rest, n, hn, hcs, hy, _, hl, hm, hel, hg, _, _⟩
  · exact .inl (by simpa using hcs)
  · subst hy
    refine .inr ⟨a, len, cap, n, hn, by simpa using hcs, hl, hm, fun b off ha h0 => ?_, fun i hi => ?_⟩
    · subst ha
      exact hlt (.cell b off) (List.mem_append_left _ (MemPlace.mem_row.2 ⟨0, by rw [hel, Nat.add_mul]; omega, by simp⟩))
    · have h1 := hg i hi
      have hil : i < elems.length := by omega
      rw [List.getElem?_eq_getElem hil] at h1
      obtain ⟨cs', hc, ht'⟩ := Option.bind_eq_some_iff.1 h1
      obtain ⟨_, hcl, hat⟩ := World.cells?_some hc
      refine ⟨cs', elems[i], hcl, fun j hj => ?_, ht', fun x hx => hlt x (List.mem_append_right _ (List.mem_flatMap.2 ⟨_, List.mem_append_left _ (List.getElem_mem hil), hx⟩)), fun z hz => hw z ?_⟩
      · rw [← Go.Deep.add_add]; exact hat j hj
      · simp only [DataW.weights, ht, List.mem_cons, List.mem_append]
        exact .inr (.inl (weightsAll_of (x := elems[i].1) (List.mem_map.2 ⟨_, List.getElem_mem hil, rfl⟩) _ hz))
open Go.Deep Go.WideElems in
theorem int_part {H : Type} {enc : TypeId × Value → H} {P : Program} {W : World} {t : TypeId} {fuel : Nat} {v : Value} {y : DataW H × List MemPlace} (ht : P.underlying t = some (.int .i64)) (h : DataW.trod enc P W 0 (fun _ => true) true fuel t [v] = some y) :
    ∃ n : Int, v = .int .i64 n ∧ -9223372036854775808 ≤ n ∧ n ≤ 9223372036854775807 := by
  obtain ⟨n, hcs, _, w⟩ := DataW.trod_int ht h
  exact ⟨n, by simpa using hcs, i64_bdx w⟩
abbrev NM : Nat := 9223372036854775807
open Go.Deep Go.WideElems in
set_option maxRecDepth 100000 in
theorem rows_trod {H : Type} {enc : TypeId × Value → H} {W : World} {α : Type} {t e : TypeId} {m fuel : Nat} (f : α → List Value) (P : α → Prop) (hm : 0 < m) (hf : ∀ a, (f a).length = m) (ht : Try.prog.underlying t = some (.slice e)) (hC : Try.prog.cellsOf e = m) (inh : α)
    (elem : ∀ n, n < fuel → ∀ (cs : List Value) (y : DataW H × List MemPlace), DataW.trod enc Try.prog W 0 (fun _ => true) true n e cs = some y → (∀ x ∈ y.2, x.block < W.heap.size) → (∀ z ∈ DataW.weights Try.prog e y.1, z ≤ reachBytes) → ∃ a, cs = f a ∧ P a)
    {v : Value} {y : DataW H × List MemPlace} (h : DataW.trod enc Try.prog W 0 (fun _ => true) true fuel t [v] = some y) (hlt : ∀ x ∈ y.2, x.block < W.heap.size) (hw : ∀ z ∈ DataW.weights Try.prog t y.1, z ≤ reachBytes) :
    ∃ (A : Option Addr) (n c : Nat) (R : List α), v = .slice A n c ∧ At W A n m (R.flatMap f) ∧ n ≤ c ∧ c ≤ NM ∧ ∀ x ∈ R, P x := by
  rcases slice_parts ht h hlt hw with rfl | ⟨a, len, cap, n, hn, rfl, hl, hc, hb, hi⟩
  · exact ⟨_, _, _, [], rfl, ⟨by simp, fun h => absurd h (by omega)⟩, by omega, by decide, fun x hx => by cases hx⟩
  · unfold maxLen at hc
    rw [hC] at hi hb
    have key : ∀ i, i < len → ∃ x : α, P x ∧ ∀ r u, r < m → (f x)[r]? = some u → W.cell? (a.add (i * m + r)) = some u := by
      intro i hil
      obtain ⟨cs', y', hcl, hat, ht', hl', hw'⟩ := hi i hil
      obtain ⟨x, rfl, hx⟩ := elem n (by omega) cs' y' ht' hl' hw'
      exact ⟨x, hx, fun r u hr hu => (hat r hr).trans hu⟩
    obtain ⟨g, hfp⟩ : ∃ g : Nat → α, ∀ i, i < len → P (g i) ∧ ∀ r u, r < m → (f (g i))[r]? = some u → W.cell? (a.add (i * m + r)) = some u :=
      ⟨fun i => if h : i < len then Classical.choose (key i h) else inh, fun i h => by simp only [dif_pos h]; exact Classical.choose_spec (key i h)⟩
    have hL : ((List.range len).map g).length = len := by simp
    refine ⟨some a, len, cap, (List.range len).map g, rfl, ?_, hl, hc, fun x hx => ?_⟩
    · rcases Nat.eq_zero_or_pos len with h0 | hn0
      · subst h0
        exact ⟨by simp, fun h => absurd h (by omega)⟩
      obtain ⟨b, off, spot⟩ := a
      have hspot : spot = none := by
        obtain ⟨u, hu⟩ : ∃ u, (f (g 0))[0]? = some u := ⟨_, List.getElem?_eq_getElem (by rw [hf]; exact hm)⟩
        have := (hfp 0 hn0).2 0 u hm hu
        simpa [Addr.add] using World.cell?_spot this
      subst hspot
      refine at_flat f m hf hm _ _ _ _ (by simp) (fun _ => hb _ _ rfl (Nat.mul_pos hn0 hm)) (fun i hi r u hr hu => ?_)
      have hil : i < len := by simpa using hi
      have := (hfp i hil).2 r u hr (by simpa using hu)
      simp only [add_plain] at this
      rw [Nat.add_assoc]
      exact this
    · obtain ⟨i, hi, rfl⟩ := List.mem_map.1 hx
      exact (hfp i (List.mem_range.1 hi)).1
open Go.Deep Go.WideElems in
set_option maxRecDepth 100000 in
theorem big_trod {H : Type} {enc : TypeId × Value → H} {W : World} (fuel : Nat) (cs : List Value) (y : DataW H × List MemPlace) (h : DataW.trod enc Try.prog W 0 (fun _ => true) true fuel 37 cs = some y) (hlt : ∀ x ∈ y.2, x.block < W.heap.size) (hw : ∀ z ∈ DataW.weights Try.prog 37 y.1, z ≤ reachBytes) : ∃ b : Bg, cs = b.cells ∧ b.ok W NM := by
  obtain ⟨n, hn, hlen, hg⟩ := struct_parts Try.underlying37 h hlt hw
  rw [Try.cells37] at hlen
  obtain ⟨y0, t0, _, w0⟩ := hg 0 4 0 1 rfl Try.cells4
  obtain ⟨y1, t1, l1, w1⟩ := hg 1 35 1 1 rfl Try.cells35
  clear hg h hlt hw
  match cs, hlen with
  | [u0, u1], _ =>
    simp only [List.drop, List.take] at t0 t1
    obtain ⟨x, hx, _⟩ := DataW.trod_bool Try.underlying4 t0
    obtain rfl : u0 = .bool x := by simpa using hx
    obtain ⟨A, n, c, D, rfl, hd, hs⟩ := digs_trod t1 l1
    exact ⟨⟨x, A, n, c, sgn x (dv 4294967296 D)⟩, rfl, x, A, n, c, D, rfl, hd, hs, Nat.le_trans hs.1 hs.2.1, rfl⟩
open Go.Deep Go.WideElems in
theorem bigs_trod {H : Type} {enc : TypeId × Value → H} {W : World} {fuel : Nat} {v : Value} {y : DataW H × List MemPlace} (h : DataW.trod enc Try.prog W 0 (fun _ => true) true fuel 42 [v] = some y) (hlt : ∀ x ∈ y.2, x.block < W.heap.size) (hw : ∀ z ∈ DataW.weights Try.prog 42 y.1, z ≤ reachBytes) : ∃ (A : Option Addr) (n c : Nat) (L : List Bg), v = .slice A n c ∧ Bigs W A n L NM := by
  obtain ⟨A, n, c, R, e, h1, h2, h3, h4⟩ := rows_trod Bg.cells (fun b => b.ok W NM) (by decide) (fun _ => rfl) Try.underlying42 Try.cells37 Bg.zero (fun n _ => big_trod n) h hlt hw
  exact ⟨A, n, c, R, e, h1, Nat.le_trans h2 h3, h4⟩
open Go.Deep Go.WideElems in
set_option maxRecDepth 100000 in
theorem iq_trod {H : Type} {enc : TypeId × Value → H} {W : World} (fuel : Nat) (cs : List Value) (y : DataW H × List MemPlace) (h : DataW.trod enc Try.prog W 0 (fun _ => true) true fuel 44 cs = some y) (hlt : ∀ x ∈ y.2, x.block < W.heap.size) (hw : ∀ z ∈ DataW.weights Try.prog 44 y.1, z ≤ reachBytes) : ∃ q : Iq, cs = q.cells ∧ q.ok W NM := by
  obtain ⟨n, hn, hlen, hg⟩ := struct_parts Try.underlying44 h hlt hw
  rw [Try.cells44] at hlen
  obtain ⟨y0, t0, l0, w0⟩ := hg 0 42 0 1 rfl Try.cells42
  obtain ⟨y1, t1, l1, w1⟩ := hg 1 37 1 2 rfl Try.cells37
  clear hg h hlt hw
  match cs, hlen with
  | [u0, u1, u2], _ =>
    simp only [List.drop, List.take] at t0 t1
    obtain ⟨A, n, c, L, rfl, hL⟩ := bigs_trod t0 l0 w0
    obtain ⟨b, hb, ho⟩ := big_trod _ _ _ t1 l1 w1
    obtain ⟨rfl, rfl⟩ : u1 = _ ∧ u2 = _ := by simpa [Bg.cells] using hb
    exact ⟨⟨A, n, c, L, b⟩, rfl, hL, ho⟩
open Go.Deep Go.WideElems in
theorem iqs_trod {H : Type} {enc : TypeId × Value → H} {W : World} {fuel : Nat} {v : Value} {y : DataW H × List MemPlace} (h : DataW.trod enc Try.prog W 0 (fun _ => true) true fuel 30 [v] = some y) (hlt : ∀ x ∈ y.2, x.block < W.heap.size) (hw : ∀ z ∈ DataW.weights Try.prog 30 y.1, z ≤ reachBytes) : ∃ (A : Option Addr) (n c : Nat) (Q : List Iq), v = .slice A n c ∧ Ineqs W A n Q NM ∧ n ≤ c ∧ c * 56 ≤ 140737488351232 := by
  obtain ⟨A, n, c, R, e, h1, h2, h3, h4⟩ := rows_trod Iq.cells (fun q => q.ok W NM) (by decide) (fun _ => rfl) Try.underlying30 Try.cells44 ⟨none, 0, 0, [], Bg.zero⟩ (fun n _ => iq_trod n) h hlt hw
  refine ⟨A, n, c, R, e, ⟨h1, Nat.le_trans h2 h3, h4⟩, h2, ?_⟩
  subst e
  rcases DataW.trod_slice Try.underlying30 h with ⟨hcs, _⟩ | ⟨a, len, cap, elems, rest, k, hk, hcs, hy, _, hl, hm, hel, _, hsp, _⟩
  · injection hcs with hcs
    injection hcs with _ _ e3
    omega
  · injection hcs with hcs
    injection hcs with e1 e2 e3
    have hb := hw ((elems.length + rest.length) * Try.prog.bytesOf 44) (by
      rw [hy]
      simp only [DataW.weights, Try.underlying30, List.length_map]
      exact List.mem_cons_self)
    rw [show Try.prog.bytesOf 44 = 56 by kernel_rfl] at hb
    unfold reachBytes at hb
    have h9 := (hsp rfl).1
    have : elems.length + rest.length = c := by omega
    rw [this] at hb
    exact hb
open Go.Deep Go.WideElems in
set_option maxRecDepth 100000 in
theorem use_trod {H : Type} {enc : TypeId × Value → H} {W : World} (fuel : Nat) (cs : List Value) (y : DataW H × List MemPlace) (h : DataW.trod enc Try.prog W 0 (fun _ => true) true fuel 62 cs = some y) (hlt : ∀ x ∈ y.2, x.block < W.heap.size) (hw : ∀ z ∈ DataW.weights Try.prog 62 y.1, z ≤ reachBytes) : ∃ u : Us, cs = u.cells ∧ u.b.ok W NM := by
  obtain ⟨n, hn, hlen, hg⟩ := struct_parts Try.underlying62 h hlt hw
  rw [Try.cells62] at hlen
  obtain ⟨y0, t0, l0, w0⟩ := hg 0 3 0 1 rfl Try.cells3
  obtain ⟨y1, t1, l1, w1⟩ := hg 1 37 1 2 rfl Try.cells37
  clear hg h hlt hw
  match cs, hlen with
  | [u0, u1, u2], _ =>
    simp only [List.drop, List.take] at t0 t1
    obtain ⟨i, rfl, _, _⟩ := int_part Try.underlying3 t0
    obtain ⟨b, hb, ho⟩ := big_trod _ _ _ t1 l1 w1
    obtain ⟨rfl, rfl⟩ : u1 = _ ∧ u2 = _ := by simpa [Bg.cells] using hb
    exact ⟨⟨i, b⟩, rfl, ho⟩
open Go.Deep Go.WideElems in
theorem uses_trod {H : Type} {enc : TypeId × Value → H} {W : World} {fuel : Nat} {v : Value} {y : DataW H × List MemPlace} (h : DataW.trod enc Try.prog W 0 (fun _ => true) true fuel 34 [v] = some y) (hlt : ∀ x ∈ y.2, x.block < W.heap.size) (hw : ∀ z ∈ DataW.weights Try.prog 34 y.1, z ≤ reachBytes) : ∃ (A : Option Addr) (n c : Nat) (U : List Us), v = .slice A n c ∧ Uses W A n U NM := by
  obtain ⟨A, n, c, R, e, h1, h2, h3, h4⟩ := rows_trod Us.cells (fun u => u.b.ok W NM) (by decide) (fun _ => rfl) Try.underlying34 Try.cells62 ⟨0, Bg.zero⟩ (fun n _ => use_trod n) h hlt hw
  exact ⟨A, n, c, R, e, h1, Nat.le_trans h2 h3, h4⟩
open Go.Deep Go.WideElems in
set_option maxRecDepth 100000 in
theorem step_trod {H : Type} {enc : TypeId × Value → H} {W : World} (fuel : Nat) (cs : List Value) (y : DataW H × List MemPlace) (h : DataW.trod enc Try.prog W 0 (fun _ => true) true fuel 39 cs = some y) (hlt : ∀ x ∈ y.2, x.block < W.heap.size) (hw : ∀ z ∈ DataW.weights Try.prog 39 y.1, z ≤ reachBytes) : ∃ s : Sp, cs = s.cells ∧ s.ok W NM := by
  obtain ⟨n, hn, hlen, hg⟩ := struct_parts Try.underlying39 h hlt hw
  rw [Try.cells39] at hlen
  obtain ⟨y0, t0, l0, w0⟩ := hg 0 34 0 1 rfl Try.cells34
  obtain ⟨y1, t1, l1, w1⟩ := hg 1 37 1 2 rfl Try.cells37
  clear hg h hlt hw
  match cs, hlen with
  | [u0, u1, u2], _ =>
    simp only [List.drop, List.take] at t0 t1
    obtain ⟨A, n, c, L, rfl, hL⟩ := uses_trod t0 l0 w0
    obtain ⟨b, hb, ho⟩ := big_trod _ _ _ t1 l1 w1
    obtain ⟨rfl, rfl⟩ : u1 = _ ∧ u2 = _ := by simpa [Bg.cells] using hb
    exact ⟨⟨A, n, c, L, b⟩, rfl, hL, ho⟩
open Go.Deep Go.WideElems in
set_option maxRecDepth 100000 in
set_option maxHeartbeats 2000000 in
theorem pf_trod {H : Type} {enc : TypeId × Value → H} {W : World} (fuel : Nat) : ∀ (cs : List Value) (y : DataW H × List MemPlace), DataW.trod enc Try.prog W 0 (fun _ => true) true fuel 52 cs = some y → (∀ x ∈ y.2, x.block < W.heap.size) → (∀ z ∈ DataW.weights Try.prog 52 y.1, z ≤ reachBytes) → ∃ p : Pf, cs = p.cells ∧ PfR W NM p := by
  induction fuel using Nat.strongRecOn with
  | ind fuel ih =>
  intro cs y h hlt hw
  obtain ⟨n, hn, hlen, hg⟩ := struct_parts Try.underlying52 h hlt hw
  rw [Try.cells52] at hlen
  obtain ⟨y0, t0, l0, w0⟩ := hg 0 49 0 1 rfl Try.cells49
  obtain ⟨y1, t1, l1, w1⟩ := hg 1 42 1 1 rfl Try.cells42
  obtain ⟨y2, t2, l2, w2⟩ := hg 2 37 2 2 rfl Try.cells37
  obtain ⟨y3, t3, l3, w3⟩ := hg 3 50 4 1 rfl Try.cells50
  clear hg h hlt hw
  match cs, hlen with
  | [u0, u1, u2, u3, u4], _ =>
    simp only [List.drop, List.take] at t0 t1 t2 t3
    obtain ⟨sA, sn, sc, S, rfl, hS, hs1, hs2, hs3⟩ := rows_trod Sp.cells (fun s => s.ok W NM) (by decide) (fun _ => rfl) Try.underlying49 Try.cells39 ⟨none, 0, 0, [], Bg.zero⟩ (fun n _ => step_trod n) t0 l0 w0
    obtain ⟨fA, fn, fc, F, rfl, hF⟩ := bigs_trod t1 l1 w1
    obtain ⟨b, hb, ho⟩ := big_trod _ _ _ t2 l2 w2
    obtain ⟨rfl, rfl⟩ : u2 = _ ∧ u3 = _ := by simpa [Bg.cells] using hb
    obtain ⟨kA, kn, kc, K, rfl, hK, hk1, hk2, hk3⟩ := rows_trod Pf.cells (fun k => PfR W NM k) (by decide) Pf.cells_len Try.underlying50 Try.cells52 (.mk none 0 0 [] none 0 0 [] Bg.zero none 0 0 []) (fun m hm => ih m (by omega)) t3 l3 w3
    exact ⟨.mk sA sn sc S fA fn fc F b kA kn kc K, rfl, .mk hS hs3 hF ho hK ⟨Nat.le_trans hs1 hs2, Nat.le_trans hk1 hk2⟩ hk3⟩
open Go.Deep Go.WideElems in
set_option maxRecDepth 100000 in
theorem open_iqs {H : Type} {enc : TypeId × Value → H} {W : World} {r : Reach} {b0 : Nat} {v : Value} {d : DataW H} {p : List MemPlace} {ts : List TypeId} {ds : List (DataW H)} {j : Nat}
    (hv : Value.okWide Try.prog W r b0 30 v) (h : DataW.Trod enc Try.prog W 0 (fun _ => true) true 30 v d p) (hlt : ∀ x ∈ p, x.block < W.heap.size)
    (hsz : (DataW.weightsEach Try.prog ts ds).all (· ≤ reachBytes) = true) (hts : ts[j]? = some 30) (hds : ds[j]? = some d) :
    ∃ (A : Option Addr) (n c : Nat) (Q : List Iq), v = .slice A n c ∧ Ineqs W A n Q NM ∧ n ≤ c ∧ c * 56 ≤ 140737488351232 := by
  have hw : ∀ z ∈ DataW.weights Try.prog 30 d, z ≤ reachBytes := fun z hz => by simpa using List.all_eq_true.1 hsz _ (DataW.weights_mem_each hts hds z hz)
  obtain ⟨a0, len, cap, rfl⟩ := okWide_slice Try.underlying30 hv
  obtain ⟨fuel, hf⟩ := h
  exact iqs_trod (v := .slice a0 len cap) hf hlt hw
open Go.Deep Go.WideElems in
set_option maxRecDepth 100000 in
theorem open_bigs {H : Type} {enc : TypeId × Value → H} {W : World} {r : Reach} {b0 : Nat} {v : Value} {d : DataW H} {p : List MemPlace} {ts : List TypeId} {ds : List (DataW H)} {j : Nat}
    (hv : Value.okWide Try.prog W r b0 42 v) (h : DataW.Trod enc Try.prog W 0 (fun _ => true) true 42 v d p) (hlt : ∀ x ∈ p, x.block < W.heap.size)
    (hsz : (DataW.weightsEach Try.prog ts ds).all (· ≤ reachBytes) = true) (hts : ts[j]? = some 42) (hds : ds[j]? = some d) :
    ∃ (A : Option Addr) (n c : Nat) (L : List Bg), v = .slice A n c ∧ Bigs W A n L NM := by
  have hw : ∀ z ∈ DataW.weights Try.prog 42 d, z ≤ reachBytes := fun z hz => by simpa using List.all_eq_true.1 hsz _ (DataW.weights_mem_each hts hds z hz)
  obtain ⟨a0, len, cap, rfl⟩ := okWide_slice Try.underlying42 hv
  obtain ⟨fuel, hf⟩ := h
  exact bigs_trod (v := .slice a0 len cap) hf hlt hw
open Go.Deep Go.WideElems in
set_option maxRecDepth 100000 in
theorem open_uses {H : Type} {enc : TypeId × Value → H} {W : World} {r : Reach} {b0 : Nat} {v : Value} {d : DataW H} {p : List MemPlace} {ts : List TypeId} {ds : List (DataW H)} {j : Nat}
    (hv : Value.okWide Try.prog W r b0 34 v) (h : DataW.Trod enc Try.prog W 0 (fun _ => true) true 34 v d p) (hlt : ∀ x ∈ p, x.block < W.heap.size)
    (hsz : (DataW.weightsEach Try.prog ts ds).all (· ≤ reachBytes) = true) (hts : ts[j]? = some 34) (hds : ds[j]? = some d) :
    ∃ (A : Option Addr) (n c : Nat) (U : List Us), v = .slice A n c ∧ Uses W A n U NM := by
  have hw : ∀ z ∈ DataW.weights Try.prog 34 d, z ≤ reachBytes := fun z hz => by simpa using List.all_eq_true.1 hsz _ (DataW.weights_mem_each hts hds z hz)
  obtain ⟨a0, len, cap, rfl⟩ := okWide_slice Try.underlying34 hv
  obtain ⟨fuel, hf⟩ := h
  exact uses_trod (v := .slice a0 len cap) hf hlt hw
open Go.Deep Go.WideElems in
set_option maxRecDepth 100000 in
theorem open_iq {H : Type} {enc : TypeId × Value → H} {W : World} {r : Reach} {b0 : Nat} {v : Value} {d : DataW H} {p : List MemPlace} {ts : List TypeId} {ds : List (DataW H)} {j : Nat}
    (hv : Value.okWide Try.prog W r b0 44 v) (h : DataW.Trod enc Try.prog W 0 (fun _ => true) true 44 v d p) (hlt : ∀ x ∈ p, x.block < W.heap.size)
    (hsz : (DataW.weightsEach Try.prog ts ds).all (· ≤ reachBytes) = true) (hts : ts[j]? = some 44) (hds : ds[j]? = some d) :
    ∃ q : Iq, v = q.val ∧ q.ok W NM := by
  have hw : ∀ z ∈ DataW.weights Try.prog 44 d, z ≤ reachBytes := fun z hz => by simpa using List.all_eq_true.1 hsz _ (DataW.weights_mem_each hts hds z hz)
  obtain ⟨cs, rfl, _⟩ := okWide_struct Try.underlying44 hv
  obtain ⟨fuel, hf⟩ := h
  obtain ⟨x, hx, hat⟩ := iq_trod _ _ _ hf hlt hw
  refine ⟨x, ?_, hat⟩
  rcases cs with ⟨l⟩
  have : l = x.cells := hx
  subst this
  rfl
open Go.Deep Go.WideElems in
set_option maxRecDepth 100000 in
theorem open_step {H : Type} {enc : TypeId × Value → H} {W : World} {r : Reach} {b0 : Nat} {v : Value} {d : DataW H} {p : List MemPlace} {ts : List TypeId} {ds : List (DataW H)} {j : Nat}
    (hv : Value.okWide Try.prog W r b0 39 v) (h : DataW.Trod enc Try.prog W 0 (fun _ => true) true 39 v d p) (hlt : ∀ x ∈ p, x.block < W.heap.size)
    (hsz : (DataW.weightsEach Try.prog ts ds).all (· ≤ reachBytes) = true) (hts : ts[j]? = some 39) (hds : ds[j]? = some d) :
    ∃ s : Sp, v = s.val ∧ s.ok W NM := by
  have hw : ∀ z ∈ DataW.weights Try.prog 39 d, z ≤ reachBytes := fun z hz => by simpa using List.all_eq_true.1 hsz _ (DataW.weights_mem_each hts hds z hz)
  obtain ⟨cs, rfl, _⟩ := okWide_struct Try.underlying39 hv
  obtain ⟨fuel, hf⟩ := h
  obtain ⟨x, hx, hat⟩ := step_trod _ _ _ hf hlt hw
  refine ⟨x, ?_, hat⟩
  rcases cs with ⟨l⟩
  have : l = x.cells := hx
  subst this
  rfl
open Go.Deep Go.WideElems in
set_option maxRecDepth 100000 in
theorem open_pf {H : Type} {enc : TypeId × Value → H} {W : World} {r : Reach} {b0 : Nat} {v : Value} {d : DataW H} {p : List MemPlace} {ts : List TypeId} {ds : List (DataW H)} {j : Nat}
    (hv : Value.okWide Try.prog W r b0 52 v) (h : DataW.Trod enc Try.prog W 0 (fun _ => true) true 52 v d p) (hlt : ∀ x ∈ p, x.block < W.heap.size)
    (hsz : (DataW.weightsEach Try.prog ts ds).all (· ≤ reachBytes) = true) (hts : ts[j]? = some 52) (hds : ds[j]? = some d) :
    ∃ x : Pf, v = x.val ∧ PfR W NM x := by
  have hw : ∀ z ∈ DataW.weights Try.prog 52 d, z ≤ reachBytes := fun z hz => by simpa using List.all_eq_true.1 hsz _ (DataW.weights_mem_each hts hds z hz)
  obtain ⟨cs, rfl, _⟩ := okWide_struct Try.underlying52 hv
  obtain ⟨fuel, hf⟩ := h
  obtain ⟨x, hx, hat⟩ := pf_trod _ _ _ hf hlt hw
  refine ⟨x, ?_, hat⟩
  rcases cs with ⟨l⟩
  have : l = x.cells := hx
  subst this
  rfl
end Go.Proofs.Ythfolccofjaknaa
