/- Arguments opened: rows of bounds, a bound, a constraint, small arrays, rows of int16. -/
import Derived.Test.YtbmofagaammgmaaDrf
import Derived.Test.YtbmofagaammgmaaBas
import Derived.Deep.Fields
namespace Go.Proofs.Ytbmofagaammgmaa
open Go.ChangeShapes Go.WideShapes Go.ChangeAt Go.RowKit Go.ChangeMaps

theorem i64_bdx {n : Int} (h : (Lit.int .i64 n).wf = true) : -9223372036854775808 ≤ n ∧ n ≤ 9223372036854775807 := by
  have h1 : IntKind.i64.min = -9223372036854775808 := rfl
  have h2 : IntKind.i64.max = 9223372036854775807 := rfl
  simp only [Lit.wf, Bool.and_eq_true, decide_eq_true_eq, h1, h2] at h
  exact h
theorem u8_bdx {n : Int} (h : (Lit.int .u8 n).wf = true) : 0 ≤ n ∧ n ≤ 255 := by
  have h1 : IntKind.u8.min = 0 := rfl
  have h2 : IntKind.u8.max = 255 := rfl
  simp only [Lit.wf, Bool.and_eq_true, decide_eq_true_eq, h1, h2] at h
  exact h
theorem i16_bdx {n : Int} (h : (Lit.int .i16 n).wf = true) : -32768 ≤ n ∧ n ≤ 32767 := by
  have h1 : IntKind.i16.min = -32768 := rfl
  have h2 : IntKind.i16.max = 32767 := rfl
  simp only [Lit.wf, Bool.and_eq_true, decide_eq_true_eq, h1, h2] at h
  exact h
structure Rb where
  i : Int
  j : Int
  c : Int
def Rb.zero : Rb := ⟨0, 0, 0⟩
def Rb.cells (x : Rb) : List Value := [.int .i64 x.i, .int .i64 x.j, .int .i64 x.c]
structure Cfx where
  v : Int
  n : Int
def Cfx.zero : Cfx := ⟨0, 0⟩
def Cfx.cells (x : Cfx) : List Value := [.int .i64 x.v, .int .i64 x.n]
theorem at_flat {α : Type} {w : World} (f : α → List Value) (m : Nat) (hf : ∀ a, (f a).length = m) (hm : 0 < m) (L : List α) (n b off : Nat) (hL : L.length = n) (hb : 0 < n → b < w.heap.size)
    (h : ∀ i (hi : i < L.length) r v, r < m → (f L[i])[r]? = some v → w.cell? ⟨b, off + i * m + r, none⟩ = some v) : At w (some ⟨b, off, none⟩) n m (L.flatMap f) := by
  refine ⟨by rw [flat_len f m hf, hL], fun hn => ⟨b, off, rfl, hb hn, fun j v hj => ?_⟩⟩
  have hj2 : j < (L.flatMap f).length := (List.getElem?_eq_some_iff.1 hj).1
  rw [flat_len f m hf] at hj2
  have hi : j / m < L.length := Nat.div_lt_of_lt_mul (by rw [Nat.mul_comm]; exact hj2)
  have hr : j % m < m := Nat.mod_lt _ hm
  have he : j / m * m + j % m = j := by rw [Nat.mul_comm]; exact Nat.div_add_mod j m
  have h1 := h (j / m) hi (j % m) v hr
  rw [← flat_get f m hf L (j / m) (j % m) hi hr, he] at h1
  rw [← h1 hj]
  congr 2
  omega
def Rb.in (x : Rb) : Prop := (-9223372036854775808 ≤ x.i ∧ x.i ≤ 9223372036854775807) ∧ (-9223372036854775808 ≤ x.j ∧ x.j ≤ 9223372036854775807) ∧ (-9223372036854775808 ≤ x.c ∧ x.c ≤ 9223372036854775807)
theorem Try.cellsE41 : Try.prog.cellsOf 41 = 3 := by kernel_rfl
open Go.Deep Go.WideElems in
set_option maxRecDepth 100000 in
theorem bds_trod {H : Type} {enc : TypeId × Value → H} {W : World} {v : Value} {fuel : Nat} {y : DataW H × List MemPlace} (h : DataW.trod enc Try.prog W 0 (fun _ => true) true fuel 22 [v] = some y) (hlt : ∀ x ∈ y.2, x.block < W.heap.size) (hw : ∀ z ∈ DataW.weights Try.prog 22 y.1, z ≤ reachBytes) :
    ∃ (A : Option Addr) (n c : Nat) (R : List Rb), v = .slice A n c ∧ At W A n 3 (R.flatMap Rb.cells) ∧ n ≤ c ∧ c ≤ 9223372036854775807 ∧ ∀ x ∈ R, x.in := by
  rcases open_slice_fields Try.underlying22 Try.underlying41 (by kernel_rfl) Try.cellsE41 h with ⟨hcs, hx⟩ | ⟨a, len, cap, m, D, Pl, hcs, _, hl, hm, hmm, hx, hi⟩
  · obtain rfl : v = .slice none 0 0 := by simpa using hcs
    exact ⟨_, _, _, [], rfl, ⟨rfl, fun h => absurd h (by omega)⟩, by omega, by omega, fun x hx => by cases hx⟩
  · obtain rfl : v = .slice (some a) len cap := by simpa using hcs
    simp only [if_true] at hmm
    subst hmm
    subst hx
    unfold maxLen at hm
    have key : ∀ i, i < len → ∃ x : Rb, x.in ∧ ∀ r u, r < 3 → x.cells[r]? = some u → W.cell? (a.add (i * 3 + r)) = some u := by
      intro i hil
      obtain ⟨ys, nn, hD, _, hyl, hfs⟩ := hi i (by omega)
      obtain ⟨v0, y0, e0, k0, t0⟩ := hfs 0 _ rfl
      obtain ⟨v1, y1, e1, k1, t1⟩ := hfs 1 _ rfl
      obtain ⟨v2, y2, e2, k2, t2⟩ := hfs 2 _ rfl
      obtain ⟨z0, g0, rfl, w0⟩ := DataW.trod_int Try.underlying3 t0
      obtain rfl : v0 = .int .i64 z0 := by simpa using g0
      obtain ⟨z1, g1, rfl, w1⟩ := DataW.trod_int Try.underlying3 t1
      obtain rfl : v1 = .int .i64 z1 := by simpa using g1
      obtain ⟨z2, g2, rfl, w2⟩ := DataW.trod_int Try.underlying2 t2
      obtain rfl : v2 = .int .i64 z2 := by simpa using g2
      refine ⟨⟨z0, z1, z2⟩, ⟨i64_bdx w0, i64_bdx w1, i64_bdx w2⟩, fun r u hr hu => ?_⟩
      match r, hr with
      | 0, _ => obtain rfl := (Option.some.inj hu); exact e0
      | 1, _ => obtain rfl := (Option.some.inj hu); exact e1
      | 2, _ => obtain rfl := (Option.some.inj hu); exact e2
    obtain ⟨f, hfp⟩ : ∃ f : Nat → Rb, ∀ i, i < len → (f i).in ∧ ∀ r u, r < 3 → (f i).cells[r]? = some u → W.cell? (a.add (i * 3 + r)) = some u := by
      rcases Nat.eq_zero_or_pos len with h0 | h0
      · obtain ⟨g⟩ : Nonempty (Nat → Rb) := ⟨fun _ => Rb.zero⟩
        exact ⟨g, fun i h => by omega⟩
      · exact ⟨fun i => if h : i < len then Classical.choose (key i h) else Rb.zero, fun i h => by simp only [dif_pos h]; exact Classical.choose_spec (key i h)⟩
    refine ⟨_, _, _, (List.range len).map f, rfl, ?_, hl, by omega, fun x hx => ?_⟩
    · rcases Nat.eq_zero_or_pos len with h0 | hn
      · subst h0
        exact ⟨by simp, fun h => absurd h (by omega)⟩
      obtain ⟨b, off, spot⟩ := a
      have hspot : spot = none := by
        have := (hfp 0 hn).2 0 _ (by decide) rfl
        simpa [Addr.add] using World.cell?_spot this
      subst hspot
      refine at_flat Rb.cells 3 (fun _ => rfl) (by decide) _ _ _ _ (by simp) (fun _ => ?_) (fun i hi r u hr hu => ?_)
      · exact hlt (.cell b off) (List.mem_append_left _ (MemPlace.mem_row.2 ⟨0, by have : 0 < m := (by omega); show 0 < m * 3; omega, by simp⟩))
      · have hil : i < len := by simpa using hi
        have := (hfp i hil).2 r u hr (by simpa using hu)
        simp only [add_plain] at this
        rw [Nat.add_assoc]
        exact this
    · obtain ⟨i, hi, rfl⟩ := List.mem_map.1 hx
      exact (hfp i (List.mem_range.1 hi)).1
theorem open_bds {H : Type} {enc : TypeId × Value → H} {W : World} {r : Reach} {b0 : Nat} {v : Value} {d : DataW H} {p : List MemPlace} {ts : List TypeId} {ds : List (DataW H)} {j : Nat}
    (hv : Value.okWide Try.prog W r b0 22 v) (h : DataW.Trod enc Try.prog W 0 (fun _ => true) true 22 v d p) (hlt : ∀ x ∈ p, x.block < W.heap.size)
    (hsz : (DataW.weightsEach Try.prog ts ds).all (· ≤ reachBytes) = true) (hts : ts[j]? = some 22) (hds : ds[j]? = some d) :
    ∃ (A : Option Addr) (n c : Nat) (R : List Rb), v = .slice A n c ∧ At W A n 3 (R.flatMap Rb.cells) ∧ n ≤ 9223372036854775807 ∧ ∀ x ∈ R, x.in := by
  obtain ⟨a0, len, cap, rfl⟩ := okWide_slice Try.underlying22 hv
  obtain ⟨fuel, hf⟩ := h
  obtain ⟨A, n, c, R, e, h1, h2, h3, h4⟩ := bds_trod (v := .slice a0 len cap) hf hlt (fun z hz => by simpa using List.all_eq_true.1 hsz _ (DataW.weights_mem_each hts hds z hz))
  exact ⟨A, n, c, R, e, h1, by omega, h4⟩
def Cfx.in (x : Cfx) : Prop := (-9223372036854775808 ≤ x.v ∧ x.v ≤ 9223372036854775807) ∧ (-9223372036854775808 ≤ x.n ∧ x.n ≤ 9223372036854775807)
theorem Try.cellsE77 : Try.prog.cellsOf 77 = 2 := by kernel_rfl
open Go.Deep Go.WideElems in
set_option maxRecDepth 100000 in
theorem cfx_trod {H : Type} {enc : TypeId × Value → H} {W : World} {v : Value} {fuel : Nat} {y : DataW H × List MemPlace} (h : DataW.trod enc Try.prog W 0 (fun _ => true) true fuel 48 [v] = some y) (hlt : ∀ x ∈ y.2, x.block < W.heap.size) (hw : ∀ z ∈ DataW.weights Try.prog 48 y.1, z ≤ reachBytes) :
    ∃ (A : Option Addr) (n c : Nat) (R : List Cfx), v = .slice A n c ∧ At W A n 2 (R.flatMap Cfx.cells) ∧ n ≤ c ∧ c ≤ 9223372036854775807 ∧ ∀ x ∈ R, x.in := by
  rcases open_slice_fields Try.underlying48 Try.underlying77 (by kernel_rfl) Try.cellsE77 h with ⟨hcs, hx⟩ | ⟨a, len, cap, m, D, Pl, hcs, _, hl, hm, hmm, hx, hi⟩
  · obtain rfl : v = .slice none 0 0 := by simpa using hcs
    exact ⟨_, _, _, [], rfl, ⟨rfl, fun h => absurd h (by omega)⟩, by omega, by omega, fun x hx => by cases hx⟩
  · obtain rfl : v = .slice (some a) len cap := by simpa using hcs
    simp only [if_true] at hmm
    subst hmm
    subst hx
    unfold maxLen at hm
    have key : ∀ i, i < len → ∃ x : Cfx, x.in ∧ ∀ r u, r < 2 → x.cells[r]? = some u → W.cell? (a.add (i * 2 + r)) = some u := by
      intro i hil
      obtain ⟨ys, nn, hD, _, hyl, hfs⟩ := hi i (by omega)
      obtain ⟨v0, y0, e0, k0, t0⟩ := hfs 0 _ rfl
      obtain ⟨v1, y1, e1, k1, t1⟩ := hfs 1 _ rfl
      obtain ⟨z0, g0, rfl, w0⟩ := DataW.trod_int Try.underlying3 t0
      obtain rfl : v0 = .int .i64 z0 := by simpa using g0
      obtain ⟨z1, g1, rfl, w1⟩ := DataW.trod_int Try.underlying2 t1
      obtain rfl : v1 = .int .i64 z1 := by simpa using g1
      refine ⟨⟨z0, z1⟩, ⟨i64_bdx w0, i64_bdx w1⟩, fun r u hr hu => ?_⟩
      match r, hr with
      | 0, _ => obtain rfl := (Option.some.inj hu); exact e0
      | 1, _ => obtain rfl := (Option.some.inj hu); exact e1
    obtain ⟨f, hfp⟩ : ∃ f : Nat → Cfx, ∀ i, i < len → (f i).in ∧ ∀ r u, r < 2 → (f i).cells[r]? = some u → W.cell? (a.add (i * 2 + r)) = some u := by
      rcases Nat.eq_zero_or_pos len with h0 | h0
      · obtain ⟨g⟩ : Nonempty (Nat → Cfx) := ⟨fun _ => Cfx.zero⟩
        exact ⟨g, fun i h => by omega⟩
      · exact ⟨fun i => if h : i < len then Classical.choose (key i h) else Cfx.zero, fun i h => by simp only [dif_pos h]; exact Classical.choose_spec (key i h)⟩
    refine ⟨_, _, _, (List.range len).map f, rfl, ?_, hl, by omega, fun x hx => ?_⟩
    · rcases Nat.eq_zero_or_pos len with h0 | hn
      · subst h0
        exact ⟨by simp, fun h => absurd h (by omega)⟩
      obtain ⟨b, off, spot⟩ := a
      have hspot : spot = none := by
        have := (hfp 0 hn).2 0 _ (by decide) rfl
        simpa [Addr.add] using World.cell?_spot this
      subst hspot
      refine at_flat Cfx.cells 2 (fun _ => rfl) (by decide) _ _ _ _ (by simp) (fun _ => ?_) (fun i hi r u hr hu => ?_)
      · exact hlt (.cell b off) (List.mem_append_left _ (MemPlace.mem_row.2 ⟨0, by have : 0 < m := (by omega); show 0 < m * 2; omega, by simp⟩))
      · have hil : i < len := by simpa using hi
        have := (hfp i hil).2 r u hr (by simpa using hu)
        simp only [add_plain] at this
        rw [Nat.add_assoc]
        exact this
    · obtain ⟨i, hi, rfl⟩ := List.mem_map.1 hx
      exact (hfp i (List.mem_range.1 hi)).1
open Go.Deep Go.WideElems in
theorem struct_parts {H : Type} {enc : TypeId × Value → H} {P : Program} {W : World} {t : TypeId} {fs : Array Field} {fuel : Nat} {cs : List Value} {y : DataW H × List MemPlace} (ht : P.underlying t = some (.struct fs))
    (h : DataW.trod enc P W 0 (fun _ => true) true fuel t cs = some y) (hlt : ∀ x ∈ y.2, x.block < W.heap.size) (hw : ∀ z ∈ DataW.weights P t y.1, z ≤ reachBytes) :
    ∃ n, fuel = n + 1 ∧ cs.length = P.cellsOf t ∧ ∀ (j : Nat) (T : TypeId) (o k : Nat), fs[j]?.map (fun f => (f.type, f.offset)) = some (T, o) → P.cellsOf T = k → ∃ y', DataW.trod enc P W 0 (fun _ => true) true n T ((cs.drop o).take k) = some y' ∧ (∀ x ∈ y'.2, x.block < W.heap.size) ∧ (∀ z ∈ DataW.weights P T y'.1, z ≤ reachBytes) := by
  obtain ⟨ys, n, hn, hy, hlen, hyl, hg⟩ := DataW.trod_struct ht h
  subst hy
  refine ⟨n, hn, hlen, fun j T o k hj0 hk => ?_⟩
  obtain ⟨f, hj, he⟩ := Option.map_eq_some_iff.1 hj0
  injection he with he1 he2
  subst he1 he2 hk
  have hjl : j < ys.length := by rw [hyl]; exact (Array.getElem?_eq_some_iff.1 hj).1
  have hys : ys[j]? = some ys[j] := List.getElem?_eq_getElem hjl
  refine ⟨ys[j], (hg j f hj).trans hys, fun x hx => hlt x (List.mem_flatMap.2 ⟨_, List.getElem_mem _, hx⟩), fun z hz => hw z ?_⟩
  simp only [DataW.weights, ht]
  refine DataW.weights_mem_each (j := j) (t := f.type) ?_ (by rw [List.getElem?_map, hys]; rfl) z hz
  have : fs.toList[j]? = some f := by simpa using hj
  rw [List.getElem?_map, this]; rfl
open Go.Deep Go.WideElems in
theorem int_part {H : Type} {enc : TypeId × Value → H} {P : Program} {W : World} {t : TypeId} {fuel : Nat} {v : Value} {y : DataW H × List MemPlace} (ht : P.underlying t = some (.int .i64)) (h : DataW.trod enc P W 0 (fun _ => true) true fuel t [v] = some y) :
    ∃ n : Int, v = .int .i64 n ∧ -9223372036854775808 ≤ n ∧ n ≤ 9223372036854775807 := by
  obtain ⟨n, hcs, _, w⟩ := DataW.trod_int ht h
  exact ⟨n, by simpa using hcs, i64_bdx w⟩
theorem Try.cells2 : Try.prog.cellsOf 2 = 1 := by kernel_rfl
theorem Try.cells4 : Try.prog.cellsOf 4 = 1 := by kernel_rfl
theorem Try.cells5 : Try.prog.cellsOf 5 = 1 := by kernel_rfl
theorem Try.cells48 : Try.prog.cellsOf 48 = 1 := by kernel_rfl
theorem Try.cells50 : Try.prog.cellsOf 50 = 2 := by kernel_rfl
theorem Try.cells52 : Try.prog.cellsOf 52 = 3 := by kernel_rfl
open Go.Deep Go.WideElems in
set_option maxRecDepth 100000 in
theorem open_con {H : Type} {enc : TypeId × Value → H} {W : World} {r : Reach} {b0 : Nat} {v : Value} {d : DataW H} {p : List MemPlace} {ts : List TypeId} {ds : List (DataW H)} {j : Nat}
    (hv : Value.okWide Try.prog W r b0 52 v) (h : DataW.Trod enc Try.prog W 0 (fun _ => true) true 52 v d p) (hlt : ∀ x ∈ p, x.block < W.heap.size)
    (hsz : (DataW.weightsEach Try.prog ts ds).all (· ≤ reachBytes) = true) (hts : ts[j]? = some 52) (hds : ds[j]? = some d) :
    ∃ (k : Int) (A : Option Addr) (n c : Nat) (C : List (Int × Int)) (e : Bool), v = .agg #[.int .i64 k, .slice A n c, .bool e] ∧ Cfs W A n C ∧ n ≤ 9223372036854775807 := by
  have hw : ∀ z ∈ DataW.weights Try.prog 52 d, z ≤ reachBytes := fun z hz => by simpa using List.all_eq_true.1 hsz _ (DataW.weights_mem_each hts hds z hz)
  obtain ⟨cs, rfl, hcz⟩ := okWide_struct Try.underlying52 hv
  rw [Try.cells52] at hcz
  obtain ⟨fuel, hf⟩ := h
  obtain ⟨m, hm, _, hg⟩ := struct_parts Try.underlying52 hf hlt hw
  obtain ⟨y0, t0, l0, w0⟩ := hg 0 50 0 2 rfl Try.cells50
  obtain ⟨y1, t1, l1, w1⟩ := hg 1 4 2 1 rfl Try.cells4
  clear hg hf
  rcases cs with ⟨l⟩
  have hl : l.length = 3 := by simpa using hcz
  match l, hl with
  | [u0, u1, u2], _ =>
    simp only [Value.cells, List.drop, List.take] at t0 t1
    obtain ⟨m', hm', _, hg'⟩ := struct_parts Try.underlying50 t0 l0 w0
    obtain ⟨z0, s0, k0, x0⟩ := hg' 0 2 0 1 rfl Try.cells2
    obtain ⟨z1, s1, k1, x1⟩ := hg' 1 48 1 1 rfl Try.cells48
    simp only [List.drop, List.take] at s0 s1
    obtain ⟨k, rfl, -, -⟩ := int_part Try.underlying2 s0
    obtain ⟨A, n, c, R, rfl, hR, hn, hc, -⟩ := cfx_trod s1 k1 x1
    obtain ⟨e, he, -⟩ := DataW.trod_bool Try.underlying4 t1
    obtain rfl : u2 = .bool e := by simpa using he
    refine ⟨k, A, n, c, R.map (fun x => (x.v, x.n)), e, rfl, ?_, by omega⟩
    unfold Cfs
    rw [List.flatMap_map]
    exact hR
theorem Try.cells41 : Try.prog.cellsOf 41 = 3 := by kernel_rfl
open Go.Deep Go.WideElems in
set_option maxRecDepth 100000 in
theorem open_bd {H : Type} {enc : TypeId × Value → H} {W : World} {r : Reach} {b0 : Nat} {v : Value} {d : DataW H} {p : List MemPlace}
    (hv : Value.okWide Try.prog W r b0 41 v) (h : DataW.Trod enc Try.prog W 0 (fun _ => true) true 41 v d p) (hlt : ∀ x ∈ p, x.block < W.heap.size) :
    ∃ (x0 : Int) (x1 : Int) (x2 : Int), v = .agg #[.int .i64 x0, .int .i64 x1, .int .i64 x2] ∧ (-9223372036854775808 ≤ x0 ∧ x0 ≤ 9223372036854775807) ∧ (-9223372036854775808 ≤ x1 ∧ x1 ≤ 9223372036854775807) ∧ (-9223372036854775808 ≤ x2 ∧ x2 ≤ 9223372036854775807) := by
  obtain ⟨cs, rfl, hsz⟩ := okWide_struct Try.underlying41 hv
  rw [Try.cells41] at hsz
  obtain ⟨fuel, hf⟩ := h
  obtain ⟨ys, n', hn', hy, hlen, hyl, hg⟩ := DataW.trod_struct Try.underlying41 hf
  simp only [Prod.mk.injEq] at hy
  obtain ⟨-, hp⟩ := hy
  rcases cs with ⟨l⟩
  have hl4 : l.length = 3 := by simpa using hsz
  have key : ∀ (j : Nat) (f : Field) (u : Value), (match Try.prog.underlying 41 with | some (.struct fs) => fs[j]? | _ => none) = some f → l[j]? = some u → ∃ y, DataW.trod enc Try.prog W 0 (fun _ => true) true n' f.type [u] = some y ∧ ∀ x ∈ y.2, x.block < W.heap.size := by
    intro j f u hj hu
    rw [Try.underlying41] at hj
    obtain ⟨ho, hk⟩ := hone_of (P := Try.prog) (by kernel_rfl) j f hj
    have h1 := hg j f hj
    rw [ho, hk] at h1
    have hjl : j < l.length := (List.getElem?_eq_some_iff.1 hu).1
    have hys : ys[j]? = some (ys[j]'(by rw [hyl]; have := (Array.getElem?_eq_some_iff.1 hj).1; simpa using this)) := List.getElem?_eq_getElem _
    have hone' : ((Value.cells (.agg ⟨l⟩)).toList.drop j).take 1 = [u] := by
      show (l.drop j).take 1 = [u]
      rw [List.drop_eq_getElem_cons hjl]
      have := (List.getElem?_eq_some_iff.1 hu).2
      simp [this]
    rw [hone'] at h1
    refine ⟨_, h1.trans hys, fun x hx => hlt x ?_⟩
    rw [hp]
    exact List.mem_flatMap.2 ⟨_, List.getElem_mem _, hx⟩
  match l, hl4 with
  | [u0, u1, u2], _ =>
    obtain ⟨y0, t0, hl0⟩ := key 0 _ u0 (by rw [Try.underlying41]; rfl) rfl
    obtain ⟨y1, t1, hl1⟩ := key 1 _ u1 (by rw [Try.underlying41]; rfl) rfl
    obtain ⟨y2, t2, hl2⟩ := key 2 _ u2 (by rw [Try.underlying41]; rfl) rfl
    obtain ⟨x0, g0, _, w0⟩ := DataW.trod_int Try.underlying3 t0
    obtain rfl : u0 = .int .i64 x0 := by simpa using g0
    obtain ⟨x1, g1, _, w1⟩ := DataW.trod_int Try.underlying3 t1
    obtain rfl : u1 = .int .i64 x1 := by simpa using g1
    obtain ⟨x2, g2, _, w2⟩ := DataW.trod_int Try.underlying2 t2
    obtain rfl : u2 = .int .i64 x2 := by simpa using g2
    exact ⟨x0, x1, x2, rfl, i64_bdx w0, i64_bdx w1, i64_bdx w2⟩

theorem open_arr2 {H : Type} {enc : TypeId × Value → H} {w : World} {base : Nat} {spare : Nat → Bool} {held : Bool} {r : Reach} {b0 : Nat} {v : Value} {d : DataW H} {p : List MemPlace} (hv : Value.okWide Try.prog w r b0 39 v) (h : DataW.Trod enc Try.prog w base spare held 39 v d p) :
    ∃ x0 x1 : Int, v = .agg #[.int .u8 x0, .int .u8 x1] ∧ (0 ≤ x0 ∧ x0 ≤ 255) ∧ (0 ≤ x1 ∧ x1 ≤ 255) := by
  have hC : Try.prog.cellsOf 39 = 2 := by kernel_rfl
  simp only [Value.okWide, Try.underlying39] at hv
  obtain ⟨cs, rfl, hsz, _⟩ := hv
  rw [hC] at hsz
  obtain ⟨fuel, hf⟩ := h
  obtain ⟨xs, m, _, _, hl, hlen, hg⟩ := DataW.trod_array Try.underlying39 hf
  have key : ∀ i, i < 2 → ∃ x : Int, cs[i]? = some (.int .u8 x) ∧ 0 ≤ x ∧ x ≤ 255 := by
    intro i hi
    have h1 := hg i hi
    rw [Try.cells5, Nat.mul_one] at h1
    have hx : xs[i]? = some (xs[i]'(by omega)) := List.getElem?_eq_getElem (by omega)
    have hcl : i < cs.toList.length := by simpa using (show i < cs.size by omega)
    have hone : ((Value.agg cs).cells.toList.drop i).take 1 = [cs.toList[i]] := by
      show (cs.toList.drop i).take 1 = _
      rw [List.drop_eq_getElem_cons hcl]; rfl
    rw [hone, hx] at h1
    obtain ⟨a, e, _, wf⟩ := DataW.trod_int Try.underlying5 h1
    obtain ⟨b1, b2⟩ := u8_bdx wf
    refine ⟨a, ?_, b1, b2⟩
    have e2 : cs.toList[i] = .int .u8 a := by simpa using e
    rw [← e2]
    simp
  obtain ⟨x0, e0, b0⟩ := key 0 (by omega)
  obtain ⟨x1, e1, b1⟩ := key 1 (by omega)
  refine ⟨x0, x1, ?_, b0, b1⟩
  clear hg hlen hl hf key
  rcases cs with ⟨l⟩
  have hsz : l.length = 2 := hsz
  match l, hsz with
  | [u0, u1], _ =>
    simp at e0 e1
    rw [e0, e1]
end Go.Proofs.Ytbmofagaammgmaa
