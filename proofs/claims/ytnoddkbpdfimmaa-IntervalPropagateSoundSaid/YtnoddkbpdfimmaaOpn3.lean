/- The arguments opened: constraints, a problem, a linear form, integers. -/
import Derived.Test.YtnoddkbpdfimmaaOpn
import Derived.Test.YtnoddkbpdfimmaaIvu
namespace Go.Proofs.Ytnoddkbpdfimmaa
open Go.ChangeShapes Go.WideShapes Go.ChangeAt Go.RowKit Go.ChangeMaps

theorem Try.cellsE61 : Try.prog.cellsOf 61 = 2 := by kernel_rfl
open Go.Deep Go.WideElems in
set_option maxRecDepth 100000 in
theorem co_trod {H : Type} {enc : TypeId × Value → H} {W : World} {v : Value} {fuel : Nat} {y : DataW H × List MemPlace} (h : DataW.trod enc Try.prog W 0 (fun _ => true) true fuel 54 [v] = some y) (hlt : ∀ x ∈ y.2, x.block < W.heap.size) :
    ∃ (A : Option Addr) (n c : Nat) (R : List Iv), v = .slice A n c ∧ At W A n 2 (R.flatMap Iv.cells) ∧ n ≤ c ∧ c ≤ 9223372036854775807 ∧ ∀ x ∈ R, x.in := by
  rcases open_slice_fields Try.underlying54 Try.underlying61 (by kernel_rfl) Try.cellsE61 h with ⟨hcs, hx⟩ | ⟨a, len, cap, m, D, Pl, hcs, _, hl, hm, hmm, hx, hi⟩
  · obtain rfl : v = .slice none 0 0 := by simpa using hcs
    exact ⟨_, _, _, [], rfl, ⟨rfl, fun h => absurd h (by omega)⟩, by omega, by omega, fun x hx => by cases hx⟩
  · obtain rfl : v = .slice (some a) len cap := by simpa using hcs
    simp only [if_true] at hmm
    subst hmm
    subst hx
    unfold maxLen at hm
    have key : ∀ i, i < len → ∃ x : Iv, x.in ∧ ∀ r u, r < 2 → x.cells[r]? = some u → W.cell? (a.add (i * 2 + r)) = some u := by
      intro i hil
      obtain ⟨ys, nn, hD, _, hyl, hfs⟩ := hi i (by omega)
      obtain ⟨v0, y0, e0, k0, t0⟩ := hfs 0 _ rfl
      obtain ⟨v1, y1, e1, k1, t1⟩ := hfs 1 _ rfl
      obtain ⟨z0, g0, rfl, w0⟩ := DataW.trod_int Try.underlying3 t0
      obtain rfl : v0 = .int .i64 z0 := by simpa using g0
      obtain ⟨z1, g1, rfl, w1⟩ := DataW.trod_int Try.underlying2 t1
      obtain rfl : v1 = .int .i64 z1 := by simpa using g1
      refine ⟨⟨z0, z1⟩, ⟨i64_bdx w0, i64_bdx w1⟩, fun r u hr hu => ?_⟩
      match r, hr with
      | 0, _ => obtain rfl := (Option.some.inj hu); exact e0
      | 1, _ => obtain rfl := (Option.some.inj hu); exact e1
    obtain ⟨f, hfp⟩ : ∃ f : Nat → Iv, ∀ i, i < len → (f i).in ∧ ∀ r u, r < 2 → (f i).cells[r]? = some u → W.cell? (a.add (i * 2 + r)) = some u := by
      rcases Nat.eq_zero_or_pos len with h0 | h0
      · obtain ⟨g⟩ : Nonempty (Nat → Iv) := ⟨fun _ => Iv.zero⟩
        exact ⟨g, fun i h => by omega⟩
      · exact ⟨fun i => if h : i < len then Classical.choose (key i h) else Iv.zero, fun i h => by simp only [dif_pos h]; exact Classical.choose_spec (key i h)⟩
    refine ⟨_, _, _, (List.range len).map f, rfl, ?_, hl, by omega, fun x hx => ?_⟩
    · rcases Nat.eq_zero_or_pos len with h0 | hn
      · subst h0
        exact ⟨by simp, fun h => absurd h (by omega)⟩
      obtain ⟨b, off, spot⟩ := a
      have hspot : spot = none := by
        have := (hfp 0 hn).2 0 _ (by decide) rfl
        simpa [Addr.add] using World.cell?_spot this
      subst hspot
      refine at_flat Iv.cells 2 (fun _ => rfl) (by decide) _ _ _ _ (by simp) (fun _ => ?_) (fun i hi r u hr hu => ?_)
      · exact hlt (.cell b off) (List.mem_append_left _ (MemPlace.mem_row.2 ⟨0, by have : 0 < m := (by omega); show 0 < m * 2; omega, by simp⟩))
      · have hil : i < len := by simpa using hi
        have := (hfp i hil).2 r u hr (by simpa using hu)
        simp only [add_plain] at this
        rw [Nat.add_assoc]
        exact this
    · obtain ⟨i, hi, rfl⟩ := List.mem_map.1 hx
      exact (hfp i (List.mem_range.1 hi)).1
theorem Try.cells56 : Try.prog.cellsOf 56 = 2 := by kernel_rfl
theorem Try.cells58 : Try.prog.cellsOf 58 = 3 := by kernel_rfl
theorem Try.cells45 : Try.prog.cellsOf 45 = 2 := by kernel_rfl
theorem Try.cells54 : Try.prog.cellsOf 54 = 1 := by kernel_rfl
theorem Try.cells43 : Try.prog.cellsOf 43 = 1 := by kernel_rfl
theorem Try.cells22 : Try.prog.cellsOf 22 = 1 := by kernel_rfl
theorem Try.cells2 : Try.prog.cellsOf 2 = 1 := by kernel_rfl
theorem Try.cells4 : Try.prog.cellsOf 4 = 1 := by kernel_rfl
open Go.Deep Go.WideElems in
set_option maxRecDepth 100000 in
theorem lin_trod {H : Type} {enc : TypeId × Value → H} {W : World} {u0 u1 : Value} {fuel : Nat} {y : DataW H × List MemPlace} (h : DataW.trod enc Try.prog W 0 (fun _ => true) true fuel 56 [u0, u1] = some y) (hlt : ∀ x ∈ y.2, x.block < W.heap.size) :
    ∃ (c : Int) (A : Option Addr) (n cap : Nat) (L : List Iv), u0 = .int .i64 c ∧ u1 = .slice A n cap ∧ Ivs W A n L ∧ n ≤ cap ∧ cap ≤ 9223372036854775807 := by
  obtain ⟨y0, y1, m, rfl, -, h0, h1⟩ := trod_struct2 Try.underlying56 h
  have h0' : DataW.trod enc Try.prog W 0 (fun _ => true) true m 2 [u0] = some y0 := by
    rw [Try.cells2] at h0
    exact h0
  have h1' : DataW.trod enc Try.prog W 0 (fun _ => true) true m 54 [u1] = some y1 := by
    rw [Try.cells54] at h1
    exact h1
  obtain ⟨c, g0, -, -⟩ := DataW.trod_int Try.underlying2 h0'
  obtain rfl : u0 = .int .i64 c := by simpa using g0
  obtain ⟨A, n, cap, L, rfl, hA, hn, hc, -⟩ := co_trod h1' (fun x hx => hlt x (List.mem_append_right _ hx))
  exact ⟨c, A, n, cap, L, rfl, rfl, hA, hn, hc⟩
open Go.Deep Go.WideElems in
set_option maxRecDepth 100000 in
theorem cn_trod {H : Type} {enc : TypeId × Value → H} {W : World} {cs : List Value} {fuel : Nat} {y : DataW H × List MemPlace} (h : DataW.trod enc Try.prog W 0 (fun _ => true) true fuel 58 cs = some y) (hlt : ∀ x ∈ y.2, x.block < W.heap.size) :
    ∃ x : Cn, cs = x.cells ∧ Ivs W x.A x.n x.l ∧ (x.n ≤ x.cap ∧ x.cap ≤ 9223372036854775807) := by
  obtain ⟨y0, y1, m, rfl, hl, h0, h1⟩ := trod_struct2 Try.underlying58 h
  rw [Try.cells58] at hl
  match cs, hl with
  | [u0, u1, u2], _ =>
    have h0' : DataW.trod enc Try.prog W 0 (fun _ => true) true m 56 [u0, u1] = some y0 := by
      rw [Try.cells56] at h0
      exact h0
    have h1' : DataW.trod enc Try.prog W 0 (fun _ => true) true m 4 [u2] = some y1 := by
      rw [Try.cells4] at h1
      exact h1
    obtain ⟨c, A, n, cap, L, rfl, rfl, hI, hn, hc⟩ := lin_trod h0' (fun x hx => hlt x (List.mem_append_left _ hx))
    obtain ⟨e, g2, -⟩ := DataW.trod_bool Try.underlying4 h1'
    obtain rfl : u2 = .bool e := by simpa using g2
    exact ⟨⟨c, A, n, cap, L, e⟩, rfl, hI, hn, hc⟩
open Go.Deep Go.WideElems in
set_option maxRecDepth 100000 in
theorem crow_trod {H : Type} {enc : TypeId × Value → H} {W : World} {v : Value} {fuel : Nat} {y : DataW H × List MemPlace} (h : DataW.trod enc Try.prog W 0 (fun _ => true) true fuel 43 [v] = some y) (hlt : ∀ x ∈ y.2, x.block < W.heap.size) :
    ∃ (A : Option Addr) (n c : Nat) (Cs : List Cn), v = .slice A n c ∧ Cns W A n Cs ∧ n ≤ c ∧ c ≤ 9223372036854775807 ∧ ∀ x ∈ Cs, x.n ≤ x.cap ∧ x.cap ≤ 9223372036854775807 := by
  rcases open_slice Try.underlying43 h with ⟨hcs, hx⟩ | ⟨a, len, cap, m, nn, D, Pl, hcs, _, hl, hm, hmm, hx, hi⟩
  · obtain rfl : v = .slice none 0 0 := by simpa using hcs
    exact ⟨_, _, _, [], rfl, ⟨⟨rfl, fun h => absurd h (by omega)⟩, fun x hx => by cases hx⟩, by omega, by omega, fun x hx => by cases hx⟩
  · obtain rfl : v = .slice (some a) len cap := by simpa using hcs
    simp only [if_true] at hmm
    subst hmm
    subst hx
    unfold maxLen at hm
    rw [Try.cells58] at hi hlt
    have key : ∀ i, i < len → ∃ x : Cn, (Ivs W x.A x.n x.l ∧ (x.n ≤ x.cap ∧ x.cap ≤ 9223372036854775807)) ∧ ∀ r u, r < 3 → x.cells[r]? = some u → W.cell? (a.add (i * 3 + r)) = some u := by
      intro i hil
      obtain ⟨cs', hc, ht⟩ := hi i (by omega)
      obtain ⟨x, rfl, h1, h2⟩ := cn_trod ht (fun p hp => hlt p (List.mem_append_right _ (List.mem_flatMap.2 ⟨i, List.mem_range.2 (by omega), hp⟩)))
      refine ⟨x, ⟨h1, h2⟩, fun r u hr hu => ?_⟩
      obtain ⟨-, -, hcell⟩ := World.cells?_some hc
      have := hcell r hr
      rw [hu] at this
      rw [← this]
      rw [Addr.add_add]
    obtain ⟨f, hfp⟩ : ∃ f : Nat → Cn, ∀ i, i < len → (Ivs W (f i).A (f i).n (f i).l ∧ ((f i).n ≤ (f i).cap ∧ (f i).cap ≤ 9223372036854775807)) ∧ ∀ r u, r < 3 → (f i).cells[r]? = some u → W.cell? (a.add (i * 3 + r)) = some u := by
      rcases Nat.eq_zero_or_pos len with h0 | h0
      · exact ⟨fun _ => ⟨0, none, 0, 0, [], false⟩, fun i h => by omega⟩
      · exact ⟨fun i => if h : i < len then Classical.choose (key i h) else ⟨0, none, 0, 0, [], false⟩, fun i h => by simp only [dif_pos h]; exact Classical.choose_spec (key i h)⟩
    refine ⟨_, _, _, (List.range len).map f, rfl, ⟨?_, fun x hx => ?_⟩, hl, by omega, fun x hx => ?_⟩
    · rcases Nat.eq_zero_or_pos len with h0 | hn
      · subst h0
        exact ⟨by simp, fun h => absurd h (by omega)⟩
      obtain ⟨b, off, spot⟩ := a
      have hspot : spot = none := by
        have := (hfp 0 hn).2 0 _ (by decide) rfl
        simpa [Addr.add] using World.cell?_spot this
      subst hspot
      refine at_flat Cn.cells 3 (fun _ => rfl) (by decide) _ _ _ _ (by simp) (fun _ => ?_) (fun i hi r u hr hu => ?_)
      · exact hlt (.cell b off) (List.mem_append_left _ (MemPlace.mem_row.2 ⟨0, by have : 0 < m := (by omega); show 0 < m * 3; omega, by simp⟩))
      · have hil : i < len := by simpa using hi
        have := (hfp i hil).2 r u hr (by simpa using hu)
        simp only [add_plain] at this
        rw [Nat.add_assoc]
        exact this
    · obtain ⟨i, hi, rfl⟩ := List.mem_map.1 hx
      exact (hfp i (List.mem_range.1 hi)).1.1
    · obtain ⟨i, hi, rfl⟩ := List.mem_map.1 hx
      exact (hfp i (List.mem_range.1 hi)).1.2
theorem agg_two {cs : Array Value} (h : cs.size = 2) : ∃ u0 u1, cs = #[u0, u1] := by
  obtain ⟨l⟩ := cs
  match l, h with
  | [u0, u1], _ => exact ⟨u0, u1, rfl⟩
open Go.Deep Go.WideElems in
set_option maxRecDepth 100000 in
theorem open_lin {H : Type} {enc : TypeId × Value → H} {W : World} {r : Reach} {b0 : Nat} {v : Value} {d : DataW H} {p : List MemPlace}
    (hv : Value.okWide Try.prog W r b0 56 v) (h : DataW.Trod enc Try.prog W 0 (fun _ => true) true 56 v d p) (hlt : ∀ x ∈ p, x.block < W.heap.size) :
    ∃ (c : Int) (A : Option Addr) (n cap : Nat) (L : List Iv), v = .agg #[.int .i64 c, .slice A n cap] ∧ Ivs W A n L ∧ n ≤ 9223372036854775807 := by
  obtain ⟨cs, rfl, hsz⟩ := okWide_struct Try.underlying56 hv
  rw [Try.cells56] at hsz
  obtain ⟨u0, u1, rfl⟩ := agg_two hsz
  obtain ⟨fuel, hf⟩ := h
  obtain ⟨c, A, n, cap, L, rfl, rfl, hI, hn, hc⟩ := lin_trod (u0 := u0) (u1 := u1) hf hlt
  exact ⟨c, A, n, cap, L, rfl, hI, by omega⟩
open Go.Deep Go.WideElems in
set_option maxRecDepth 100000 in
theorem open_prob {H : Type} {enc : TypeId × Value → H} {W : World} {r : Reach} {b0 : Nat} {v : Value} {d : DataW H} {p : List MemPlace} {ts : List TypeId} {ds : List (DataW H)} {j : Nat}
    (hv : Value.okWide Try.prog W r b0 45 v) (h : DataW.Trod enc Try.prog W 0 (fun _ => true) true 45 v d p) (hlt : ∀ x ∈ p, x.block < W.heap.size)
    (hsz0 : (DataW.weightsEach Try.prog ts ds).all (· ≤ reachBytes) = true) (hts : ts[j]? = some 45) (hds : ds[j]? = some d) :
    ∃ (A : Option Addr) (n c : Nat) (Cs : List Cn) (D : Option Addr) (m c2 : Nat) (R : List Iv), v = .agg #[.slice A n c, .slice D m c2] ∧ Cns W A n Cs ∧ n ≤ 9223372036854775807 ∧ (∀ x ∈ Cs, x.n ≤ x.cap ∧ x.cap ≤ 9223372036854775807) ∧ Ivs W D m R ∧ m ≤ 9223372036854775807 ∧ ∀ x ∈ R, x.in := by
  have hw : ∀ z ∈ DataW.weights Try.prog 45 d, z ≤ reachBytes := fun z hz => by simpa using List.all_eq_true.1 hsz0 _ (DataW.weights_mem_each hts hds z hz)
  obtain ⟨cs, rfl, hsz⟩ := okWide_struct Try.underlying45 hv
  rw [Try.cells45] at hsz
  obtain ⟨u0, u1, rfl⟩ := agg_two hsz
  obtain ⟨fuel, hf⟩ := h
  obtain ⟨y0, y1, m, hy, -, h0, h1⟩ := trod_struct2 Try.underlying45 hf
  simp only [Prod.mk.injEq] at hy
  obtain ⟨rfl, rfl⟩ := hy
  have h0' : DataW.trod enc Try.prog W 0 (fun _ => true) true m 43 [u0] = some y0 := by
    rw [Try.cells43] at h0
    exact h0
  have h1' : DataW.trod enc Try.prog W 0 (fun _ => true) true m 22 [u1] = some y1 := by
    rw [Try.cells22] at h1
    exact h1
  obtain ⟨A, n, c, Cs, rfl, hC, hn, hc, hx⟩ := crow_trod h0' (fun x hx => hlt x (List.mem_append_left _ hx))
  obtain ⟨D, k, c2, R, rfl, hD, hk, hc2, hR⟩ := row_trod h1' (fun x hx => hlt x (List.mem_append_right _ hx)) (fun z hz => hw z (by
    simp only [DataW.weights, Try.underlying45]
    exact DataW.weights_mem_each (j := 1) (t := 22) (d := y1.1) rfl rfl z hz))
  exact ⟨A, n, c, Cs, D, k, c2, R, rfl, hC, by omega, hx, hD, by omega, hR⟩
def Xs (w : World) (A : Option Addr) (n : Nat) (xs : List Int) : Prop := At w A n 1 (xs.map (.int .i64))
open Go.Deep Go.WideElems in
set_option maxRecDepth 100000 in
theorem open_xs {H : Type} {enc : TypeId × Value → H} {W : World} {r : Reach} {b0 : Nat} {v : Value} {d : DataW H} {p : List MemPlace}
    (hv : Value.okWide Try.prog W r b0 51 v) (h : DataW.Trod enc Try.prog W 0 (fun _ => true) true 51 v d p) (hlt : ∀ x ∈ p, x.block < W.heap.size) :
    ∃ (A : Option Addr) (n c : Nat) (xs : List Int), v = .slice A n c ∧ Xs W A n xs ∧ n ≤ 9223372036854775807 := by
  obtain ⟨a0, len0, cap0, rfl⟩ := okWide_slice Try.underlying51 hv
  obtain ⟨fuel, hf⟩ := h
  rcases open_ints Try.underlying51 Try.underlying2 Try.cells2 (cs := [.slice a0 len0 cap0]) hf with ⟨hcs, hx⟩ | ⟨a, len, cap, zs, hcs, _, hl, hm, hz, hx, hcell, hwz⟩
  · obtain ⟨rfl, rfl, rfl⟩ : a0 = none ∧ len0 = 0 ∧ cap0 = 0 := by simpa using hcs
    exact ⟨_, _, _, [], rfl, ⟨rfl, fun h => absurd h (by omega)⟩, by omega⟩
  · obtain ⟨rfl, rfl, rfl⟩ : a0 = some a ∧ len0 = len ∧ cap0 = cap := by simpa using hcs
    simp only [if_true] at hz
    unfold maxLen at hm
    refine ⟨_, _, _, zs.take len0, rfl, ⟨by rw [List.length_map, List.length_take]; omega, fun hn => ?_⟩, by omega⟩
    obtain ⟨b, off, spot⟩ := a
    have hspot : spot = none := by simpa [Addr.add] using World.cell?_spot (hcell 0 (by omega))
    subst hspot
    simp only [Prod.mk.injEq] at hx
    obtain ⟨-, rfl⟩ := hx
    refine ⟨b, off, rfl, hlt (.cell b off) (MemPlace.mem_row.2 ⟨0, by omega, by simp⟩), fun i u hu => ?_⟩
    have hi : i < len0 := by
      have := (List.getElem?_eq_some_iff.1 hu).1
      rw [List.length_map, List.length_take] at this
      omega
    have := hcell i (by omega)
    rw [add_plain] at this
    rw [this, ← hu]
    simp [List.getElem?_take, hi, List.getElem?_eq_getElem (show i < zs.length by omega)]
end Go.Proofs.Ytnoddkbpdfimmaa
