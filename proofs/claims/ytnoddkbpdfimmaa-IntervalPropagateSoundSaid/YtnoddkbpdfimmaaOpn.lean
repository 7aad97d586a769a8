/- The arguments opened: a list of intervals. -/
import Derived.Test.YtnoddkbpdfimmaaIvl
import Derived.Lib.SmallJoins
import Derived.SizedLaws
import Derived.ChangeMaps5
namespace Go.Proofs.Ytnoddkbpdfimmaa
open Go.ChangeShapes Go.WideShapes Go.ChangeAt Go.RowKit Go.ChangeMaps

theorem i64_bdx {n : Int} (h : (Lit.int .i64 n).wf = true) : -9223372036854775808 ≤ n ∧ n ≤ 9223372036854775807 := by
  have h1 : IntKind.i64.min = -9223372036854775808 := rfl
  have h2 : IntKind.i64.max = 9223372036854775807 := rfl
  simp only [Lit.wf, Bool.and_eq_true, decide_eq_true_eq, h1, h2] at h
  exact h
theorem at_flat {α : Type} {w : World} (f : α → List Value) (m : Nat) (hf : ∀ a, (f a).length = m) (hm : 0 < m) (L : List α) (n b off : Nat) (hL : L.length = n) (hb : 0 < n → b < w.heap.size)
    (h : ∀ i (hi : i < L.length) r v, r < m → (f L[i])[r]? = some v → w.cell? ⟨b, off + i * m + r, none⟩ = some v) : At w (some ⟨b, off, none⟩) n m (L.flatMap f) := by
  refine ⟨by rw [flat_len f m hf, hL], fun hn => ⟨b, off, rfl, hb hn, fun j v hj => ?_⟩⟩
  have hj2 : j < (L.flatMap f).length := (List.getElem?_eq_some_iff.1 hj).1
  rw [flat_len f m hf] at hj2
  have hi : j / m < L.length := Nat.div_lt_of_lt_mul (by rw [Nat.mul_comm]; exact hj2)
  have hr : j % m < m := Nat.mod_lt _ hm
  have he : j / m * m + j % m = j := by rw [Nat.mul_comm]; exact Nat.div_add_mod j m
  have h1 := h (j / m) hi (j % m) v hr
  rw [← flat_get f m hf L (j / m) (j % m) hi hr, he] at h1
  rw [← h1 hj]
  congr 2
  omega
def Iv.zero : Iv := ⟨0, 0⟩
def Iv.in (x : Iv) : Prop := (-9223372036854775808 ≤ x.lo ∧ x.lo ≤ 9223372036854775807) ∧ (-9223372036854775808 ≤ x.hi ∧ x.hi ≤ 9223372036854775807)
theorem Try.cellsE42 : Try.prog.cellsOf 42 = 2 := by kernel_rfl
open Go.Deep Go.WideElems in
set_option maxRecDepth 100000 in
theorem row_trod {H : Type} {enc : TypeId × Value → H} {W : World} {v : Value} {fuel : Nat} {y : DataW H × List MemPlace} (h : DataW.trod enc Try.prog W 0 (fun _ => true) true fuel 22 [v] = some y) (hlt : ∀ x ∈ y.2, x.block < W.heap.size) (hw : ∀ z ∈ DataW.weights Try.prog 22 y.1, z ≤ reachBytes) :
    ∃ (A : Option Addr) (n c : Nat) (R : List Iv), v = .slice A n c ∧ At W A n 2 (R.flatMap Iv.cells) ∧ n ≤ c ∧ c ≤ 9223372036854775807 ∧ ∀ x ∈ R, x.in := by
  rcases open_slice_fields Try.underlying22 Try.underlying42 (by kernel_rfl) Try.cellsE42 h with ⟨hcs, hx⟩ | ⟨a, len, cap, m, D, Pl, hcs, _, hl, hm, hmm, hx, hi⟩
  · obtain rfl : v = .slice none 0 0 := by simpa using hcs
    exact ⟨_, _, _, [], rfl, ⟨rfl, fun h => absurd h (by omega)⟩, by omega, by omega, fun x hx => by cases hx⟩
  · obtain rfl : v = .slice (some a) len cap := by simpa using hcs
    simp only [if_true] at hmm
    subst hmm
    subst hx
    unfold maxLen at hm
    have key : ∀ i, i < len → ∃ x : Iv, x.in ∧ ∀ r u, r < 2 → x.cells[r]? = some u → W.cell? (a.add (i * 2 + r)) = some u := by
      intro i hil
      obtain ⟨ys, nn, hD, _, hyl, hfs⟩ := hi i (by omega)
      obtain ⟨v0, y0, e0, k0, t0⟩ := hfs 0 _ rfl
      obtain ⟨v1, y1, e1, k1, t1⟩ := hfs 1 _ rfl
      obtain ⟨z0, g0, rfl, w0⟩ := DataW.trod_int Try.underlying2 t0
      obtain rfl : v0 = .int .i64 z0 := by simpa using g0
      obtain ⟨z1, g1, rfl, w1⟩ := DataW.trod_int Try.underlying2 t1
      obtain rfl : v1 = .int .i64 z1 := by simpa using g1
      refine ⟨⟨z0, z1⟩, ⟨i64_bdx w0, i64_bdx w1⟩, fun r u hr hu => ?_⟩
      match r, hr with
      | 0, _ => obtain rfl := (Option.some.inj hu); exact e0
      | 1, _ => obtain rfl := (Option.some.inj hu); exact e1
    obtain ⟨f, hfp⟩ : ∃ f : Nat → Iv, ∀ i, i < len → (f i).in ∧ ∀ r u, r < 2 → (f i).cells[r]? = some u → W.cell? (a.add (i * 2 + r)) = some u := by
      rcases Nat.eq_zero_or_pos len with h0 | h0
      · obtain ⟨g⟩ : Nonempty (Nat → Iv) := ⟨fun _ => Iv.zero⟩
        exact ⟨g, fun i h => by omega⟩
      · exact ⟨fun i => if h : i < len then Classical.choose (key i h) else Iv.zero, fun i h => by simp only [dif_pos h]; exact Classical.choose_spec (key i h)⟩
    refine ⟨_, _, _, (List.range len).map f, rfl, ?_, hl, by omega, fun x hx => ?_⟩
    · rcases Nat.eq_zero_or_pos len with h0 | hn
      · subst h0
        exact ⟨by simp, fun h => absurd h (by omega)⟩
      obtain ⟨b, off, spot⟩ := a
      have hspot : spot = none := by
        have := (hfp 0 hn).2 0 _ (by decide) rfl
        simpa [Addr.add] using World.cell?_spot this
      subst hspot
      refine at_flat Iv.cells 2 (fun _ => rfl) (by decide) _ _ _ _ (by simp) (fun _ => ?_) (fun i hi r u hr hu => ?_)
      · exact hlt (.cell b off) (List.mem_append_left _ (MemPlace.mem_row.2 ⟨0, by have : 0 < m := (by omega); show 0 < m * 2; omega, by simp⟩))
      · have hil : i < len := by simpa using hi
        have := (hfp i hil).2 r u hr (by simpa using hu)
        simp only [add_plain] at this
        rw [Nat.add_assoc]
        exact this
    · obtain ⟨i, hi, rfl⟩ := List.mem_map.1 hx
      exact (hfp i (List.mem_range.1 hi)).1
set_option maxRecDepth 100000 in
theorem open_row {H : Type} {enc : TypeId × Value → H} {W : World} {r : Reach} {b0 : Nat} {v : Value} {d : DataW H} {p : List MemPlace} {ts : List TypeId} {ds : List (DataW H)} {j : Nat}
    (hv : Value.okWide Try.prog W r b0 22 v) (h : DataW.Trod enc Try.prog W 0 (fun _ => true) true 22 v d p) (hlt : ∀ x ∈ p, x.block < W.heap.size)
    (hsz : (DataW.weightsEach Try.prog ts ds).all (· ≤ reachBytes) = true) (hts : ts[j]? = some 22) (hds : ds[j]? = some d) :
    ∃ (A : Option Addr) (n c : Nat) (R : List Iv), v = .slice A n c ∧ At W A n 2 (R.flatMap Iv.cells) ∧ n ≤ 9223372036854775807 ∧ ∀ x ∈ R, x.in := by
  obtain ⟨a0, len, cap, rfl⟩ := okWide_slice Try.underlying22 hv
  obtain ⟨fuel, hf⟩ := h
  obtain ⟨A, n, c, R, e, h1, h2, h3, h4⟩ := row_trod (v := .slice a0 len cap) hf hlt (fun z hz => by simpa using List.all_eq_true.1 hsz _ (DataW.weights_mem_each hts hds z hz))
  exact ⟨A, n, c, R, e, h1, by omega, h4⟩
end Go.Proofs.Ytnoddkbpdfimmaa
