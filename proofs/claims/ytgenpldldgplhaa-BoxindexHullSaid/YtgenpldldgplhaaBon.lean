/- The arguments opened: operations. -/
import Derived.Test.YtgenpldldgplhaaBot
import Derived.Test.YtgenpldldgplhaaBix
import Derived.Lib.SmallJoins
import Derived.SizedLaws
import Derived.ChangeMaps5
import Derived.Deep.Strs
namespace Go.Proofs.Ytgenpldldgplhaa
open Go.ChangeShapes Go.WideShapes Go.ChangeAt Go.RowKit Go.ChangeMaps

theorem i64_bdx {n : Int} (h : (Lit.int .i64 n).wf = true) : -9223372036854775808 ≤ n ∧ n ≤ 9223372036854775807 := by
  have h1 : IntKind.i64.min = -9223372036854775808 := rfl
  have h2 : IntKind.i64.max = 9223372036854775807 := rfl
  simp only [Lit.wf, Bool.and_eq_true, decide_eq_true_eq, h1, h2] at h
  exact h
theorem u8_bdx {n : Int} (h : (Lit.int .u8 n).wf = true) : 0 ≤ n ∧ n ≤ 255 := by
  have h1 : IntKind.u8.min = 0 := rfl
  have h2 : IntKind.u8.max = 255 := rfl
  simp only [Lit.wf, Bool.and_eq_true, decide_eq_true_eq, h1, h2] at h
  exact h
theorem at_flat {α : Type} {w : World} (f : α → List Value) (m : Nat) (hf : ∀ a, (f a).length = m) (hm : 0 < m) (L : List α) (n b off : Nat) (hL : L.length = n) (hb : 0 < n → b < w.heap.size)
    (h : ∀ i (hi : i < L.length) r v, r < m → (f L[i])[r]? = some v → w.cell? ⟨b, off + i * m + r, none⟩ = some v) : At w (some ⟨b, off, none⟩) n m (L.flatMap f) := by
  refine ⟨by rw [flat_len f m hf, hL], fun hn => ⟨b, off, rfl, hb hn, fun j v hj => ?_⟩⟩
  have hj2 : j < (L.flatMap f).length := (List.getElem?_eq_some_iff.1 hj).1
  rw [flat_len f m hf] at hj2
  have hi : j / m < L.length := Nat.div_lt_of_lt_mul (by rw [Nat.mul_comm]; exact hj2)
  have hr : j % m < m := Nat.mod_lt _ hm
  have he : j / m * m + j % m = j := by rw [Nat.mul_comm]; exact Nat.div_add_mod j m
  have h1 := h (j / m) hi (j % m) v hr
  rw [← flat_get f m hf L (j / m) (j % m) hi hr, he] at h1
  rw [← h1 hj]
  congr 2
  omega
def Sd.zero : Sd := ⟨false, false, 0, 0, ⟨#[]⟩, ⟨#[]⟩⟩
def Sd.in (x : Sd) : Prop := (-9223372036854775808 ≤ x.lo ∧ x.lo ≤ 9223372036854775807) ∧ (-9223372036854775808 ≤ x.hi ∧ x.hi ≤ 9223372036854775807)
theorem Try.cellsE67 : Try.prog.cellsOf 67 = 6 := by kernel_rfl
open Go.Deep Go.WideElems in
set_option maxRecDepth 100000 in
theorem sides_trod {H : Type} {enc : TypeId × Value → H} {W : World} {v : Value} {fuel : Nat} {y : DataW H × List MemPlace} (h : DataW.trod enc Try.prog W 0 (fun _ => true) true fuel 30 [v] = some y) (hlt : ∀ x ∈ y.2, x.block < W.heap.size) :
    ∃ (A : Option Addr) (n c : Nat) (R : List Sd), v = .slice A n c ∧ At W A n 6 (R.flatMap Sd.cells) ∧ n ≤ c ∧ c ≤ 9223372036854775807 ∧ ∀ x ∈ R, x.in := by
  rcases open_slice_fields Try.underlying30 Try.underlying67 (by kernel_rfl) Try.cellsE67 h with ⟨hcs, hx⟩ | ⟨a, len, cap, m, D, Pl, hcs, _, hl, hm, hmm, hx, hi⟩
  · obtain rfl : v = .slice none 0 0 := by simpa using hcs
    exact ⟨_, _, _, [], rfl, ⟨rfl, fun h => absurd h (by omega)⟩, by omega, by omega, fun x hx => by cases hx⟩
  · obtain rfl : v = .slice (some a) len cap := by simpa using hcs
    simp only [if_true] at hmm
    subst hmm
    subst hx
    unfold maxLen at hm
    have key : ∀ i, i < len → ∃ x : Sd, x.in ∧ ∀ r u, r < 6 → x.cells[r]? = some u → W.cell? (a.add (i * 6 + r)) = some u := by
      intro i hil
      obtain ⟨ys, nn, hD, _, hyl, hfs⟩ := hi i (by omega)
      obtain ⟨v0, y0, e0, k0, t0⟩ := hfs 0 _ rfl
      obtain ⟨v1, y1, e1, k1, t1⟩ := hfs 1 _ rfl
      obtain ⟨v2, y2, e2, k2, t2⟩ := hfs 2 _ rfl
      obtain ⟨v3, y3, e3, k3, t3⟩ := hfs 3 _ rfl
      obtain ⟨v4, y4, e4, k4, t4⟩ := hfs 4 _ rfl
      obtain ⟨v5, y5, e5, k5, t5⟩ := hfs 5 _ rfl
      obtain ⟨z0, g0, rfl⟩ := DataW.trod_bool Try.underlying4 t0
      obtain rfl : v0 = .bool z0 := by simpa using g0
      obtain ⟨z1, g1, rfl⟩ := DataW.trod_bool Try.underlying4 t1
      obtain rfl : v1 = .bool z1 := by simpa using g1
      obtain ⟨z2, g2, rfl, w2⟩ := DataW.trod_int Try.underlying2 t2
      obtain rfl : v2 = .int .i64 z2 := by simpa using g2
      obtain ⟨z3, g3, rfl, w3⟩ := DataW.trod_int Try.underlying2 t3
      obtain rfl : v3 = .int .i64 z3 := by simpa using g3
      obtain ⟨z4, g4, rfl, w4⟩ := DataW.trod_string Try.underlying9 t4
      obtain rfl : v4 = .string z4 := by simpa using g4
      obtain ⟨z5, g5, rfl, w5⟩ := DataW.trod_string Try.underlying9 t5
      obtain rfl : v5 = .string z5 := by simpa using g5
      refine ⟨⟨z0, z1, z2, z3, z4, z5⟩, ⟨i64_bdx w2, i64_bdx w3⟩, fun r u hr hu => ?_⟩
      match r, hr with
      | 0, _ => obtain rfl := (Option.some.inj hu); exact e0
      | 1, _ => obtain rfl := (Option.some.inj hu); exact e1
      | 2, _ => obtain rfl := (Option.some.inj hu); exact e2
      | 3, _ => obtain rfl := (Option.some.inj hu); exact e3
      | 4, _ => obtain rfl := (Option.some.inj hu); exact e4
      | 5, _ => obtain rfl := (Option.some.inj hu); exact e5
    obtain ⟨f, hfp⟩ : ∃ f : Nat → Sd, ∀ i, i < len → (f i).in ∧ ∀ r u, r < 6 → (f i).cells[r]? = some u → W.cell? (a.add (i * 6 + r)) = some u := by
      rcases Nat.eq_zero_or_pos len with h0 | h0
      · obtain ⟨g⟩ : Nonempty (Nat → Sd) := ⟨fun _ => Sd.zero⟩
        exact ⟨g, fun i h => by omega⟩
      · exact ⟨fun i => if h : i < len then Classical.choose (key i h) else Sd.zero, fun i h => by simp only [dif_pos h]; exact Classical.choose_spec (key i h)⟩
    refine ⟨_, _, _, (List.range len).map f, rfl, ?_, hl, by omega, fun x hx => ?_⟩
    · rcases Nat.eq_zero_or_pos len with h0 | hn
      · subst h0
        exact ⟨by simp, fun h => absurd h (by omega)⟩
      obtain ⟨b, off, spot⟩ := a
      have hspot : spot = none := by
        have := (hfp 0 hn).2 0 _ (by decide) rfl
        simpa [Addr.add] using World.cell?_spot this
      subst hspot
      refine at_flat Sd.cells 6 (fun _ => rfl) (by decide) _ _ _ _ (by simp) (fun _ => ?_) (fun i hi r u hr hu => ?_)
      · exact hlt (.cell b off) (List.mem_append_left _ (MemPlace.mem_row.2 ⟨0, by have : 0 < m := (by omega); show 0 < m * 6; omega, by simp⟩))
      · have hil : i < len := by simpa using hi
        have := (hfp i hil).2 r u hr (by simpa using hu)
        simp only [add_plain] at this
        rw [Nat.add_assoc]
        exact this
    · obtain ⟨i, hi, rfl⟩ := List.mem_map.1 hx
      exact (hfp i (List.mem_range.1 hi)).1
theorem Try.cells32 : Try.prog.cellsOf 32 = 2 := by kernel_rfl
theorem Try.cells34 : Try.prog.cellsOf 34 = 4 := by kernel_rfl
theorem Try.cells30 : Try.prog.cellsOf 30 = 1 := by kernel_rfl
theorem Try.cells3 : Try.prog.cellsOf 3 = 1 := by kernel_rfl
theorem Try.cells2 : Try.prog.cellsOf 2 = 1 := by kernel_rfl
theorem Try.cells5 : Try.prog.cellsOf 5 = 1 := by kernel_rfl
open Go.Deep Go.WideElems in
set_option maxRecDepth 100000 in
theorem box_trod {H : Type} {enc : TypeId × Value → H} {W : World} {u0 u1 : Value} {fuel : Nat} {y : DataW H × List MemPlace} (h : DataW.trod enc Try.prog W 0 (fun _ => true) true fuel 32 [u0, u1] = some y) (hlt : ∀ x ∈ y.2, x.block < W.heap.size) :
    ∃ (t : Int) (A : Option Addr) (n cap : Nat) (R : List Sd), u0 = .int .i64 t ∧ u1 = .slice A n cap ∧ Sds W A n R ∧ n ≤ cap ∧ cap ≤ 9223372036854775807 ∧ w64 t := by
  obtain ⟨y0, y1, m, rfl, -, h0, h1⟩ := trod_struct2 Try.underlying32 h
  have h0' : DataW.trod enc Try.prog W 0 (fun _ => true) true m 3 [u0] = some y0 := by
    rw [Try.cells3] at h0
    exact h0
  have h1' : DataW.trod enc Try.prog W 0 (fun _ => true) true m 30 [u1] = some y1 := by
    rw [Try.cells30] at h1
    exact h1
  obtain ⟨t, g0, -, w0⟩ := DataW.trod_int Try.underlying3 h0'
  obtain rfl : u0 = .int .i64 t := by simpa using g0
  obtain ⟨A, n, cap, L, rfl, hA, hn, hc, -⟩ := sides_trod h1' (fun x hx => hlt x (List.mem_append_right _ hx))
  exact ⟨t, A, n, cap, L, rfl, rfl, hA, hn, hc, w0⟩
open Go.Deep Go.WideElems in
set_option maxRecDepth 100000 in
theorem op_trod {H : Type} {enc : TypeId × Value → H} {W : World} {cs : List Value} {fuel : Nat} {y : DataW H × List MemPlace} (h : DataW.trod enc Try.prog W 0 (fun _ => true) true fuel 34 cs = some y) (hlt : ∀ x ∈ y.2, x.block < W.heap.size) :
    ∃ x : Ot, cs = x.cells ∧ Sds W x.A x.n x.R ∧ x.n ≤ 9223372036854775807 ∧ w64 x.id ∧ w64 x.t ∧ 0 ≤ x.kd ∧ x.kd < 256 := by
  obtain ⟨y0, y1, y2, m, rfl, hl, h0, h1, h2⟩ := trod_struct3 Try.underlying34 h
  rw [Try.cells34] at hl
  match cs, hl with
  | [u0, u1, u2, u3], _ =>
    have h0' : DataW.trod enc Try.prog W 0 (fun _ => true) true m 5 [u0] = some y0 := by
      rw [Try.cells5] at h0
      exact h0
    have h1' : DataW.trod enc Try.prog W 0 (fun _ => true) true m 2 [u1] = some y1 := by
      rw [Try.cells2] at h1
      exact h1
    have h2' : DataW.trod enc Try.prog W 0 (fun _ => true) true m 32 [u2, u3] = some y2 := by
      rw [Try.cells32] at h2
      exact h2
    obtain ⟨k, g0, -, w0⟩ := DataW.trod_int Try.underlying5 h0'
    obtain rfl : u0 = .int .u8 k := by simpa using g0
    obtain ⟨i, g1, -, w1⟩ := DataW.trod_int Try.underlying2 h1'
    obtain rfl : u1 = .int .i64 i := by simpa using g1
    obtain ⟨t, A, n, cap, R, rfl, rfl, hS, hn, hc, wt⟩ := box_trod h2' (fun x hx => hlt x (List.mem_append_right _ (List.mem_append_right _ hx)))
    have hk := u8_bdx w0
    exact ⟨⟨k, i, t, A, n, cap, R⟩, rfl, hS, (show n ≤ 9223372036854775807 by omega), w1, wt, hk.1, (show k < 256 by omega)⟩
open Go.Deep Go.WideElems in
set_option maxRecDepth 100000 in
theorem ops_trod {H : Type} {enc : TypeId × Value → H} {W : World} {v : Value} {fuel : Nat} {y : DataW H × List MemPlace} (h : DataW.trod enc Try.prog W 0 (fun _ => true) true fuel 22 [v] = some y) (hlt : ∀ x ∈ y.2, x.block < W.heap.size) :
    ∃ (A : Option Addr) (n c : Nat) (L : List Ot), v = .slice A n c ∧ Ots W A n L ∧ n ≤ c ∧ c ≤ 9223372036854775807 ∧ ∀ x ∈ L, Sds W x.A x.n x.R ∧ x.n ≤ 9223372036854775807 ∧ w64 x.id ∧ w64 x.t ∧ 0 ≤ x.kd ∧ x.kd < 256 := by
  rcases open_slice Try.underlying22 h with ⟨hcs, hx⟩ | ⟨a, len, cap, m, nn, D, Pl, hcs, _, hl, hm, hmm, hx, hi⟩
  · obtain rfl : v = .slice none 0 0 := by simpa using hcs
    exact ⟨_, _, _, [], rfl, ⟨rfl, fun h => absurd h (by omega)⟩, by omega, by omega, fun x hx => by cases hx⟩
  · obtain rfl : v = .slice (some a) len cap := by simpa using hcs
    simp only [if_true] at hmm
    subst hmm
    subst hx
    unfold maxLen at hm
    rw [Try.cells34] at hi hlt
    have key : ∀ i, i < len → ∃ x : Ot, (Sds W x.A x.n x.R ∧ x.n ≤ 9223372036854775807 ∧ w64 x.id ∧ w64 x.t ∧ 0 ≤ x.kd ∧ x.kd < 256) ∧ ∀ r u, r < 4 → x.cells[r]? = some u → W.cell? (a.add (i * 4 + r)) = some u := by
      intro i hil
      obtain ⟨cs', hc, ht⟩ := hi i (by omega)
      obtain ⟨x, rfl, h1⟩ := op_trod ht (fun p hp => hlt p (List.mem_append_right _ (List.mem_flatMap.2 ⟨i, List.mem_range.2 (by omega), hp⟩)))
      refine ⟨x, h1, fun r u hr hu => ?_⟩
      obtain ⟨-, -, hcell⟩ := World.cells?_some hc
      have := hcell r hr
      rw [hu] at this
      rw [← this]
      rw [Addr.add_add]
    obtain ⟨f, hfp⟩ : ∃ f : Nat → Ot, ∀ i, i < len → (Sds W (f i).A (f i).n (f i).R ∧ (f i).n ≤ 9223372036854775807 ∧ w64 (f i).id ∧ w64 (f i).t ∧ 0 ≤ (f i).kd ∧ (f i).kd < 256) ∧ ∀ r u, r < 4 → (f i).cells[r]? = some u → W.cell? (a.add (i * 4 + r)) = some u := by
      rcases Nat.eq_zero_or_pos len with h0 | h0
      · exact ⟨fun _ => ⟨0, 0, 0, none, 0, 0, []⟩, fun i h => by omega⟩
      · exact ⟨fun i => if h : i < len then Classical.choose (key i h) else ⟨0, 0, 0, none, 0, 0, []⟩, fun i h => by simp only [dif_pos h]; exact Classical.choose_spec (key i h)⟩
    refine ⟨_, _, _, (List.range len).map f, rfl, ?_, hl, by omega, fun x hx => ?_⟩
    · rcases Nat.eq_zero_or_pos len with h0 | hn
      · subst h0
        exact ⟨by simp, fun h => absurd h (by omega)⟩
      obtain ⟨b, off, spot⟩ := a
      have hspot : spot = none := by
        have := (hfp 0 hn).2 0 _ (by decide) rfl
        simpa [Addr.add] using World.cell?_spot this
      subst hspot
      refine at_flat Ot.cells 4 (fun _ => rfl) (by decide) _ _ _ _ (by simp) (fun _ => ?_) (fun i hi r u hr hu => ?_)
      · exact hlt (.cell b off) (List.mem_append_left _ (MemPlace.mem_row.2 ⟨0, by have : 0 < m := (by omega); show 0 < m * 4; omega, by simp⟩))
      · have hil : i < len := by simpa using hi
        have := (hfp i hil).2 r u hr (by simpa using hu)
        simp only [add_plain] at this
        rw [Nat.add_assoc]
        exact this
    · obtain ⟨i, hi, rfl⟩ := List.mem_map.1 hx
      exact (hfp i (List.mem_range.1 hi)).1
open Go.Deep Go.WideElems in
set_option maxRecDepth 100000 in
theorem open_ops {H : Type} {enc : TypeId × Value → H} {W : World} {r : Reach} {b0 : Nat} {v : Value} {d : DataW H} {p : List MemPlace}
    (hv : Value.okWide Try.prog W r b0 22 v) (h : DataW.Trod enc Try.prog W 0 (fun _ => true) true 22 v d p) (hlt : ∀ x ∈ p, x.block < W.heap.size) :
    ∃ (A : Option Addr) (n c : Nat) (L : List Ot), v = .slice A n c ∧ Ots W A n L ∧ n ≤ 9223372036854775807 ∧ ∀ x ∈ L, Sds W x.A x.n x.R ∧ x.n ≤ 9223372036854775807 ∧ w64 x.id ∧ w64 x.t ∧ 0 ≤ x.kd ∧ x.kd < 256 := by
  obtain ⟨a0, len0, cap0, rfl⟩ := okWide_slice Try.underlying22 hv
  obtain ⟨fuel, hf⟩ := h
  obtain ⟨A, n, c, L, e, h1, h2, h3, h4⟩ := ops_trod (v := .slice a0 len0 cap0) hf hlt
  exact ⟨A, n, c, L, e, h1, by omega, h4⟩
end Go.Proofs.Ytgenpldldgplhaa
