/- Opening a case. -/
import Derived.Test.YtgpofkabidginaaWly
import Derived.Deep.Matrix
namespace Go.Proofs.Ytgpofkabidginaa
open Go.ChangeShapes Go.WideShapes Go.ChangeAt Go.RowKit Go.ChangeMaps

open Go.Deep Go.WideElems
theorem bytes_trod {H : Type} {enc : TypeId × Value → H} {W : World} {v : Value} {fuel : Nat} {y : DataW H × List MemPlace} (h : DataW.trod enc Try.prog W 0 (fun _ => true) true fuel 38 [v] = some y) (hlt : ∀ x ∈ y.2, x.block < W.heap.size) :
    ∃ (A : Option Addr) (n c : Nat) (l : List UInt8), v = .slice A n c ∧ BytesAt W A n l ∧ n ≤ c ∧ c ≤ 9223372036854775807 := by
  rcases open_ints Try.underlying38 Try.underlying5 Try.cells5 h with ⟨hcs, hx⟩ | ⟨a, len, cap, zs, hcs, _, hl, hm, hz, hx, hcell, hwz⟩
  · obtain rfl : v = .slice none 0 0 := by simpa using hcs
    exact ⟨_, _, _, [], rfl, ⟨rfl, fun h => absurd h (by omega)⟩, by omega, by omega⟩
  · obtain rfl : v = .slice (some a) len cap := by simpa using hcs
    simp only [if_true] at hz
    subst hx
    unfold maxLen at hm
    refine ⟨_, _, _, (zs.take len).map u8, rfl, ⟨by rw [List.length_map, List.length_take]; omega, fun hn => ?_⟩, hl, by omega⟩
    obtain ⟨b, off, spot⟩ := a
    have hspot : spot = none := by simpa [Addr.add] using World.cell?_spot (hcell 0 (by omega))
    subst hspot
    refine ⟨b, off, rfl, hlt (.cell b off) (MemPlace.mem_row.2 ⟨0, by omega, by simp⟩), fun i hi => ?_⟩
    have hi2 : i < zs.length := by rw [List.length_map, List.length_take] at hi; omega
    have := hcell i hi2
    rw [add_plain] at this
    rw [this]
    obtain ⟨g0, g1⟩ := u8_bd (hwz zs[i] (List.getElem_mem _))
    simp only [List.getElem_map, List.getElem_take, u8_toNat _ g0 (by omega)]
    simp [List.getD, List.getElem?_eq_getElem hi2]
theorem Try.cells38 : Try.prog.cellsOf 38 = 1 := by kernel_rfl
theorem rows_trod {H : Type} {enc : TypeId × Value → H} {W : World} {v : Value} {fuel : Nat} {y : DataW H × List MemPlace} (h : DataW.trod enc Try.prog W 0 (fun _ => true) true fuel 22 [v] = some y) (hlt : ∀ x ∈ y.2, x.block < W.heap.size) :
    ∃ (A : Option Addr) (n c : Nat) (L : List Rw), v = .slice A n c ∧ RA (fun _ => False) W A n L ∧ n ≤ c ∧ c ≤ 9223372036854775807 := by
  rcases open_slice1 Try.underlying22 Try.cells38 h with ⟨hcs, hx⟩ | ⟨a, len, cap, m, n', V, D, Pl, hcs, hb, hl, hm, hmm, hx0, hx⟩
  · obtain rfl : v = .slice none 0 0 := by simpa using hcs
    exact ⟨_, _, _, [], rfl, ⟨rfl, fun h => absurd h (by omega), fun _ h => by cases h⟩, by omega, by omega⟩
  · obtain rfl : v = .slice (some a) len cap := by simpa using hcs
    simp only [if_true] at hmm
    subst hmm
    subst hx0
    unfold maxLen at hm
    have key : ∀ i, i < len → ∃ x : Rw, W.cell? (a.add i) = some x.v ∧ x.ok (fun _ => False) W := by
      intro i hi
      obtain ⟨hc, ht⟩ := hx i (by omega)
      obtain ⟨A, n, c, l, e, hB, h1, h2⟩ := bytes_trod ht (fun x hx => hlt x (List.mem_append_right _ (List.mem_flatMap.2 ⟨i, List.mem_range.2 (by omega), hx⟩)))
      exact ⟨⟨A, n, c, l⟩, by rw [hc, e]; rfl, BA.of_at hB (fun _ e => e.elim), h1, h2⟩
    have pick : ∃ f : Nat → Rw, ∀ i, i < len → W.cell? (a.add i) = some (f i).v ∧ (f i).ok (fun _ => False) W :=
      ⟨fun i => if h : i < len then Classical.choose (key i h) else ⟨none, 0, 0, []⟩, fun i h => by simp only [dif_pos h]; exact Classical.choose_spec (key i h)⟩
    obtain ⟨f, hfp⟩ := pick
    refine ⟨_, _, _, (List.range len).map f, rfl, ⟨by simp, fun hn => ?_, fun x hx => ?_⟩, hl, by omega⟩
    · obtain ⟨b, off, spot⟩ := a
      have hspot : spot = none := by simpa [Addr.add] using World.cell?_spot (hfp 0 hn).1
      subst hspot
      refine ⟨b, off, rfl, hlt (.cell b off) (List.mem_append_left _ (MemPlace.mem_row.2 ⟨0, by omega, by simp⟩)), fun e => e, fun i hi => ?_⟩
      have hi2 : i < len := by simpa using hi
      have := (hfp i hi2).1
      rw [add_plain] at this
      simpa using this
    · obtain ⟨i, hi, rfl⟩ := List.mem_map.1 hx
      exact (hfp i (List.mem_range.1 hi)).2
theorem u32_bd {n : Int} (h : (Lit.int .u32 n).wf = true) : 0 ≤ n ∧ n ≤ 4294967295 := by
  have h1 : IntKind.u32.min = 0 := rfl
  have h2 : IntKind.u32.max = 4294967295 := rfl
  simp only [Lit.wf, Bool.and_eq_true, decide_eq_true_eq, h1, h2] at h
  exact h
theorem Try.cells25 : Try.prog.cellsOf 25 = 6 := by kernel_rfl
set_option maxRecDepth 100000 in
theorem open_Case {H : Type} {enc : TypeId × Value → H} {W : World} {r : Reach} {b0 : Nat} {v : Value} {d : DataW H} {p : List MemPlace}
    (hv : Value.okWide Try.prog W r b0 25 v) (h : DataW.Trod enc Try.prog W 0 (fun _ => true) true 25 v d p) (hlt : ∀ x ∈ p, x.block < W.heap.size) : ∃ x : Cs, v = x.v ∧ CsAt W x := by
  obtain ⟨cs, rfl, hsz⟩ := okWide_struct Try.underlying25 hv
  rw [Try.cells25] at hsz
  obtain ⟨fuel, hf⟩ := h
  obtain ⟨ys, n', hn', hy, hlen, hyl, hg⟩ := DataW.trod_struct Try.underlying25 hf
  simp only [Prod.mk.injEq] at hy
  obtain ⟨-, hp⟩ := hy
  rcases cs with ⟨l⟩
  have hl4 : l.length = 6 := by simpa using hsz
  have key : ∀ (j : Nat) (f : Field) (u : Value), (match Try.prog.underlying 25 with | some (.struct fs) => fs[j]? | _ => none) = some f → l[j]? = some u → ∃ y, DataW.trod enc Try.prog W 0 (fun _ => true) true n' f.type [u] = some y ∧ ∀ x ∈ y.2, x.block < W.heap.size := by
    intro j f u hj hu
    rw [Try.underlying25] at hj
    obtain ⟨ho, hk⟩ := hone_of (P := Try.prog) (by kernel_rfl) j f hj
    have h1 := hg j f hj
    rw [ho, hk] at h1
    have hjl : j < l.length := (List.getElem?_eq_some_iff.1 hu).1
    have hys : ys[j]? = some (ys[j]'(by rw [hyl]; have := (Array.getElem?_eq_some_iff.1 hj).1; simpa using this)) := List.getElem?_eq_getElem _
    have hone' : ((Value.cells (.agg ⟨l⟩)).toList.drop j).take 1 = [u] := by
      show (l.drop j).take 1 = [u]
      rw [List.drop_eq_getElem_cons hjl]
      have := (List.getElem?_eq_some_iff.1 hu).2
      simp [this]
    rw [hone'] at h1
    refine ⟨_, h1.trans hys, fun x hx => hlt x ?_⟩
    rw [hp]
    exact List.mem_flatMap.2 ⟨_, List.getElem_mem _, hx⟩
  match l, hl4 with
  | [u0, u1, u2, u3, u4, u5], _ =>
    obtain ⟨y0, t0, -⟩ := key 0 _ u0 (by rw [Try.underlying25]; rfl) rfl
    obtain ⟨y1, t1, hl1⟩ := key 1 _ u1 (by rw [Try.underlying25]; rfl) rfl
    obtain ⟨y2, t2, -⟩ := key 2 _ u2 (by rw [Try.underlying25]; rfl) rfl
    obtain ⟨y3, t3, -⟩ := key 3 _ u3 (by rw [Try.underlying25]; rfl) rfl
    obtain ⟨y4, t4, -⟩ := key 4 _ u4 (by rw [Try.underlying25]; rfl) rfl
    obtain ⟨y5, t5, hl5⟩ := key 5 _ u5 (by rw [Try.underlying25]; rfl) rfl
    obtain ⟨x0, g0, _, w0⟩ := DataW.trod_int Try.underlying3 t0
    obtain rfl : u0 = .int .i64 x0 := by simpa using g0
    obtain ⟨x2, g2, _, w2⟩ := DataW.trod_int Try.underlying3 t2
    obtain rfl : u2 = .int .i64 x2 := by simpa using g2
    obtain ⟨x3, g3, _, w3⟩ := DataW.trod_int Try.underlying3 t3
    obtain rfl : u3 = .int .i64 x3 := by simpa using g3
    obtain ⟨x4, g4, _, w4⟩ := DataW.trod_int Try.underlying23 t4
    obtain rfl : u4 = .int .u32 x4 := by simpa using g4
    obtain ⟨oA, on, oc, oL, rfl, hO, ho1, ho2⟩ := rows_trod t1 hl1
    obtain ⟨rA, rn, rc, rL, rfl, hR, hr1, hr2⟩ := rows_trod t5 hl5
    have hE := u32_bd w4
    exact ⟨⟨x0, x2, x3, x4.toNat, oA, on, oc, oL, rA, rn, rc, rL⟩, by simp [Cs.v]; omega, hO, hR, ⟨ho1, ho2⟩, ⟨hr1, hr2⟩, i64_bd w0, i64_bd w2, i64_bd w3, by simp only; omega⟩
end Go.Proofs.Ytgpofkabidginaa
