/- A hull meets the boxes that it was made of; what lies in an ascending list twice. -/
import Derived.Test.YtgenpldldgplhaaBg2
import Derived.Test.YtgenpldldgplhaaBp2
import Derived.Test.YtgenpldldgplhaaBf2
import Derived.Test.YtgenpldldgplhaaSwi
import Derived.Test.YtgenpldldgplhaaShb
namespace Go.Proofs.Ytgenpldldgplhaa
open Go.ChangeShapes Go.WideShapes Go.ChangeAt Go.RowKit Go.ChangeMaps

theorem tle_mx (a b : ByteArray) : tle a (tmx a b) = true ∧ tle b (tmx a b) = true := by
  have := tmx_le a b (tmx a b)
  rw [tle_refl] at this
  have := this.symm
  simpa using this
theorem tle_mn (a b : ByteArray) : tle (tmn a b) a = true ∧ tle (tmn a b) b = true := by
  have := tmn_ge a b (tmn a b)
  rw [tle_refl] at this
  have := this.symm
  simpa using this
theorem meet_with {s x : Sd} (hs : SdOk s) (hx : SdOk x) : s.meetB (withM s x) = true ∧ x.meetB (withM s x) = true := by
  obtain ⟨s1, s2, s3⟩ := hs
  obtain ⟨x1, x2, x3⟩ := hx
  obtain ⟨nu, ot, lo, hi, fr, tx⟩ := s
  obtain ⟨nu2, ot2, lo2, hi2, fr2, tx2⟩ := x
  dsimp only at s1 s2 s3 x1 x2 x3
  have m1 := tle_mx tx tx2
  have m2 := tle_mn fr fr2
  rw [Sd.meetB_eq, Sd.meetB_eq]
  unfold withM
  cases ot
  · have hn : nu = true := by simpa using s1
    subst hn
    cases ot2
    · have hn2 : nu2 = true := by simpa using x1
      subst hn2
      simp
    · simp [x2, x3]
  · cases ot2
    · have hn2 : nu2 = true := by simpa using x1
      subst hn2
      simp [s2, s3]
    · have a1 : tle fr (tmx tx tx2) = true := tle_trans s3 m1.1
      have a2 : tle fr2 (tmx tx tx2) = true := tle_trans x3 m1.2
      have a3 : tle (tmn fr fr2) tx = true := tle_trans m2.1 s3
      have a4 : tle (tmn fr fr2) tx2 = true := tle_trans m2.2 x3
      have a5 : tle (tmn fr fr2) (tmx tx tx2) = true := tle_trans m2.1 a1
      have b1 : lo ≤ (if hi < hi2 then hi2 else hi) := by split <;> omega
      have b2 : lo2 ≤ (if hi < hi2 then hi2 else hi) := by split <;> omega
      have b3 : (if lo2 < lo then lo2 else lo) ≤ hi := by split <;> omega
      have b4 : (if lo2 < lo then lo2 else lo) ≤ hi2 := by split <;> omega
      have b5 : (if lo2 < lo then lo2 else lo) ≤ (if hi < hi2 then hi2 else hi) := by split <;> split <;> omega
      simp only [Bool.true_eq_false, if_false, if_true, s2, s3, x2, x3, a1, a2, a3, a4, a5, b1, b2, b3, b4, b5, decide_true, Bool.and_self, Bool.or_true, and_self]
theorem zip_with : ∀ R S : List Sd, R.length = S.length → (∀ s ∈ R, SdOk s) → (∀ s ∈ S, SdOk s) → zipAll Sd.meetB R (hullL R S) = true ∧ zipAll Sd.meetB S (hullL R S) = true
  | [], [], _, _, _ => ⟨rfl, rfl⟩
  | s :: R, x :: S, h, hr, hs => by
    obtain ⟨h1, h2⟩ := zip_with R S (by simpa using h) (fun z hz => hr z (List.mem_cons_of_mem _ hz)) (fun z hz => hs z (List.mem_cons_of_mem _ hz))
    obtain ⟨h3, h4⟩ := meet_with (hr s List.mem_cons_self) (hs x List.mem_cons_self)
    exact ⟨by show (s.meetB (withM s x) && zipAll Sd.meetB R (hullL R S)) = true; rw [h1, h3]; rfl, by show (x.meetB (withM s x) && zipAll Sd.meetB S (hullL R S)) = true; rw [h2, h4]; rfl⟩
  | [], _ :: _, h, _, _ => by cases h
  | _ :: _, [], h, _, _ => by cases h
theorem meet_hull {t : Int} {R S : List Sd} (h : R.length = S.length) (h0 : ¬ R.length = 0) (hr : ∀ s ∈ R, SdOk s) (hs : ∀ s ∈ S, SdOk s) : meetB t t R (hullL R S) = true ∧ meetB t t S (hullL R S) = true := by
  have hl : (hullL R S).length = R.length := by unfold hullL; rw [List.length_zipWith, ← h, Nat.min_self]
  obtain ⟨h1, h2⟩ := zip_with R S h hr hs
  unfold meetB
  rw [if_pos rfl, if_pos rfl, hl, if_pos rfl, if_neg h0, ← h, if_pos rfl, if_neg h0]
  exact ⟨h1, h2⟩
def cnt2 (a b : Int) (L : List Int) : Nat := (L.filter (fun z => z == a || z == b)).length
theorem cnt2_take {a b : Int} {L : List Int} {k : Nat} (h : k < L.length) : cnt2 a b (L.take (k + 1)) = cnt2 a b (L.take k) + (if (L[k] == a || L[k] == b) = true then 1 else 0) := by
  unfold cnt2
  rw [List.take_succ_eq_append_getElem h, List.filter_append, List.length_append]
  congr 1
  by_cases e : (L[k] == a || L[k] == b) = true
  · rw [if_pos e, List.filter_cons_of_pos (p := fun z => z == a || z == b) e]; rfl
  · rw [if_neg e, List.filter_cons_of_neg (p := fun z => z == a || z == b) e]; rfl
theorem cnt2_of {a b : Int} {L : List Int} (hp : L.Pairwise (· < ·)) (ha : a ∈ L) (hb : b ∈ L) : cnt2 a b L = if a = b then 1 else 2 := by
  unfold cnt2
  have hp2 : (L.filter (fun z => z == a || z == b)).Pairwise (· < ·) := List.Pairwise.filter _ hp
  have ha2 : a ∈ L.filter (fun z => z == a || z == b) := List.mem_filter.2 ⟨ha, by simp⟩
  have hb2 : b ∈ L.filter (fun z => z == a || z == b) := List.mem_filter.2 ⟨hb, by simp⟩
  have hall : ∀ z ∈ L.filter (fun z => z == a || z == b), z = a ∨ z = b := fun z hz => by simpa using (List.mem_filter.1 hz).2
  generalize L.filter (fun z => z == a || z == b) = l at *
  match l, hp2, ha2, hb2, hall with
  | [], _, h, _, _ => cases h
  | [x], _, h1, h2, _ =>
    have e1 := List.mem_singleton.1 h1
    have e2 := List.mem_singleton.1 h2
    rw [if_pos (e1.trans e2.symm)]
    rfl
  | [x, y], hp, h1, h2, hall =>
    have hxy : x < y := (List.pairwise_cons.1 hp).1 y (by simp)
    have q1 := hall x (by simp)
    have q2 := hall y (by simp)
    rw [if_neg (by omega)]
    rfl
  | x :: y :: z :: r, hp, _, _, hall =>
    have p1 := List.pairwise_cons.1 hp
    have p2 := List.pairwise_cons.1 p1.2
    have hxy : x < y := p1.1 y (by simp)
    have hyz : y < z := p2.1 z (by simp)
    have q1 := hall x (by simp)
    have q2 := hall y (by simp)
    have q3 := hall z (by simp)
    omega
theorem want_mem {L : List It} {t : Int} {T : List Sd} {it : It} (h : it ∈ L) (hm : meetB it.t t it.R T = true) : it.id ∈ wantL L t T := List.mem_map_of_mem (List.mem_filter.2 ⟨h, hm⟩)
end Go.Proofs.Ytgenpldldgplhaa
