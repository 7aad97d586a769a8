/- Reading a version. -/
import Derived.Test.YthhpilkhcomhbaaDoorSwr
namespace Go.Proofs.YthhpilkhcomhbaaDoor
open Go.ChangeShapes Go.WideShapes Go.ChangeAt Go.RowKit Go.ChangeMaps

/-- A region that draws its order, and only reads and calls quietly. -/
theorem region_quiet {P : Program} {id : Nat} {Q : Exit → Act → World → Prop} {a : Act} {w : World} {l : List Oper} (hm : P.follows .mixedOrders = true) (hB : Region.lexB .any l.toArray = true)
    (h : ∀ D : World, Below w.heap.size w D → D.heap.size = w.heap.size → wpStill P l.toArray D (fun a' => Q .normal a' D) l a) : (Code.region id l.toArray true).wp P Q a w :=
  wp_region_still_lit hm hB (h _ ⟨rfl, rfl, rfl, Nat.le_refl _, fun _ _ => rfl⟩ rfl)
theorem rall_chunk {s : St} {base N j : Nat} (h64 : ∀ r ∈ s.R, r.length = 64) (hb : base + nch N ≤ s.R.length) (hj : 64 * j < N) {m : Nat} (hm : m = 64 ∧ 64 * j + 64 ≤ N ∨ m = N - 64 * j ∧ N ≤ 64 * j + 64) :
    (rall s base N).take (64 * j) ++ (s.R.getD (base + j) []).take m = (rall s base N).take (64 * j + 64) := by
  have hl := rall_len (s := s) h64 hb
  have hjn : j < nch N := by unfold nch; omega
  have hs : (s.R.getD (base + j) []).length = 64 := getD_len64 h64 (by omega)
  apply List.ext_getElem?
  intro t
  rcases Nat.lt_or_ge t (64 * j) with h1 | h1
  · rw [List.getElem?_append_left (by rw [List.length_take, hl]; omega), List.getElem?_take, if_pos h1, List.getElem?_take, if_pos (by omega)]
  · rw [List.getElem?_append_right (by rw [List.length_take, hl]; omega), List.length_take, hl, List.getElem?_take, List.getElem?_take, Nat.min_eq_left (by omega)]
    by_cases h2 : t < 64 * j + 64
    · rw [if_pos h2]
      by_cases h3 : t < N
      · rw [rall_get h64 hb h3, if_pos (by omega), show t / 64 = j by omega, show t % 64 = t - 64 * j by omega]
      · rw [if_neg (by omega), List.getElem?_eq_none (by omega)]
    · rw [if_neg h2, if_neg (by omega)]
theorem SR_go {s : St} (hf : s.f = false) (hn : 7 ≤ s.R.length) (hs : slotOf s ≤ 1) (he : epochOf s ≠ 0) (hl : lenOf s ≤ 64 * areaOf s.R.length) :
    SR s = if crc 0 (rall s (baseOf s (slotOf s)) (lenOf s)) ≠ sumOf s then ([], 0, 17) else (rall s (baseOf s (slotOf s)) (lenOf s), epochOf s, 0) := by
  unfold SR
  rw [if_neg (by rw [hf]; decide), if_neg (by omega), if_neg (by omega), if_neg he, if_neg (by omega)]
/-- What reading a version gives. -/
def GivesR (w : World) (l : List UInt8) (e : Nat) (z : Int) (x : Ending) (w' : World) : Prop := ∃ v, x = .returned (.tuple #[v, .int .u32 (e : Int), .int .i64 z]) ∧ w'.ownsRow w.heap.size 5 1 v l.length (bc l) ∧ Below w.heap.size w w'
set_option maxRecDepth 100000 in
theorem SRead_fail (w : World) (p q : Nat) (s : St) (h : Dk w p q s) (hf : s.f = true) :
    Calls Tryd.prog 23 #[.pointer (some ⟨p, 0, none⟩)] w (GivesR w (SR s).1 (SR s).2.1 (SR s).2.2) := by
  have HC := Lib.hid (cur_fail w p q s h hf)
  have e0 : SR s = ([], 0, 15) := by unfold SR; rw [if_pos hf]
  rw [e0]
  rw [hdrV0] at HC
  unfold lay0 at HC
  clear h e0 hf
  go_enter Tryd.func23, Tryd.ntmps23
  go_wp2_with fail
  refine HC.out.mono ?_
  rintro e1 w1 ⟨rfl, hb⟩
  have HB := Lib.hid hb
  clear hb
  go_wp2
  go_returns
  have hb2 : Below w1.heap.size w1 ((w1.alloc (.cells #[.int .i64 0, .int .i64 0, .int .i64 0, .int .i64 0, .int .i64 0, .int .i64 0, .int .i64 0, .int .i64 0] 24)).alloc (.cells #[.int .u32 0, .int .u32 0, .int .u64 0] 76)) := ((Below.refl _ w1).alloc (Nat.le_refl _) _).alloc (by simp) _
  exact ⟨_, rfl, World.ownsRow_nil _ _ _ _, HB.out.trans (hb2.mono HB.out.size)⟩
set_option maxRecDepth 100000 in
theorem SRead_small (w : World) (p q : Nat) (s : St) (h : Dk w p q s) (hf : s.f = false) (hn7 : s.R.length < 7) :
    Calls Tryd.prog 23 #[.pointer (some ⟨p, 0, none⟩)] w (GivesR w (SR s).1 (SR s).2.1 (SR s).2.2) := by
  have HC := Lib.hid (cur_small w p q s h hf hn7)
  have e0 : SR s = ([], 0, 1) := by unfold SR; rw [if_neg (by rw [hf]; decide), if_pos hn7]
  rw [e0]
  rw [hdrV0] at HC
  unfold lay0 at HC
  clear h e0 hf hn7
  go_enter Tryd.func23, Tryd.ntmps23
  go_wp2_with fail
  refine HC.out.mono ?_
  rintro e1 w1 ⟨rfl, hb⟩
  have HB := Lib.hid hb
  clear hb
  go_wp2
  go_returns
  have hb2 : Below w1.heap.size w1 ((w1.alloc (.cells #[.int .i64 0, .int .i64 0, .int .i64 0, .int .i64 0, .int .i64 0, .int .i64 0, .int .i64 0, .int .i64 0] 24)).alloc (.cells #[.int .u32 0, .int .u32 0, .int .u64 0] 76)) := ((Below.refl _ w1).alloc (Nat.le_refl _) _).alloc (by simp) _
  exact ⟨_, rfl, World.ownsRow_nil _ _ _ _, HB.out.trans (hb2.mono HB.out.size)⟩
set_option maxRecDepth 100000 in
theorem SRead_slot (w : World) (p q : Nat) (s : St) (h : Dk w p q s) (hf : s.f = false) (hn7 : 7 ≤ s.R.length) (hsl : 1 < slotOf s) :
    Calls Tryd.prog 23 #[.pointer (some ⟨p, 0, none⟩)] w (GivesR w (SR s).1 (SR s).2.1 (SR s).2.2) := by
  have HC := Lib.hid (cur_slot w p q s h hf hn7 hsl)
  have e0 : SR s = ([], 0, 17) := by unfold SR; rw [if_neg (by rw [hf]; decide), if_neg (by omega), if_pos hsl]
  rw [e0]
  rw [hdrV0] at HC
  unfold lay0 at HC
  clear h e0 hf hn7 hsl
  go_enter Tryd.func23, Tryd.ntmps23
  go_wp2_with fail
  refine HC.out.mono ?_
  rintro e1 w1 ⟨rfl, hb⟩
  have HB := Lib.hid hb
  clear hb
  go_wp2
  go_returns
  have hb2 : Below w1.heap.size w1 ((w1.alloc (.cells #[.int .i64 0, .int .i64 0, .int .i64 0, .int .i64 0, .int .i64 0, .int .i64 0, .int .i64 0, .int .i64 0] 24)).alloc (.cells #[.int .u32 0, .int .u32 0, .int .u64 0] 76)) := ((Below.refl _ w1).alloc (Nat.le_refl _) _).alloc (by simp) _
  exact ⟨_, rfl, World.ownsRow_nil _ _ _ _, HB.out.trans (hb2.mono HB.out.size)⟩
set_option maxRecDepth 100000 in
theorem SRead_none0 (w : World) (p q : Nat) (s : St) (h : Dk w p q s) (hf : s.f = false) (hn7 : 7 ≤ s.R.length) (hsl : slotOf s = 0) (hn32 : lenOf s < 4294967296) (hE0 : epochOf s = 0) :
    Calls Tryd.prog 23 #[.pointer (some ⟨p, 0, none⟩)] w (GivesR w (SR s).1 (SR s).2.1 (SR s).2.2) := by
  have e0 : SR s = ([], 0, 4) := by
    unfold SR
    rw [if_neg (by rw [hf]; decide), if_neg (by omega), if_neg (by omega), if_pos hE0]
  rw [e0]
  have hn2 : s.R.length ≤ 65536 := h.2.2.2.2.2.1
  obtain ⟨a, ha⟩ : ∃ a : Int, (areaOf s.R.length : Int) = a := ⟨_, rfl⟩
  have hb16 : 1 ≤ a ∧ a ≤ 16383 := by rw [← ha]; unfold areaOf; omega
  obtain ⟨rn, hrn⟩ : ∃ n, s.R.length = n := ⟨_, rfl⟩
  have HCU := Lib.hid (cur_ok w p q s h hf hn7 (by omega))
  rw [ha, hsl, hdrVe, hrn] at HCU
  unfold layV at HCU
  obtain ⟨E, hE⟩ : ∃ x, epochOf s = x := ⟨_, rfl⟩
  obtain ⟨N, hN⟩ : ∃ x, lenOf s = x := ⟨_, rfl⟩
  obtain ⟨C, hC⟩ : ∃ x, sumOf s = x := ⟨_, rfl⟩
  rw [hE, hN, hC] at HCU
  obtain rfl : E = 0 := by omega


  clear h e0 hf hn7 hsl hE0 hE hN hC ha hrn hn2
  go_enter Tryd.func23, Tryd.ntmps23
  go_wp2_with fail
  refine HCU.out.mono ?_
  rintro e1 w1 ⟨rfl, hb⟩
  have HB := Lib.hid hb
  clear hb
  go_wp2
  go_returns
  have hb2 : Below w1.heap.size w1 ((w1.alloc (.cells #[.int .i64 0, .int .i64 1, .int .i64 2, .int .i64 3, .int .i64 (3 + a), .int .i64 a, .int .i64 (3 + 2 * a), .int .i64 (rn - (3 + 2 * a))] 24)).alloc (.cells #[.int .u32 ((0 : Nat) : Int), .int .u32 (N : Int), .int .u64 (C : Int)] 76)) := ((Below.refl _ w1).alloc (Nat.le_refl _) _).alloc (by simp) _
  exact ⟨_, rfl, World.ownsRow_nil _ _ _ _, HB.out.trans (hb2.mono HB.out.size)⟩
set_option maxRecDepth 100000 in
theorem SRead_long0 (w : World) (p q : Nat) (s : St) (h : Dk w p q s) (hf : s.f = false) (hn7 : 7 ≤ s.R.length) (hsl : slotOf s = 0) (hn32 : lenOf s < 4294967296) (hE0 : epochOf s ≠ 0) (hlong : 64 * areaOf s.R.length < lenOf s) :
    Calls Tryd.prog 23 #[.pointer (some ⟨p, 0, none⟩)] w (GivesR w (SR s).1 (SR s).2.1 (SR s).2.2) := by
  have e0 : SR s = ([], 0, 17) := by
    unfold SR
    rw [if_neg (by rw [hf]; decide), if_neg (by omega), if_neg (by omega), if_neg hE0, if_pos hlong]
  rw [e0]
  have hn2 : s.R.length ≤ 65536 := h.2.2.2.2.2.1
  obtain ⟨a, ha⟩ : ∃ a : Int, (areaOf s.R.length : Int) = a := ⟨_, rfl⟩
  have hb16 : 1 ≤ a ∧ a ≤ 16383 := by rw [← ha]; unfold areaOf; omega
  obtain ⟨rn, hrn⟩ : ∃ n, s.R.length = n := ⟨_, rfl⟩
  have HCU := Lib.hid (cur_ok w p q s h hf hn7 (by omega))
  rw [ha, hsl, hdrVe, hrn] at HCU
  unfold layV at HCU
  obtain ⟨E, hE⟩ : ∃ x, epochOf s = x := ⟨_, rfl⟩
  obtain ⟨N, hN⟩ : ∃ x, lenOf s = x := ⟨_, rfl⟩
  obtain ⟨C, hC⟩ : ∃ x, sumOf s = x := ⟨_, rfl⟩
  rw [hE, hN, hC] at HCU
  have hei : ¬ (E : Int) = 0 := by omega
  have hfi : a * 64 < (N : Int) := by omega
  have hw : IntKind.i64.wrap (N : Int) = N := by rw [IntWalk.i64_in _ (by omega)]
  clear h e0 hf hn7 hsl hE0 hE hN hC ha hrn hn2 hlong
  go_enter Tryd.func23, Tryd.ntmps23
  go_wp2_with fail
  refine HCU.out.mono ?_
  rintro e1 w1 ⟨rfl, hb⟩
  have HB := Lib.hid hb
  clear hb
  go_wp2
  go_returns
  have hb2 : Below w1.heap.size w1 ((w1.alloc (.cells #[.int .i64 0, .int .i64 1, .int .i64 2, .int .i64 3, .int .i64 (3 + a), .int .i64 a, .int .i64 (3 + 2 * a), .int .i64 (rn - (3 + 2 * a))] 24)).alloc (.cells #[.int .u32 (E : Int), .int .u32 (N : Int), .int .u64 (C : Int)] 76)) := ((Below.refl _ w1).alloc (Nat.le_refl _) _).alloc (by simp) _
  exact ⟨_, rfl, World.ownsRow_nil _ _ _ _, HB.out.trans (hb2.mono HB.out.size)⟩
set_option maxRecDepth 100000 in
theorem SRead_none1 (w : World) (p q : Nat) (s : St) (h : Dk w p q s) (hf : s.f = false) (hn7 : 7 ≤ s.R.length) (hsl : slotOf s = 1) (hn32 : lenOf s < 4294967296) (hE0 : epochOf s = 0) :
    Calls Tryd.prog 23 #[.pointer (some ⟨p, 0, none⟩)] w (GivesR w (SR s).1 (SR s).2.1 (SR s).2.2) := by
  have e0 : SR s = ([], 0, 4) := by
    unfold SR
    rw [if_neg (by rw [hf]; decide), if_neg (by omega), if_neg (by omega), if_pos hE0]
  rw [e0]
  have hn2 : s.R.length ≤ 65536 := h.2.2.2.2.2.1
  obtain ⟨a, ha⟩ : ∃ a : Int, (areaOf s.R.length : Int) = a := ⟨_, rfl⟩
  have hb16 : 1 ≤ a ∧ a ≤ 16383 := by rw [← ha]; unfold areaOf; omega
  obtain ⟨rn, hrn⟩ : ∃ n, s.R.length = n := ⟨_, rfl⟩
  have HCU := Lib.hid (cur_ok w p q s h hf hn7 (by omega))
  rw [ha, hsl, hdrVe, hrn] at HCU
  unfold layV at HCU
  obtain ⟨E, hE⟩ : ∃ x, epochOf s = x := ⟨_, rfl⟩
  obtain ⟨N, hN⟩ : ∃ x, lenOf s = x := ⟨_, rfl⟩
  obtain ⟨C, hC⟩ : ∃ x, sumOf s = x := ⟨_, rfl⟩
  rw [hE, hN, hC] at HCU
  obtain rfl : E = 0 := by omega


  clear h e0 hf hn7 hsl hE0 hE hN hC ha hrn hn2
  go_enter Tryd.func23, Tryd.ntmps23
  go_wp2_with fail
  refine HCU.out.mono ?_
  rintro e1 w1 ⟨rfl, hb⟩
  have HB := Lib.hid hb
  clear hb
  go_wp2
  go_returns
  have hb2 : Below w1.heap.size w1 ((w1.alloc (.cells #[.int .i64 0, .int .i64 1, .int .i64 2, .int .i64 3, .int .i64 (3 + a), .int .i64 a, .int .i64 (3 + 2 * a), .int .i64 (rn - (3 + 2 * a))] 24)).alloc (.cells #[.int .u32 ((0 : Nat) : Int), .int .u32 (N : Int), .int .u64 (C : Int)] 76)) := ((Below.refl _ w1).alloc (Nat.le_refl _) _).alloc (by simp) _
  exact ⟨_, rfl, World.ownsRow_nil _ _ _ _, HB.out.trans (hb2.mono HB.out.size)⟩
set_option maxRecDepth 100000 in
theorem SRead_long1 (w : World) (p q : Nat) (s : St) (h : Dk w p q s) (hf : s.f = false) (hn7 : 7 ≤ s.R.length) (hsl : slotOf s = 1) (hn32 : lenOf s < 4294967296) (hE0 : epochOf s ≠ 0) (hlong : 64 * areaOf s.R.length < lenOf s) :
    Calls Tryd.prog 23 #[.pointer (some ⟨p, 0, none⟩)] w (GivesR w (SR s).1 (SR s).2.1 (SR s).2.2) := by
  have e0 : SR s = ([], 0, 17) := by
    unfold SR
    rw [if_neg (by rw [hf]; decide), if_neg (by omega), if_neg (by omega), if_neg hE0, if_pos hlong]
  rw [e0]
  have hn2 : s.R.length ≤ 65536 := h.2.2.2.2.2.1
  obtain ⟨a, ha⟩ : ∃ a : Int, (areaOf s.R.length : Int) = a := ⟨_, rfl⟩
  have hb16 : 1 ≤ a ∧ a ≤ 16383 := by rw [← ha]; unfold areaOf; omega
  obtain ⟨rn, hrn⟩ : ∃ n, s.R.length = n := ⟨_, rfl⟩
  have HCU := Lib.hid (cur_ok w p q s h hf hn7 (by omega))
  rw [ha, hsl, hdrVe, hrn] at HCU
  unfold layV at HCU
  obtain ⟨E, hE⟩ : ∃ x, epochOf s = x := ⟨_, rfl⟩
  obtain ⟨N, hN⟩ : ∃ x, lenOf s = x := ⟨_, rfl⟩
  obtain ⟨C, hC⟩ : ∃ x, sumOf s = x := ⟨_, rfl⟩
  rw [hE, hN, hC] at HCU
  have hei : ¬ (E : Int) = 0 := by omega
  have hfi : a * 64 < (N : Int) := by omega
  have hw : IntKind.i64.wrap (N : Int) = N := by rw [IntWalk.i64_in _ (by omega)]
  clear h e0 hf hn7 hsl hE0 hE hN hC ha hrn hn2 hlong
  go_enter Tryd.func23, Tryd.ntmps23
  go_wp2_with fail
  refine HCU.out.mono ?_
  rintro e1 w1 ⟨rfl, hb⟩
  have HB := Lib.hid hb
  clear hb
  go_wp2
  go_returns
  have hb2 : Below w1.heap.size w1 ((w1.alloc (.cells #[.int .i64 0, .int .i64 1, .int .i64 2, .int .i64 3, .int .i64 (3 + a), .int .i64 a, .int .i64 (3 + 2 * a), .int .i64 (rn - (3 + 2 * a))] 24)).alloc (.cells #[.int .u32 (E : Int), .int .u32 (N : Int), .int .u64 (C : Int)] 76)) := ((Below.refl _ w1).alloc (Nat.le_refl _) _).alloc (by simp) _
  exact ⟨_, rfl, World.ownsRow_nil _ _ _ _, HB.out.trans (hb2.mono HB.out.size)⟩
end Go.Proofs.YthhpilkhcomhbaaDoor
