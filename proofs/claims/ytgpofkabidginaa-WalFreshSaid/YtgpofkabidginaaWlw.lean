/- Cases; few records; equal lists; equal disks. -/
import Derived.Test.YtgpofkabidginaaWrx
namespace Go.Proofs.Ytgpofkabidginaa
open Go.ChangeShapes Go.WideShapes Go.ChangeAt Go.RowKit Go.ChangeMaps

structure Cs where
  S : Int
  F : Int
  C : Int
  E : Nat
  OA : Option Addr
  on : Nat
  oc : Nat
  OL : List Rw
  RA : Option Addr
  rn : Nat
  rc : Nat
  RL : List Rw
def Cs.v (x : Cs) : Value := .agg #[.int .i64 x.S, .slice x.OA x.on x.oc, .int .i64 x.F, .int .i64 x.C, .int .u32 (x.E : Int), .slice x.RA x.rn x.rc]
structure CsAt (w : World) (x : Cs) : Prop where
  ol : RA (fun _ => False) w x.OA x.on x.OL
  rl : RA (fun _ => False) w x.RA x.rn x.RL
  oc : x.on ≤ x.oc ∧ x.oc ≤ 9223372036854775807
  rc : x.rn ≤ x.rc ∧ x.rc ≤ 9223372036854775807
  s : -9223372036854775808 ≤ x.S ∧ x.S ≤ 9223372036854775807
  f : -9223372036854775808 ≤ x.F ∧ x.F ≤ 9223372036854775807
  c : -9223372036854775808 ≤ x.C ∧ x.C ≤ 9223372036854775807
  e : x.E < 4294967296
theorem CsAt.below {w w' : World} {x : Cs} (h : CsAt w x) (hb : Below w.heap.size w w') : CsAt w' x := ⟨h.ol.below hb, h.rl.below hb, h.oc, h.rc, h.s, h.f, h.c, h.e⟩
def smallP (x : Cs) : Prop := 1 ≤ x.S ∧ x.S ≤ 12 ∧ (x.on : Int) ≤ x.S ∧ x.rn ≤ 12 ∧ ∀ r ∈ x.RL, r.n ≤ 400
instance (x : Cs) : Decidable (smallP x) := by unfold smallP; infer_instance
set_option maxRecDepth 100000 in
set_option maxHeartbeats 1000000 in
theorem small_any (w : World) (x : Cs) (h : CsAt w x) (b : Bool) (hb : decide (smallP x) = b) : Calls Try.prog 12 #[x.v] w fun e w' => e = .returned (.bool b) ∧ Below w.heap.size w w' := by
  obtain ⟨hs1, hs2⟩ := h.s
  obtain ⟨ho1, ho2⟩ := h.oc
  obtain ⟨hr1, hr2⟩ := h.rc
  have HR := Lib.hid h.rl
  have HB : Hid (decide (1 ≤ x.S ∧ x.S ≤ 12 ∧ (x.on : Int) ≤ x.S ∧ x.rn ≤ 12 ∧ ∀ r ∈ x.RL, r.n ≤ 400) = b) := Lib.hid (by rw [← hb]; simp only [smallP])
  clear h hb
  obtain ⟨S, F, C, E, OA, on, oc, OL, RA, rn, rc, RL⟩ := x
  simp only [Cs.v] at *
  by_cases hp : 1 ≤ S ∧ S ≤ 12 ∧ (on : Int) ≤ S ∧ rn ≤ 12
  · obtain ⟨h1, h2, h3, h4⟩ := hp
    have h4i : (rn : Int) ≤ 12 := by omega
    have HB2 : Hid (decide (∀ r ∈ RL, r.n ≤ 400) = b) := Lib.hid (by rw [← HB.out]; simp only [decide_eq_decide]; exact ⟨fun h => ⟨h1, h2, h3, h4, h⟩, fun h => h.2.2.2.2⟩)
    clear HB
    go_enter Try.func12, Try.ntmps12
    go_wp2_with fail
    go_loopw [30] (fun i wr => ∃ k : Nat, k ≤ rn ∧ i = .int .i64 (k : Int) ∧ (∀ j (h : j < RL.length), j < k → RL[j].n ≤ 400) ∧ Below w.heap.size w wr) (fun i _ => rn - (intOf i).toNat)
    case atStart => exact ⟨0, Nat.zero_le _, rfl, fun j _ hj => absurd hj (by omega), (Below.refl _ w).alloc (Nat.le_refl _) _⟩
    case round =>
      obtain ⟨k, hk, rfl, hp, hB⟩ := hrel
      have HW := Lib.hid hB
      have HP := Lib.hid hp
      clear hB hp
      by_cases hlt : k < rn
      · obtain ⟨bb, off, rfl, hbl, -, hcc⟩ := HR.out.2.1 (by omega)
        have hk2 : k < RL.length := by rw [HR.out.1]; exact hlt
        obtain ⟨y, hy⟩ : ∃ y, RL[k] = y := ⟨_, rfl⟩
        have hh := hcc k hk2
        rw [hy] at hh
        have q0 : wr.cell? ⟨bb, off + k, none⟩ = some (.slice y.A y.n y.c) := keepcell HW.out hh
        have hyc : y.n ≤ y.c ∧ y.c ≤ 9223372036854775807 := (HR.out.2.2 y (hy ▸ List.getElem_mem _)).2
        obtain ⟨hyc1, hyc2⟩ := hyc
        have HX := Lib.hid hy
        clear hcc hh hy
        by_cases hm : y.n ≤ 400
        · have hmi : ((y.n : Nat) : Int) ≤ 400 := by omega
          have HP2 : Hid (∀ j (h : j < RL.length), j < k + 1 → RL[j].n ≤ 400) := Lib.hid (fun j hj hlt => by
            by_cases hjk : j < k
            · exact HP.out j hj hjk
            · obtain rfl : j = k := by omega
              rw [HX.out]; exact hm)
          go_wp2
          go_roundw
          case rel => exact ⟨k + 1, by omega, by go_num, HP2.out, HW.out⟩
          case measure => simp [intOf]; omega
        · have hmi : (400 : Int) < ((y.n : Nat) : Int) := by omega
          have e : Hid (b = false) := Lib.hid (by
            rw [← HB2.out]
            simp only [decide_eq_false_iff_not]
            intro hh
            have := hh RL[k] (List.getElem_mem _)
            rw [HX.out] at this
            omega)
          go_wp2
          go_ret
          exact ⟨by rw [e.out]; rfl, HW.out⟩
      · obtain rfl : k = rn := by omega
        have e : Hid (b = true) := Lib.hid (by
          rw [← HB2.out, decide_eq_true_eq]
          intro r hr
          obtain ⟨j, hj, rfl⟩ := List.mem_iff_getElem.1 hr
          exact HP.out j hj (by rw [← HR.out.1]; exact hj))
        go_wp2
        go_ret
        exact ⟨by rw [e.out]; rfl, HW.out⟩
  · have e : Hid (b = false) := Lib.hid (by
      rw [← HB.out]
      simp only [decide_eq_false_iff_not]
      exact fun hh => hp ⟨hh.1, hh.2.1, hh.2.2.1, hh.2.2.2.1⟩)
    have hp2 : S < 1 ∨ 12 < S ∨ S < (on : Int) ∨ 12 < (rn : Int) := by omega
    clear hp HB
    go_enter Try.func12, Try.ntmps12
    by_cases a1 : S < 1
    · go_wp2
      go_ret
      exact ⟨by rw [e.out]; rfl, (Below.refl _ w).alloc (Nat.le_refl _) _⟩
    · have a1' : 1 ≤ S := by omega
      by_cases a2 : 12 < S
      · go_wp2
        go_ret
        exact ⟨by rw [e.out]; rfl, (Below.refl _ w).alloc (Nat.le_refl _) _⟩
      · have a2' : S ≤ 12 := by omega
        by_cases a3 : S < (on : Int)
        · go_wp2
          go_ret
          exact ⟨by rw [e.out]; rfl, (Below.refl _ w).alloc (Nat.le_refl _) _⟩
        · have a3' : (on : Int) ≤ S := by omega
          have a4 : 12 < (rn : Int) := by omega
          go_wp2
          go_ret
          exact ⟨by rw [e.out]; rfl, (Below.refl _ w).alloc (Nat.le_refl _) _⟩
set_option maxRecDepth 100000 in
set_option maxHeartbeats 1000000 in
theorem equal_any (w : World) (A B : Option Addr) (n c m d : Nat) (L M : List Rw) (h1 : RA (fun _ => False) w A n L) (h2 : RA (fun _ => False) w B m M) (hn : n ≤ 100000000) (hm : m ≤ 100000000) (b : Bool) (hb : decide (L.map Rw.l = M.map Rw.l) = b) :
    Calls Try.prog 23 #[.slice A n c, .slice B m d] w fun e w' => e = .returned (.bool b) ∧ Below w.heap.size w w' := by
  have H1 := Lib.hid h1
  have H2 := Lib.hid h2
  have HB := Lib.hid hb
  clear h1 h2 hb
  by_cases hnm : n = m
  · subst hnm
    go_enter Try.func23, Try.ntmps23
    go_wp2
    go_loopw [5, 13] (fun _ i wr => ∃ k : Nat, k ≤ n ∧ i = .int .i64 (k : Int) ∧ (L.map Rw.l).take k = (M.map Rw.l).take k ∧ Below w.heap.size w wr) (fun _ i _ => n - (intOf i).toNat)
    case atStart => exact ⟨0, Nat.zero_le _, rfl, rfl, Below.refl _ _⟩
    case round =>
      obtain ⟨k, hk, rfl, hp, hB⟩ := hrel
      have HW := Lib.hid hB
      have HP := Lib.hid hp
      clear hB hp
      by_cases hlt : k < n
      · have hki : (k : Int) < n := by omega
        have hkk : (0 : Int) ≤ (k : Int) := by omega
        obtain ⟨b1, o1, rfl, -, -, hc1⟩ := H1.out.2.1 (by omega)
        obtain ⟨b2, o2, rfl, -, -, hc2⟩ := H2.out.2.1 (by omega)
        have hk1 : k < L.length := by rw [H1.out.1]; exact hlt
        have hk2 : k < M.length := by rw [H2.out.1]; exact hlt
        obtain ⟨y, hy⟩ : ∃ y, L[k] = y := ⟨_, rfl⟩
        obtain ⟨z, hz⟩ : ∃ z, M[k] = z := ⟨_, rfl⟩
        have q1 := hc1 k hk1
        have q2 := hc2 k hk2
        rw [hy] at q1
        rw [hz] at q2
        have q1 : wr.cell? ⟨b1, o1 + k, none⟩ = some (.slice y.A y.n y.c) := keepcell HW.out q1
        have q2 : wr.cell? ⟨b2, o2 + k, none⟩ = some (.slice z.A z.n z.c) := keepcell HW.out q2
        have g1 := fun (u : World) (hu : Below wr.heap.size wr u) => string_at (c := y.c) (((H1.out.2.2 y (hy ▸ List.getElem_mem _)).1.at.below HW.out).below hu)
        have g2 := fun (u : World) (hu : Below wr.heap.size wr u) => string_at (c := z.c) (((H2.out.2.2 z (hz ▸ List.getElem_mem _)).1.at.below HW.out).below hu)
        have r1 := g1 wr.drew (below_drew (Below.refl _ _))
        have r2 := g2 wr.drew (below_drew (Below.refl _ _))
        have HE : Hid ((L.map Rw.l).take (k + 1) = (M.map Rw.l).take (k + 1) ↔ y.l = z.l) := Lib.hid (by
          rw [List.take_succ_eq_append_getElem (by simpa using hk1), List.take_succ_eq_append_getElem (by simpa using hk2), HP.out]
          simp [hy, hz])
        clear hc1 hc2 hy hz g1 g2
        obtain ⟨yA, yn, yc, yl⟩ := y
        obtain ⟨zA, zn, zc, zl⟩ := z
        simp only at q1 q2 r1 r2 HE
        by_cases he : yl = zl
        · subst he
          have HE2 := Lib.hid (HE.out.2 rfl)
          clear HE
          go_wp2
          go_region
          go_wp2
          go_roundw
          case rel => exact ⟨k + 1, by omega, by go_num, HE2.out, below_drew HW.out⟩
          case measure => simp [intOf]; omega
        · have hq : (yl == zl) = false := beq_eq_false_iff_ne.2 he
          have e : Hid (b = false) := Lib.hid (by
            rw [← HB.out]
            simp only [decide_eq_false_iff_not]
            intro hh
            exact he (HE.out.1 (by rw [hh])))
          clear HE
          go_wp2
          go_region
          go_wp2
          go_ret
          exact ⟨by rw [e.out]; rfl, below_drew HW.out⟩
      · obtain rfl : k = n := by omega
        have e : Hid (b = true) := Lib.hid (by
          rw [← HB.out, decide_eq_true_eq]
          have := HP.out
          rw [List.take_of_length_le (by rw [List.length_map, H1.out.1]; exact Nat.le_refl _), List.take_of_length_le (by rw [List.length_map, H2.out.1]; exact Nat.le_refl _)] at this
          exact this)
        go_wp2
        go_ret
        exact ⟨by rw [e.out]; rfl, HW.out⟩
  · have e : Hid (b = false) := Lib.hid (by
      rw [← HB.out]
      simp only [decide_eq_false_iff_not]
      intro hh
      have h3 := congrArg List.length hh
      rw [List.length_map, List.length_map, H1.out.1, H2.out.1] at h3
      exact hnm h3)
    have hq : ((n : Int) == (m : Int)) = false := by simp; omega
    have hq2 : ((n : Int) != (m : Int)) = true := by simp; omega
    go_enter Try.func23, Try.ntmps23
    go_wp2
    go_ret
    exact ⟨by rw [e.out]; rfl, Below.refl _ _⟩
end Go.Proofs.Ytgpofkabidginaa
