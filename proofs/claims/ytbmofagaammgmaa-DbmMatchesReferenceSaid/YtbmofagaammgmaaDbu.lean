/- Built: a system of given bounds. -/
import Derived.Test.YtbmofagaammgmaaDse
import Derived.Test.YtbmofagaammgmaaDop
namespace Go.Proofs.Ytbmofagaammgmaa
open Go.ChangeShapes Go.WideShapes Go.ChangeAt Go.RowKit Go.ChangeMaps

def Rbs (w : World) (A : Option Addr) (n : Nat) (R : List Rb) : Prop := At w A n 3 (R.flatMap Rb.cells)
theorem Rbs.len {w : World} {A : Option Addr} {n : Nat} {R : List Rb} (h : Rbs w A n R) : R.length = n := by
  have := h.1
  rw [flat_len Rb.cells 3 (fun _ => rfl)] at this
  omega
theorem Rbs.below {w w' : World} {A : Option Addr} {n : Nat} {R : List Rb} (h : Rbs w A n R) (hb : Below w.heap.size w w') : Rbs w' A n R := At.below h hb
theorem Rbs.at {w : World} {A : Option Addr} {n : Nat} {R : List Rb} (h : Rbs w A n R) (hn : 0 < n) : ∃ b off, A = some ⟨b, off, none⟩ ∧ b < w.heap.size ∧ ∀ (W : World), Below w.heap.size w W → ∀ i (hi : i < R.length),
    W.cell? ⟨b, off + i * 3, none⟩ = some (.int .i64 R[i].i) ∧ W.cell? ⟨b, off + i * 3 + 1, none⟩ = some (.int .i64 R[i].j) ∧ W.cell? ⟨b, off + i * 3 + 2, none⟩ = some (.int .i64 R[i].c) := by
  obtain ⟨b, off, e, hb, hc⟩ := h.2 hn
  refine ⟨b, off, e, hb, fun W hW i hi => ?_⟩
  have g : ∀ j u, j < 3 → (Rb.cells R[i])[j]? = some u → W.cell? ⟨b, off + i * 3 + j, none⟩ = some u := fun j u hj hu => by
    rw [Nat.add_assoc]
    exact keepcell hW (hc _ _ ((flat_get Rb.cells 3 (fun _ => rfl) R i j hi hj).trans hu))
  exact ⟨g 0 _ (by decide) rfl, g 1 _ (by decide) rfl, g 2 _ (by decide) rfl⟩
theorem rb_one (R : List Rb) : ∀ u ∈ R.flatMap Rb.cells, u.oneCell' = true := by
  intro u hu
  obtain ⟨x, -, hx⟩ := List.mem_flatMap.1 hu
  simp only [Rb.cells, List.mem_cons, List.not_mem_nil, or_false] at hx
  rcases hx with rfl | rfl | rfl <;> rfl
theorem Try.info41 : (Try.prog.info? 41).map (fun i => (i.zero, i.size, i.bytes)) = some (some (.agg #[.int .i64 0, .int .i64 0, .int .i64 0]), 3, 24) := by kernel_rfl
theorem own_kt {w w' : World} {B : Nat} {T : TypeId} {k n : Nat} {v : Value} {xs : List Value} (h : w.ownsRow B T k v n xs) (hk : KT w w') (h1 : T ≠ 71) (h2 : T ≠ 72) : w'.ownsRow B T k v n xs := by
  refine ⟨h.1, ?_⟩
  rcases h.2 with ⟨a, b⟩ | ⟨g, cap, cur, e, hb, hh, r⟩
  · exact .inl ⟨a, b⟩
  · exact .inr ⟨g, cap, cur, e, hb, hk.block _ _ _ _ hh h1 h2, r⟩
theorem own_app {w w' : World} {B B' : Nat} {T T' : TypeId} {k k' n n' : Nat} {v v' : Value} {xs xs' : List Value} (h : w.ownsRow B T k v n xs) (h' : w.ownsRow B' T' k' v' n' xs') (hT : T ≠ T') (hg : w.grownBy w' v'.ownBlock) : w'.ownsRow B T k v n xs := by
  refine ⟨h.1, ?_⟩
  rcases h.2 with ⟨a, b⟩ | ⟨g, cap, cur, e, hb, hh, r⟩
  · exact .inl ⟨a, b⟩
  · exact .inr ⟨g, cap, cur, e, hb, Blk.grown hh h' hT hg, r⟩
theorem MX.app {w w' : World} {B g n : Nat} {s : St} (h : MX w B g n s) {B' : Nat} {T' : TypeId} {k' n' : Nat} {v' : Value} {xs' : List Value} (h' : w.ownsRow B' T' k' v' n' xs') (h1 : T' ≠ 71) (h2 : T' ≠ 72) (hg : w.grownBy w' v'.ownBlock) : MX w' B g n s := by
  obtain ⟨⟨bm, v, M, z, b1, b2, b3, b4, b5, b6⟩, r1, r2, r3, r4, r5, r6⟩ := h
  have hmn : some bm ≠ v'.ownBlock := fun e => by
    rcases h'.2 with ⟨e2, -⟩ | ⟨k, cap, cur, e2, -, hh, -⟩
    · rw [e2] at e; cases e
    · rw [e2] at e
      have e : some bm = some k := e
      injection e with e
      exact b4.ne hh e.symm
  exact ⟨⟨bm, v, M, z, b1.grown h' (Ne.symm h1) hg, b2, b3, b4.kept hg hmn, b5, own_app b6 h' (Ne.symm h2) hg⟩, r1, r2, r3, r4, r5, r6⟩
def okB (n : Nat) (b : Rb) : Bool := decide (addE n b.i b.j b.c = 0)
def bldS (n : Nat) (R : List Rb) (s : St) : St := R.foldl (fun s b => addX s n b.i b.j b.c) s
theorem addX_a (s : St) (n : Nat) (i j c : Int) : (addX s n i j c).a ≤ s.a + 1 := by
  unfold addX
  split
  · exact Nat.le_refl _
  · omega
theorem bldS_a (n : Nat) : ∀ (R : List Rb) (s : St), (bldS n R s).a ≤ s.a + R.length
  | [], s => Nat.le_refl _
  | b :: R, s => by
    have h1 := bldS_a n R (addX s n b.i b.j b.c)
    have h2 := addX_a s n b.i b.j b.c
    show (bldS n R (addX s n b.i b.j b.c)).a ≤ s.a + (R.length + 1)
    omega
theorem bldS_take (n : Nat) {R : List Rb} {k : Nat} (h : k < R.length) (s : St) : bldS n (R.take (k + 1)) s = addX (bldS n (R.take k) s) n R[k].i R[k].j R[k].c := by
  unfold bldS
  rw [List.take_succ_eq_append_getElem h, List.foldl_append]
  rfl
theorem okB_take (n : Nat) {R : List Rb} {k : Nat} (h : k < R.length) : (R.take (k + 1)).filter (okB n) = (R.take k).filter (okB n) ++ (if addE n R[k].i R[k].j R[k].c = 0 then [R[k]] else []) := by
  rw [List.take_succ_eq_append_getElem h, List.filter_append]
  unfold okB
  by_cases e : addE n R[k].i R[k].j R[k].c = 0 <;> simp [e]
def BuP (n : Nat) (R : List Rb) (w : World) (e : Ending) (w' : World) : Prop := ∃ (g : Nat) (A : Option Addr) (m c : Nat), e = .returned (.tuple #[.pointer (some ⟨g, 0, none⟩), .slice A m c, .bool true]) ∧ MX w' w.heap.size g n (bldS n R ⟨[], fun _ => none, 0⟩) ∧ Rbs w' A m (R.filter (okB n)) ∧ m ≤ c ∧ Below w.heap.size w w'
theorem built_bad (w : World) (n : Int) (hn : n < 0 ∨ n > 64) (A : Option Addr) (m c : Nat) : Calls Try.prog 13 #[.int .i64 n, .slice A m c] w fun e w' => e = .returned (.tuple #[.pointer none, .slice none 0 0, .bool true]) ∧ Below w.heap.size w w' := by
  have CN := Lib.hid (New_bad w n hn)
  by_cases h0 : n < 0
  · clear hn
    go_enter Try.func13, Try.ntmps13
    go_wp2_with fail
    refine CN.out.mono ?_
    rintro e w1 ⟨rfl, hx⟩
    subst w1
    go_wp2
    go_ret3
    exact ⟨rfl, Below.refl _ _⟩
  · have h1 : n > 64 := by omega
    clear hn
    go_enter Try.func13, Try.ntmps13
    go_wp2_with fail
    refine CN.out.mono ?_
    rintro e w1 ⟨rfl, hx⟩
    subst w1
    go_wp2
    go_ret3
    exact ⟨rfl, Below.refl _ _⟩
set_option maxRecDepth 100000 in
set_option maxHeartbeats 4000000 in
theorem built_any (w : World) (n : Nat) (hn : n ≤ 64) (A : Option Addr) (m c : Nat) (R : List Rb) (h : Rbs w A m R) (hm : m ≤ 1000) : Calls Try.prog 13 #[.int .i64 (n : Int), .slice A m c] w (BuP n R w) := by
  have HL := Lib.hid h.len
  have HA := Lib.hid h.at
  have h0 : ¬ ((n : Int) < 0) := by omega
  have h1 : ¬ ((n : Int) > 64) := by omega
  obtain ⟨i0, hi, hz0, hz1, hz2⟩ := info_parts Try.info41
  have HI := Lib.hid hi
  have HZ0 := Lib.hid hz0
  have HZ1 := Lib.hid hz1
  have HZ2 := Lib.hid hz2
  clear h hi hz0 hz1 hz2
  go_enter Try.func13, Try.ntmps13
  go_wp2_with fail
  refine (New_any w n hn).mono ?_
  rintro e1 w1 ⟨g, rfl, hm1, hb1⟩
  have HM1 := Lib.hid hm1
  have HB1 := Lib.hid hb1
  clear hm1 hb1
  go_wp2
  go_loopw [9, 38] (fun s9 s38 wr => ∃ k : Nat, s38 = .int .i64 (k : Int) ∧ k ≤ m ∧ MX wr w.heap.size g n (bldS n (R.take k) ⟨[], fun _ => none, 0⟩) ∧ wr.ownsRow w.heap.size 41 3 s9 ((R.take k).filter (okB n)).length (((R.take k).filter (okB n)).flatMap Rb.cells) ∧ Below w.heap.size w wr) (fun _ s38 _ => m - (intOf s38).toNat)
  case atStart => exact ⟨0, rfl, Nat.zero_le _, HM1.out, World.ownsRow_nil _ _ _ _, HB1.out⟩
  case round =>
    obtain ⟨k, rfl, hkm, hM, hO, hB⟩ := hrel
    have HM := Lib.hid hM
    have HO := Lib.hid hO
    have HB := Lib.hid hB
    clear hM hO hB
    generalize wr = W at *
    by_cases hlt : k < m
    · have hki : (k : Int) < m := by omega
      have hk0 : (0 : Int) ≤ (k : Int) := by omega
      have hkR : k < R.length := by rw [HL.out]; exact hlt
      obtain ⟨bA, off, rfl, hbl, hc⟩ := HA.out (by omega)
      obtain ⟨c0, c1, c2⟩ := hc W HB.out k hkR
      have HSS := Lib.hid (bldS_take n hkR ⟨[], fun _ => none, 0⟩)
      have HSO := Lib.hid (okB_take n hkR)
      have hsa := bldS_a n (R.take k) ⟨[], fun _ => none, 0⟩
      have hle : ((R.take k).filter (okB n)).length ≤ k := by
        have h1 := List.length_filter_le (okB n) (R.take k)
        rw [List.length_take] at h1
        omega
      have hsa : (bldS n (R.take k) ⟨[], fun _ => none, 0⟩).a < 100000 := by
        rw [List.length_take] at hsa
        dsimp only at hsa
        omega
      clear hc hbl
      generalize R[k] = x at *
      obtain ⟨xi, xj, xc⟩ := x
      dsimp only at c0 c1 c2 HSS HSO
      obtain ⟨kp, hkp⟩ : ∃ kp, kp = W.heap.size := ⟨_, rfl⟩
      obtain ⟨W5, hW5⟩ : ∃ W5, W5 = W.alloc (.cells #[.int .i64 xi, .int .i64 xj, .int .i64 xc] 41) := ⟨_, rfl⟩
      have hb5 : Below W.heap.size W W5 := by rw [hW5]; exact (Below.refl _ _).alloc (Nat.le_refl _) _
      have HM5 := Lib.hid (HM.out.below hb5)
      have HO5 := Lib.hid (own_below HO.out hb5)
      have HB5 := Lib.hid (HB.out.trans (hb5.mono HB.out.size))
      have KP5 := Lib.hid (show Blk W5 kp 41 #[.int .i64 xi, .int .i64 xj, .int .i64 xc] by rw [hW5]; exact Blk.new_ hkp rfl)
      clear hb5 HM HO HB
      go_upto_region 10 with fail
      rw [← hkp, ← hW5]
      clear hW5 hkp c0 c1 c2
      have d0 : W5.cell? ⟨kp, 0, none⟩ = some (.int .i64 xi) := KP5.out.cell 0
      have d1 : W5.cell? ⟨kp, 1, none⟩ = some (.int .i64 xj) := KP5.out.cell 1
      have d2 : W5.cell? ⟨kp, 2, none⟩ = some (.int .i64 xc) := KP5.out.cell 2
      go_wp2_with fail
      clear d0 d1 d2
      refine (radd_any W5 n xi xj xc hn).mono ?_
      rintro e6 w6 ⟨rfl, hb6⟩
      have HM6 := Lib.hid (HM5.out.below hb6)
      have HO6 := Lib.hid (own_below HO5.out hb6)
      have HB6 := Lib.hid (HB5.out.trans (hb6.mono HB5.out.size))
      have KP6 := Lib.hid (KP5.out.below hb6)
      clear hb6 HM5 HO5 HB5 KP5
      have d0 : w6.cell? ⟨kp, 0, none⟩ = some (.int .i64 xi) := KP6.out.cell 0
      have d1 : w6.cell? ⟨kp, 1, none⟩ = some (.int .i64 xj) := KP6.out.cell 1
      have d2 : w6.cell? ⟨kp, 2, none⟩ = some (.int .i64 xc) := KP6.out.cell 2
      have CA := Lib.hid (Add_any w6 w.heap.size g n _ HM6.out xi xj xc hsa)
      unfold AdP at CA
      obtain ⟨q, hq⟩ : ∃ q, addE n xi xj xc = q := ⟨_, rfl⟩
      rw [hq] at CA HSO ⊢
      clear hq
      go_wp2_with fail
      clear d0 d1 d2
      refine CA.out.mono ?_
      rintro e7 w7 ⟨rfl, hm7, hk7, hb7⟩
      rw [← HSS.out] at hm7
      have HM7 := Lib.hid hm7
      have HO7 := Lib.hid (own_kt HO6.out hk7 (by decide) (by decide))
      have HB7 := Lib.hid (hb7 _ HB6.out)
      have KP7 := Lib.hid (show Blk w7 kp 41 #[.int .i64 xi, .int .i64 xj, .int .i64 xc] from hk7.block _ _ _ _ KP6.out (by decide) (by decide))
      clear hm7 hk7 hb7 HM6 HO6 HB6 KP6 CA HSS
      by_cases hq0 : q = 0
      · subst hq0
        have HSO := Lib.hid (HSO.out.trans (by rw [if_pos rfl]))
        have d0 : w7.cell? ⟨kp, 0, none⟩ = some (.int .i64 xi) := KP7.out.cell 0
        have d1 : w7.cell? ⟨kp, 1, none⟩ = some (.int .i64 xj) := KP7.out.cell 1
        have d2 : w7.cell? ⟨kp, 2, none⟩ = some (.int .i64 xc) := KP7.out.cell 2
        obtain ⟨W8, hW8⟩ : ∃ W8, W8 = w7.alloc (.cells #[.int .i64 xi, .int .i64 xj, .int .i64 xc] 41) := ⟨_, rfl⟩
        have hb8 : Below w7.heap.size w7 W8 := by rw [hW8]; exact (Below.refl _ _).alloc (Nat.le_refl _) _
        have HM8 := Lib.hid (HM7.out.below hb8)
        have HO8 := Lib.hid (own_below HO7.out hb8)
        have HB8 := Lib.hid (HB7.out.trans (hb8.mono HB7.out.size))
        have HSRC := Lib.hid (show Src Try.prog 3 22 (.slice (some ⟨w7.heap.size, 0, none⟩) 1 1) 1 (Rb.cells ⟨xi, xj, xc⟩) W8 by
          rw [hW8]
          exact src_blk (P := Try.prog) (n := 1) (size := 3) (xs := Rb.cells ⟨xi, xj, xc⟩) Try.underlying22 rfl (fun u hu => rb_one [⟨xi, xj, xc⟩] u (by simpa using hu)) (Blk.new _ _ _))
        clear hb8
        rw [hW8] at HO8 HSRC HM8 HB8
        clear hW8
        go_wp2_with (at_builtin; go_loud (refine wpList_append_src _ rfl _ _ 22 22 rfl w.heap.size 41 i0 _ 3 24 Try.underlying22 HI.out HZ0.out HZ1.out HZ2.out rfl _ _ _ rfl HO8.out _ 1 (Rb.cells ⟨xi, xj, xc⟩) rfl HSRC.out (by unfold maxLen; omega) (by omega) HB8.out.size ?_))
        intro v' W9 own' hg9 _
        have HM9 := Lib.hid (HM8.out.app HO8.out (by decide) (by decide) hg9)
        have HB9 := Lib.hid (grown_below HB8.out HB8.out.size HO8.out hg9)
        have HO9 := Lib.hid (show W9.ownsRow w.heap.size 41 3 v' ((R.take (k + 1)).filter (okB n)).length (((R.take (k + 1)).filter (okB n)).flatMap Rb.cells) by
          rw [HSO.out, List.length_append, List.flatMap_append]
          exact own')
        clear own' hg9 d0 d1 d2
        obtain ⟨A', c', rfl, -⟩ := At.of_own HO9.out
        go_wp2
        go_roundw
        case rel => exact ⟨k + 1, by go_num, hlt, HM9.out, HO9.out, HB9.out⟩
        case measure => simp [intOf]; omega
      · have HSO := Lib.hid (HSO.out.trans (by rw [if_neg hq0, List.append_nil]))
        have hq1 : (q == 0) = false := by simpa using hq0
        have HO9 := Lib.hid (show w7.ownsRow w.heap.size 41 3 _ ((R.take (k + 1)).filter (okB n)).length (((R.take (k + 1)).filter (okB n)).flatMap Rb.cells) by
          rw [HSO.out]
          exact HO7.out)
        go_wp2
        go_roundw
        case rel => exact ⟨k + 1, by go_num, hlt, HM7.out, HO9.out, HB7.out⟩
        case measure => simp [intOf]; omega
    · obtain rfl : k = m := by omega
      have hlt2 : ¬ ((k : Int) < (k : Int)) := by omega
      have htk : R.take k = R := List.take_of_length_le (by rw [HL.out]; exact Nat.le_refl _)
      rw [htk] at HM HO
      obtain ⟨A', c', rfl, hat, hle, -⟩ := At.of_own HO.out
      have HFIN := Lib.hid (show BuP n R w (.returned (.tuple #[.pointer (some ⟨g, 0, none⟩), .slice A' (R.filter (okB n)).length c', .bool true])) W from ⟨g, A', _, c', rfl, HM.out, hat, hle, HB.out⟩)
      clear hat hle htk
      obtain ⟨nn, hnn⟩ : ∃ nn, (R.filter (okB n)).length = nn := ⟨_, rfl⟩
      rw [hnn] at HFIN ⊢
      clear hnn HO HM
      go_wp2
      go_ret3
      exact HFIN.out
end Go.Proofs.Ytbmofagaammgmaa
