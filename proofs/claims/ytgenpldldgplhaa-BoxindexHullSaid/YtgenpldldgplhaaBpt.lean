/- Put. -/
import Derived.Test.YtgenpldldgplhaaBpu
import Derived.Test.YtgenpldldgplhaaMix
import Derived.Test.YtgenpldldgplhaaScl
import Derived.WalkSpells
import Derived.BigQuiet
namespace Go.Proofs.Ytgenpldldgplhaa
open Go.ChangeShapes Go.WideShapes Go.ChangeAt Go.RowKit Go.ChangeMaps

theorem below_set {B : Nat} {w0 w : World} {g i : Nat} (h : Below B w0 w) (hB : B ≤ w.heap.size) (hg : B ≤ g) (u : Value) : Below B w0 (w.setCell ⟨g, i, none⟩ u) := h.grown (grown_set w g i u) hB (fun j hj => by injection hj with hj; omega)
theorem qm64 (w : World) (r : Option Nat) : (binOp .eql 64 (.map r) (.map none)).run Try.prog w = .ok (.bool r.isNone) w := run_eql_map_nil w 64 2 40 r Try.underlying64
/-- What stands while a box is put. -/
structure ST (w W : World) (B x bk bt bi : Nat) (cs : Array Value) (Mt : Nat) (ft : Int → Option Value) (Mi si : Nat) (fi : Int → Option Value) (S : Int → Prop) (g : Int → Nat) (mg sg : Int → Nat) (fg : Int → Int → Option Value) : Prop where
  blk : Blk W x 63 #[.map (some bt), .map (some bi)]
  box : Blk W bk 40 cs
  mt : ∃ st, MB W 3 .i64 bt Mt st ft
  mi : MB W 2 .i64 bi Mi si fi
  gs : ∀ T, S T → MB W 2 .i64 (g T) (mg T) (sg T) (fg T)
  kc : KC w W
  bl : ∀ w0, Below B w0 w → Below B w0 W
  big : w.heap.size < W.heap.size
theorem ST.below {w W : World} {B x bk bt bi : Nat} {cs : Array Value} {Mt : Nat} {ft : Int → Option Value} {Mi si : Nat} {fi : Int → Option Value} {S : Int → Prop} {g : Int → Nat} {mg sg : Int → Nat} {fg : Int → Int → Option Value}
    (h : ST w W B x bk bt bi cs Mt ft Mi si fi S g mg sg fg) (hB : B ≤ w.heap.size) {W' : World} (hb : Below W.heap.size W W') : ST w W' B x bk bt bi cs Mt ft Mi si fi S g mg sg fg := by
  obtain ⟨st, hm⟩ := h.mt
  exact ⟨h.blk.below hb, h.box.below hb, ⟨st, hm.below hb⟩, h.mi.below hb, fun T hT => (h.gs T hT).below hb, h.kc.trans (KC.of_below hb), fun w0 q => (h.bl w0 q).trans (hb.mono (by have := h.big; omega)), Nat.lt_of_lt_of_le h.big hb.size⟩
/-- .. behind the table's map. -/
def SP (w W : World) (B x bk bt bi : Nat) (cs : Array Value) (M : Nat) (D : List It) (t : Int) (G : Int → Nat) : Prop :=
  ST w W B x bk bt bi cs (M + 1) (fup (fun T => if hasT D T = true then some (.map (some (G T))) else none) t (.map (some (G t)))) M D.length (fun a => (fnd D a).map (fun it => .int .i64 it.t)) (fun T => hasT D T = true ∨ T = t) G (fun _ => M) (cntT D) (spec D)
def SG (D : List It) (t : Int) (B bt bi : Nat) (G : Int → Nat) : Prop := ∀ T, hasT D T = true ∨ T = t → B ≤ G T ∧ G T ≠ bt ∧ G T ≠ bi ∧ ∀ T', hasT D T' = true ∨ T' = t → G T' = G T → T' = T
theorem SP.old {w W : World} {B x bk bt bi : Nat} {cs : Array Value} {M : Nat} {D : List It} {t : Int} {g : Int → Nat} (hT : hasT D t = true)
    (h : ST w W B x bk bt bi cs M (fun T => if hasT D T = true then some (.map (some (g T))) else none) M D.length (fun a => (fnd D a).map (fun it => .int .i64 it.t)) (fun T => hasT D T = true) g (fun _ => M) (cntT D) (spec D)) : SP w W B x bk bt bi cs M D t g := by
  obtain ⟨st, hm⟩ := h.mt
  refine ⟨h.blk, h.box, ⟨st, (hm.mono (Nat.le_succ M)).ext rfl (fun a _ => ?_)⟩, h.mi, fun T hT' => h.gs T (hT'.elim id (fun e => by rw [e]; exact hT)), h.kc, h.bl, h.big⟩
  unfold fup
  by_cases e : a = t
  · subst e; rw [if_pos rfl, if_pos hT]
  · rw [if_neg e]
theorem SP.new {w W w2 : World} {B x bk bt bi : Nat} {cs : Array Value} {M st2 : Nat} {D : List It} {t : Int} {g : Int → Nat} (hT : hasT D t = false) (hne : bt ≠ bi) (hB : B ≤ w.heap.size) (hB2 : B ≤ bt)
    (h : ST w W B x bk bt bi cs M (fun T => if hasT D T = true then some (.map (some (g T))) else none) M D.length (fun a => (fnd D a).map (fun it => .int .i64 it.t)) (fun T => hasT D T = true) g (fun _ => M) (cntT D) (spec D))
    (hG : ∀ T, hasT D T = true → B ≤ g T ∧ g T ≠ bt ∧ g T ≠ bi ∧ ∀ T', hasT D T' = true → g T' = g T → T' = T)
    (m2 : MB w2 3 .i64 bt (M + 1) st2 (fup (fun T => if hasT D T = true then some (.map (some (g T))) else none) t (.map (some W.heap.size)))) (gr : (W.drew.alloc (.map #[] 0)).grownBy w2 (some bt)) :
    SP w w2 B x bk bt bi cs M D t (fun T => if T = t then W.heap.size else g T) ∧ SG D t B bt bi (fun T => if T = t then W.heap.size else g T) := by
  have hb : Below W.heap.size W (W.drew.alloc (.map #[] 0)) := ((Below.refl _ W).drew).alloc (Nat.le_refl _) _
  have hA := h.below hB hb
  obtain ⟨st, hmA⟩ := hA.mt
  obtain ⟨st0, hm0⟩ := h.mt
  have hk : KC (W.drew.alloc (.map #[] 0)) w2 := KC.of_map hmA gr
  have hbig := h.big
  have hnt : ∀ T, hasT D T = true → T ≠ t := fun T h1 e => by rw [e, hT] at h1; cases h1
  have hlt : ∀ T, hasT D T = true → g T < W.heap.size := fun T h1 => (h.gs T h1).lt
  refine ⟨⟨hA.blk.kc hk, hA.box.kc hk, ⟨st2, m2.ext rfl (fun a _ => ?_)⟩, hA.mi.kept gr (fun e => hne (by injection e with e; exact e.symm)), fun T hT' => ?_, hA.kc.trans hk, fun w0 q => below_map (hA.bl w0 q) gr (Nat.le_trans hB (Nat.le_of_lt hA.big)) hB2, Nat.lt_of_lt_of_le hA.big gr.size⟩, fun T hT' => ?_⟩
  · unfold fup
    by_cases e : a = t
    · subst e; rw [if_pos rfl, if_pos rfl]; simp
    · rw [if_neg e, if_neg e]
      show _ = if hasT D a = true then some (Value.map (some (g a))) else none
      rw [← (if_neg e : (if a = t then W.heap.size else g a) = g a)]
  · by_cases e : T = t
    · subst e
      rw [if_pos rfl]
      have h5 := ((MB.made W.drew 2 .i64).mono (Nat.zero_le M)).kept gr (fun e => by injection e with e; have := hm0.lt; have : W.drew.heap.size = W.heap.size := rfl; omega)
      refine h5.ext ?_ (fun a _ => by rw [spec_none hT])
      rw [hasT_cnt] at hT
      simpa using hT
    · rw [if_neg e]
      have h1 := hT'.resolve_right e
      exact (hA.gs T h1).kept gr (fun e => (hG T h1).2.1 (by injection e))
  · dsimp only
    by_cases e : T = t
    · subst e
      rw [if_pos rfl]
      refine ⟨by omega, by have := hm0.lt; omega, by have := h.mi.lt; omega, fun T' h1 h2 => ?_⟩
      by_cases e2 : T' = T
      · exact e2
      · rw [if_neg e2] at h2
        have := hlt T' (h1.resolve_right e2)
        omega
    · rw [if_neg e]
      have h1 := hT'.resolve_right e
      obtain ⟨q1, q2, q3, q4⟩ := hG T h1
      refine ⟨q1, q2, q3, fun T' h3 h2 => ?_⟩
      by_cases e2 : T' = t
      · rw [if_pos e2] at h2
        have := hlt T h1
        omega
      · rw [if_neg e2] at h2
        exact q4 T' (h3.resolve_right e2) h2
theorem MB.xne {w : World} {k : TypeId} {q : IntKind} {b n s j : Nat} {f : Int → Option Value} (h : MB w k q b n s f) {cs : Array Value} {t : TypeId} (hj : Blk w j t cs) : b ≠ j := fun e => h.ne hj e.symm
theorem ST.set {w W : World} {B x bk bt bi : Nat} {cs : Array Value} {Mt : Nat} {ft : Int → Option Value} {Mi si : Nat} {fi : Int → Option Value} {S : Int → Prop} {g : Int → Nat} {mg sg : Int → Nat} {fg : Int → Int → Option Value} (h : ST w W B x bk bt bi cs Mt ft Mi si fi S g mg sg fg) (hB : B ≤ w.heap.size) (hbk : bk = w.heap.size) (hx : x < bk) (i : Nat) (u : Value) :
    ST w (W.setCell ⟨bk, i, none⟩ u) B x bk bt bi (cs.setIfInBounds i u) Mt ft Mi si fi S g mg sg fg := by
  obtain ⟨st, hm⟩ := h.mt
  refine ⟨?_, Joins.block_setCell h.box _, ⟨st, hm.set (hm.xne h.box) u⟩, h.mi.set (h.mi.xne h.box) u, fun T hT => (h.gs T hT).set ((h.gs T hT).xne h.box) u, h.kc.set (by omega) u, fun w0 q => below_set (h.bl w0 q) (by have := h.big; omega) (by omega) u, by have := h.big; simpa [World.setCell] using this⟩
  exact (Below.heap_setCell W _ u x (show x ≠ bk by omega)).trans h.blk
theorem ST.put_g {w W : World} {B x bk bt bi : Nat} {cs : Array Value} {Mt : Nat} {ft : Int → Option Value} {Mi si : Nat} {fi : Int → Option Value} {S : Int → Prop} {g : Int → Nat} {mg sg : Int → Nat} {fg : Int → Int → Option Value} (h : ST w W B x bk bt bi cs Mt ft Mi si fi S g mg sg fg) (hB : B ≤ w.heap.size) {t : Int} {w6 : World} {m6 s6 : Nat} {f6 : Int → Option Value} (hSt : S t) (hb : B ≤ g t) (h1 : g t ≠ bt) (h2 : g t ≠ bi) (h3 : ∀ T', S T' → g T' = g t → T' = t)
    (m : MB w6 2 .i64 (g t) m6 s6 f6) (gr : W.grownBy w6 (some (g t))) :
    ST w w6 B x bk bt bi cs Mt ft Mi si fi S g (fun T => if T = t then m6 else mg T) (fun T => if T = t then s6 else sg T) (fun T => if T = t then f6 else fg T) := by
  obtain ⟨st, hm⟩ := h.mt
  have hk : KC W w6 := KC.of_map (h.gs t hSt) gr
  refine ⟨h.blk.kc hk, h.box.kc hk, ⟨st, hm.kept gr (fun e => h1 (by injection e with e; exact e.symm))⟩, h.mi.kept gr (fun e => h2 (by injection e with e; exact e.symm)), fun T hT => ?_, h.kc.trans hk, fun w0 q => below_map (h.bl w0 q) gr (by have := h.big; omega) hb, Nat.lt_of_lt_of_le h.big gr.size⟩
  by_cases e : T = t
  · subst e; rw [if_pos rfl, if_pos rfl, if_pos rfl]; exact m
  · rw [if_neg e, if_neg e, if_neg e]; exact (h.gs T hT).kept gr (fun e2 => e (h3 T hT (by injection e2)))
set_option maxRecDepth 100000 in
set_option maxHeartbeats 1000000 in
theorem Put_any (w : World) (B x M : Nat) (L : List It) (h : IX w B x M L) (id t : Int) (hid : w64 id) (ht : w64 t) (A : Option Addr) (n c : Nat) (R : List Sd) (hs : Sds w A n R) (hn : n ≤ 1000) (hM : M + 1 < 1000000) :
    Calls Try.prog 18 #[.pointer (some ⟨x, 0, none⟩), .int .i64 id, .agg #[.int .i64 t, .slice A n c]] w fun e w' => e = .returned (.tuple #[]) ∧ (∃ A' c', IX w' B x (M + 1) (putL L ⟨id, t, A', n, c', R⟩)) ∧ KC w w' ∧ (∀ w0, Below B w0 w → Below B w0 w') := by
  have hBw : B ≤ w.heap.size := by
    obtain ⟨bt, bi, g, -, -, hB2, -, -, -, ⟨st, h7⟩, -⟩ := h.all
    exact Nat.le_trans hB2 (Nat.le_of_lt h7.lt)
  obtain ⟨bk, hbk⟩ : ∃ bk, bk = w.heap.size := ⟨_, rfl⟩
  obtain ⟨W0, hW0⟩ : ∃ W0, W0 = w.alloc (.cells #[.int .i64 t, .slice A n c] 40) := ⟨_, rfl⟩
  have hb0 : Below w.heap.size w W0 := by rw [hW0]; exact (Below.refl _ w).alloc (Nat.le_refl _) _
  have HB0 := Lib.hid (show ∀ w0, Below B w0 w → Below B w0 W0 from fun w0 h => by rw [hW0]; exact h.alloc hBw _)
  have HK0 := Lib.hid (KC.of_below hb0)
  have HKB := Lib.hid (show Blk W0 bk 40 #[.int .i64 t, .slice A n c] by rw [hW0]; exact Blk.new_ hbk rfl)
  have CD := Lib.hid (Delete_any W0 B x M L (h.below hb0) id hid)
  have HS := Lib.hid hs
  have HIX0 := Lib.hid h
  have hbx : x < w.heap.size := by
    obtain ⟨bt, bi, g, h1, -⟩ := h.all
    exact h1.lt
  have HLT := Lib.hid (show w.heap.size ≤ W0.heap.size from hb0.size)
  clear h hs hb0
  go_enter Try.func18, Try.ntmps18
  go_wp2_with fail
  rw [← hbk, ← hW0]
  refine CD.out.mono ?_
  rintro e2 w1 ⟨rfl, hix, hkc, hbl⟩
  obtain ⟨D, hD⟩ : ∃ D, D = delL L id := ⟨_, rfl⟩
  rw [← hD] at hix
  have HIX := Lib.hid hix
  have HK1 := Lib.hid (HK0.out.trans hkc)
  have HB1 := Lib.hid (fun w0 h => hbl w0 (HB0.out w0 h))
  have k1 := hkc
  have HKB1 := Lib.hid (HKB.out.kc hkc)
  have hsz : w.heap.size < w1.heap.size := by
    have := HKB1.out.lt
    omega
  clear hkc hbl CD k1
  obtain ⟨bt, bi, g, h1, hB1, hB2, hB3, hne, h6, ⟨st, h7⟩, h8⟩ := hix.all
  have H1 := Lib.hid h1
  have H6 := Lib.hid h6
  have H7 := Lib.hid h7
  have H8 := Lib.hid (show ∀ T, hasT D T = true → MB w1 2 .i64 (g T) M (cntT D T) (spec D T) ∧ B ≤ g T ∧ g T ≠ bt ∧ g T ≠ bi ∧ ∀ T', hasT D T' = true → g T' = g T → T' = T from h8)
  clear hix h1 h6 h7 h8
  have q64 := qm64
  go_wp2_with fail
  refine region_tail 7 (by kernel_rfl) (by kernel_rfl) (fun D1 hD1 hs1 => ?_)
  simp only [List.take_succ_cons, List.take_zero, List.drop_succ_cons, List.drop_zero]
  have HST := Lib.hid ((show ST w w1 B x bk bt bi #[.int .i64 t, .slice A n c] M (fun T => if hasT D T = true then some (.map (some (g T))) else none) M D.length (fun a => (fnd D a).map (fun it => .int .i64 it.t)) (fun T => hasT D T = true) g (fun _ => M) (cntT D) (spec D) from ⟨H1.out, HKB1.out, ⟨st, H7.out⟩, H6.out, fun T hT => (H8.out T hT).1, HK1.out, HB1.out, hsz⟩).below hBw hD1)
  have HG := Lib.hid (fun T hT => (H8.out T hT).2)
  have HIX1 := HIX
  clear H1 H6 H7 H8 HKB1 HK1 HB1 hD1 hs1 HB0 HK0 HKB HLT HIX
  have c0 : D1.cell? ⟨x, 0, none⟩ = some (.map (some bt)) := HST.out.blk.cell 0
  have k0 : D1.cell? ⟨w.heap.size, 0, none⟩ = some (.int .i64 t) := by rw [← hbk]; exact HST.out.box.cell 0
  have k1 : D1.cell? ⟨w.heap.size, 1, none⟩ = some (.slice A n c) := by rw [← hbk]; exact HST.out.box.cell 1
  obtain ⟨st1, hmt⟩ := HST.out.mt
  have hl := hmt.look (t := 60) (e := 64) Try.underlying3 Try.underlying60 (zeroM D1) ht
  have HMT := Lib.hid hmt
  clear hmt
  by_cases hT : hasT D t = true
  simp only [hT, if_true, Option.getD_some] at hl
  repeat still_step
  refine wpStill_nil ?_
  go_wp2_with fail
  have HSX := Lib.hid (SP.old hT HST.out)
  have HGX := Lib.hid (show SG D t B bt bi g from fun T h => by
    have h1 : hasT D T = true := h.elim (fun h => h) (fun e => by rw [e]; exact hT)
    obtain ⟨q1, q2, q3, q4⟩ := HG.out T h1
    exact ⟨q1, q2, q3, fun T' h' => q4 T' (h'.elim (fun h => h) (fun e => by rw [e]; exact hT))⟩)
  obtain ⟨G, hGe⟩ : ∃ G, G = g := ⟨_, rfl⟩
  obtain ⟨W3, hW3⟩ : ∃ W3, W3 = D1 := ⟨_, rfl⟩
  rw [← hW3]
  rw [← hW3, ← hGe] at HSX
  rw [← hGe] at HGX
  clear hGe hW3 hl c0 k0 k1 hT HST HG HMT
  rotate_left 1
  have hT' : hasT D t = false := by simpa using hT
  simp only [hT', Bool.false_eq_true, if_false, Option.getD_none] at hl
  repeat still_step
  refine wpStill_nil ?_
  go_upto_region 3 with fail
  have hbA : Below D1.heap.size D1 (D1.drew.alloc (.map #[] 0)) := ((Below.refl _ D1).drew).alloc (Nat.le_refl _) _
  have HMU := Lib.hid (HMT.out.below hbA)
  have c0a := (hbA.cell (p := ⟨x, 0, none⟩) HST.out.blk.lt).trans c0
  have k0a := (hbA.cell (p := ⟨w.heap.size, 0, none⟩) HST.out.big).trans k0
  have k1a := (hbA.cell (p := ⟨w.heap.size, 1, none⟩) HST.out.big).trans k1
  have KEY := Lib.hid (fun (w2 : World) (gr2 : (D1.drew.alloc (.map #[] 0)).grownBy w2 (some bt)) => cell_kc (KC.of_map HMU.out gr2) k1a)
  clear hbA k1 k1a
  refine wp_region_mix 7 (fun w' => w'.cell? ⟨x, 0, none⟩ = some (.map (some bt)) ∧ w'.cell? ⟨w.heap.size, 0, none⟩ = some (.int .i64 t)) (by kernel_rfl) (by decide) ?_
  refine wpM_take (i := 0) (oi := ⟨some 17, _, _, _, _, _⟩) (v := ?_) rfl (by decide +kernel) (by decide +kernel) (by decide +kernel) (fun _ _ _ h => h) (Or.inl ⟨by rfl, ?_⟩) ⟨c0, k0⟩ ?_
  case refine_2 => (intro w hSw; obtain ⟨s0, s1⟩ := hSw; go_simp; try (with_reducible rfl))
  try simp only [Act.put, List.setIfInBounds_toArray, List.set_cons_zero, List.set_cons_succ]
  refine wpM_take (i := 1) (oi := ⟨some 18, _, _, _, _, _⟩) (v := ?_) rfl (by decide +kernel) (by decide +kernel) (by decide +kernel) (fun _ _ _ h => h) (Or.inl ⟨by rfl, ?_⟩) ⟨c0, k0⟩ ?_
  case refine_2 => (intro w hSw; obtain ⟨s0, s1⟩ := hSw; go_simp; try (with_reducible rfl))
  try simp only [Act.put, List.setIfInBounds_toArray, List.set_cons_zero, List.set_cons_succ]
  refine wpM_take (i := 2) (oi := ⟨some 19, _, _, _, _, _⟩) (v := ?_) rfl (by decide +kernel) (by decide +kernel) (by decide +kernel) (fun _ _ _ h => h) (Or.inl ⟨by rfl, ?_⟩) ⟨c0, k0⟩ ?_
  case refine_2 => (intro w hSw; obtain ⟨s0, s1⟩ := hSw; go_simp; try (with_reducible rfl))
  try simp only [Act.put, List.setIfInBounds_toArray, List.set_cons_zero, List.set_cons_succ]
  refine wpM_take (i := 3) (oi := ⟨some 20, _, _, _, _, _⟩) (v := ?_) rfl (by decide +kernel) (by decide +kernel) (by decide +kernel) (fun _ _ _ h => h) (Or.inl ⟨by rfl, ?_⟩) ⟨c0, k0⟩ ?_
  case refine_2 => (intro w hSw; obtain ⟨s0, s1⟩ := hSw; go_simp; try (with_reducible rfl))
  try simp only [Act.put, List.setIfInBounds_toArray, List.set_cons_zero, List.set_cons_succ]
  refine wpM_take (i := 4) (oi := ⟨some 21, _, _, _, _, _⟩) (v := ?_) rfl (by decide +kernel) (by decide +kernel) (by decide +kernel) (fun _ _ _ h => h) (Or.inl ⟨by rfl, ?_⟩) ⟨c0, k0⟩ ?_
  case refine_2 => (intro w hSw; obtain ⟨s0, s1⟩ := hSw; go_simp; try (with_reducible rfl))
  try simp only [Act.put, List.setIfInBounds_toArray, List.set_cons_zero, List.set_cons_succ]
  refine wpM_take (i := 5) (oi := ⟨some 22, _, _, _, _, _⟩) (v := ?_) rfl (by decide +kernel) (by decide +kernel) (by decide +kernel) (fun _ _ _ h => h) (Or.inl ⟨by rfl, ?_⟩) ⟨c0, k0⟩ ?_
  case refine_2 => (intro w hSw; obtain ⟨s0, s1⟩ := hSw; go_simp; try (with_reducible rfl))
  try simp only [Act.put, List.setIfInBounds_toArray, List.set_cons_zero, List.set_cons_succ]
  refine wpM_step (i := 6) (o := ⟨some 23, _, _, _, _, _⟩) rfl (by decide +kernel) (by decide) (fun K hK => ?_)
  go_simp
  refine hK.out _ _ ⟨c0a, k0a⟩ ?_
  clear hK K
  try simp only [Act.put, List.setIfInBounds_toArray, List.set_cons_zero, List.set_cons_succ]
  refine wpM_done (by decide +kernel) ?_
  simp only [List.drop_succ_cons, List.drop_zero]
  go_wp2_with (at_mapUpdate; refine wpList_mput _ rfl _ _ _ 60 rfl Try.underlying3 Try.underlying60 rfl HMU.out (by unfold maxLen; omega) t ht rfl _ rfl ?_; intro w2 m2 gr2; have k1w := KEY.out w2 gr2)
  obtain ⟨hs2, hg2⟩ := SP.new hT' hne hBw hB2 HST.out HG.out m2 gr2
  have HSX := Lib.hid hs2
  have HGX := Lib.hid hg2
  clear hs2 hg2 m2 gr2
  obtain ⟨G, hGe⟩ : ∃ G, G = (fun T => if T = t then D1.heap.size else g T) := ⟨_, rfl⟩
  obtain ⟨W3, hW3⟩ : ∃ W3, W3 = w2 := ⟨_, rfl⟩
  rw [← hW3]
  rw [← hW3, ← hGe] at HSX
  rw [← hGe] at HGX
  clear hGe hW3 hl c0 k0 c0a k0a k1w KEY hT hT' HST HG HMT HMU
  all_goals
    have CC := Lib.hid (Clone_any A n c R W3 (HS.out.kc HSX.out.kc) hn)
    refine CC.out.mono ?_
    rintro e4 W4 ⟨A', c', rfl, ho, hb4⟩
    have HS4 := Lib.hid (ST.below HSX.out hBw hb4)
    have HO4 := Lib.hid ho
    have f1 : W4.frozen? ⟨w.heap.size, 1, none⟩ = false := by rw [← hbk]; exact Joins.unfrozen_of_block HS4.out.box 1
    have k4 : W4.cell? ⟨w.heap.size, 1, none⟩ = some (.slice A n c) := by rw [← hbk]; exact HS4.out.box.cell 1
    clear ho hb4 CC
    go_wp2_with fail
    have h5 := ST.set HS4.out hBw hbk (by omega) 1 (.slice A' n c')
    rw [show (⟨bk, 1, none⟩ : Addr) = ⟨w.heap.size, 1, none⟩ by rw [hbk]] at h5
    have HS5 := Lib.hid (show ST w (W4.setCell ⟨w.heap.size, 1, none⟩ (.slice A' n c')) B x bk bt bi #[.int .i64 t, .slice A' n c'] _ _ _ _ _ _ _ _ _ _ from h5)
    clear h5
    have HO5 := Lib.hid (HO4.out.kept (grown_set W4 w.heap.size 1 (.slice A' n c')) (.inr (own_blk_ne HO4.out (hbk ▸ HS4.out.box) (by decide))))
    obtain ⟨W5, hW5⟩ : ∃ W5, W5 = W4.setCell ⟨w.heap.size, 1, none⟩ (.slice A' n c') := ⟨_, rfl⟩
    rw [← hW5] at HS5 HO5 ⊢
    clear hW5 f1 k4 HS4 HO4
    refine region_tail 9 (by kernel_rfl) (by kernel_rfl) (fun D5 hD5 hs5 => ?_)
    simp only [List.take_succ_cons, List.take_zero, List.drop_succ_cons, List.drop_zero]
    have HS6 := Lib.hid (HS5.out.below hBw hD5)
    have HC5 := Lib.hid (KC.of_below hD5)
    have c0 : D5.cell? ⟨x, 0, none⟩ = some (.map (some bt)) := HS6.out.blk.cell 0
    have k0 : D5.cell? ⟨w.heap.size, 0, none⟩ = some (.int .i64 t) := by rw [← hbk]; exact HS6.out.box.cell 0
    have k1 : D5.cell? ⟨w.heap.size, 1, none⟩ = some (.slice A' n c') := by rw [← hbk]; exact HS6.out.box.cell 1
    obtain ⟨st5, hmt⟩ := HS6.out.mt
    have hl := hmt.look (t := 60) (e := 64) Try.underlying3 Try.underlying60 (zeroM D5) ht
    simp only [fup, if_true, Option.getD_some] at hl
    have HGT := Lib.hid (HGX.out t (.inr rfl))
    have HFN : Hid (fnd D id = none) := Lib.hid (by rw [hD, fnd_del, if_pos rfl])
    have HSN : Hid (spec D t id = none) := Lib.hid (by unfold spec; rw [HFN.out])
    clear hmt HS5 hD5 hs5
    repeat still_step
    refine wpStill_nil ?_
    go_wp2_with (at_mapUpdate; go_loud (refine wpList_mput _ rfl _ _ _ 64 rfl Try.underlying2 Try.underlying64 rfl (HS6.out.gs t (.inr rfl)) (by unfold maxLen; omega) id hid rfl _ rfl ?_; intro w6 m6 gr6))
    rw [HSN.out, Option.isSome_none, if_neg (by decide)] at m6
    have HS7 := Lib.hid (HS6.out.put_g hBw (t := t) (.inr rfl) HGT.out.1 HGT.out.2.1 HGT.out.2.2.1 HGT.out.2.2.2 m6 gr6)
    have HC6 := Lib.hid (HC5.out.trans (KC.of_map (HS6.out.gs t (.inr rfl)) gr6))
    clear m6 gr6 c0 k0 k1 hl HS6 HC5
    refine region_tail 7 (by kernel_rfl) (by kernel_rfl) (fun D7 hD7 hs7 => ?_)
    simp only [List.take_succ_cons, List.take_zero, List.drop_succ_cons, List.drop_zero]
    have HS8 := Lib.hid (HS7.out.below hBw hD7)
    have HC7 := Lib.hid (HC6.out.trans (KC.of_below hD7))
    have c1 : D7.cell? ⟨x, 1, none⟩ = some (.map (some bi)) := HS8.out.blk.cell 1
    have k0 : D7.cell? ⟨w.heap.size, 0, none⟩ = some (.int .i64 t) := by rw [← hbk]; exact HS8.out.box.cell 0
    clear hD7 hs7 HS7 HC6
    repeat still_step
    refine wpStill_nil ?_
    go_wp2_with (at_mapUpdate; go_loud (refine wpList_mput _ rfl _ _ _ 61 rfl Try.underlying2 Try.underlying61 rfl HS8.out.mi (by unfold maxLen; omega) id hid rfl _ rfl ?_; intro w8 m8 gr8))
    have hK8 := KC.of_map HS8.out.mi gr8
    have hK := HC7.out.trans hK8
    have hKw := HS8.out.kc.trans hK8
    rw [HFN.out, Option.map_none, Option.isSome_none, if_neg (by decide)] at m8
    have HF := Lib.hid (show IX w8 B x (M + 1) (putL L ⟨id, t, A', n, c', R⟩) from by
      unfold putL
      rw [← hD]
      obtain ⟨st9, hmt9⟩ := HS8.out.mt
      have hgt := HS8.out.gs t (.inr rfl)
      rw [if_pos rfl, if_pos rfl, if_pos rfl] at hgt
      refine IX.put (w := w) (it := ⟨id, t, A', n, c', R⟩) HIX1.out.asc HIX1.out.ok (fun y hy => ?_) hM (fun y hy => ?_) hid ht ⟨?_, ?_, hn⟩ (HS8.out.blk.kc hK8) hB1 hB2 hB3 hne m8 ⟨st9, hmt9.kept gr8 (fun e => hne (by injection e))⟩ (hgt.kept gr8 (fun e => HGT.out.2.2.1 (by injection e))) (fun T h1 h2 => ?_) HGX.out
      · rw [hD] at hy
        obtain ⟨s1, s2⟩ := HIX0.out.sds y (List.mem_filter.1 hy).1
        exact ⟨s1.kc hKw, s2⟩
      · rw [hD] at hy
        exact del_ne y hy
      · exact (Sds.own HO5.out).kc hK
      · obtain ⟨A9, c9, e9, -, h9, -⟩ := At.of_own HO5.out
        injection e9 with e1 e2 e3
        show n ≤ c'
        omega
      · have h3 := HS8.out.gs T (.inl h1)
        rw [if_neg h2, if_neg h2, if_neg h2] at h3
        exact h3.kept gr8 (fun e => (HGX.out T (.inl h1)).2.2.1 (by injection e)))
    have HKw := Lib.hid hKw
    have HBL := Lib.hid (fun w0 (h : Below B w0 w) => below_map (HS8.out.bl w0 h) gr8 (Nat.le_trans hBw (Nat.le_of_lt HS8.out.big)) hB3)
    clear m8 gr8 hK8 hK hKw c1 k0
    go_wp2
    go_end0
    exact ⟨rfl, ⟨_, _, HF.out⟩, HKw.out, HBL.out⟩
end Go.Proofs.Ytgenpldldgplhaa
