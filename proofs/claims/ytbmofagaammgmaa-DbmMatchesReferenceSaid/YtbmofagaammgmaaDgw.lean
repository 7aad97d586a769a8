/- The reference's Greatest. -/
import Derived.Test.YtbmofagaammgmaaDgr
namespace Go.Proofs.Ytbmofagaammgmaa
open Go.ChangeShapes Go.WideShapes Go.ChangeAt Go.RowKit Go.ChangeMaps

/-- Block g holds the values of f below N. -/
def Bk (w : World) (g : Nat) (T : TypeId) (f : Nat → Value) (N : Nat) : Prop := ∃ cs : Array Value, Blk w g T cs ∧ ∀ j, j < N → cs[j]? = some (f j)
section
variable {w w' : World} {g : Nat} {T : TypeId} {f : Nat → Value} {N : Nat}
theorem Bk.below (h : Bk w g T f N) (hb : Below w.heap.size w w') : Bk w' g T f N := let ⟨cs, h1, h2⟩ := h; ⟨cs, h1.below hb, h2⟩
theorem Bk.lt (h : Bk w g T f N) : g < w.heap.size := let ⟨_, h1, _⟩ := h; h1.lt
theorem Bk.cell (h : Bk w g T f N) {j : Nat} (hj : j < N) : w.cell? ⟨g, j, none⟩ = some (f j) := by
  obtain ⟨cs, h1, h2⟩ := h
  rw [h1.cell j, h2 j hj]
theorem Bk.free (h : Bk w g T f N) (j : Nat) : w.frozen? ⟨g, j, none⟩ = false := let ⟨_, h1, _⟩ := h; Joins.unfrozen_of_block h1 j
theorem Bk.set (h : Bk w g T f N) (i : Nat) (u : Value) : Bk (w.setCell ⟨g, i, none⟩ u) g T (fun v => if v = i then u else f v) N := by
  obtain ⟨cs, h1, h2⟩ := h
  refine ⟨_, Joins.block_setCell h1 _, fun j hj => ?_⟩
  dsimp only
  by_cases e : i = j
  · subst e
    rw [if_pos rfl, Array.getElem?_setIfInBounds_self_of_lt (Array.getElem?_eq_some_iff.1 (h2 i hj)).1]
  · rw [if_neg (Ne.symm e), Array.getElem?_setIfInBounds_ne e]
    exact h2 j hj
theorem Bk.other (h : Bk w g T f N) {k : Nat} (hk : g ≠ k) (j : Nat) (u : Value) : Bk (w.setCell ⟨k, j, none⟩ u) g T f N := by
  obtain ⟨cs, h1, h2⟩ := h
  exact ⟨cs, ((grown_set w k j u).block g h1.lt (fun e => by injection e with e; exact hk e)).trans h1, h2⟩
theorem Bk.ext (h : Bk w g T f N) {f' : Nat → Value} (hf : ∀ v, f' v = f v) : Bk w g T f' N := let ⟨cs, h1, h2⟩ := h; ⟨cs, h1, fun j hj => by rw [hf]; exact h2 j hj⟩
end
theorem make43 (n : Nat) (hn : n ≤ 1000000) (w : World) : (Instr.makeSlice 43 (.int .i64 (n : Int)) (.int .i64 (n : Int))).run Try.prog w = .ok (.slice (some ⟨w.heap.size, 0, none⟩) n n) (w.alloc (.cells (Array.replicate n (.bool false)) 4)) := by
  obtain ⟨i, hi, hz, hs, hb⟩ := info_parts Try.info4
  have := run_make (P := Try.prog) w 43 4 i _ Try.underlying43 hi hz .i64 .i64 (n : Int) (n : Int) (by omega) (Int.le_refl _) (by rw [hb]; omega) (by omega)
  rw [hs] at this
  rw [Int.toNat_natCast] at this
  have e : madeCells (Value.bool false).cells (n * 1) = Array.replicate n (.bool false) := by
    apply Array.ext
    · simp [madeCells]
    · intro j h1 h2
      simp [madeCells, Value.cells, Nat.mod_one]
  rw [this, e]
structure GK (W : World) (gk gd N : Nat) (F : Nat → Option Int) : Prop where
  kn : Bk W gk 4 (fun v => .bool (F v).isSome) N
  dd : Bk W gd 2 (fun v => .int .i64 ((F v).getD 0)) N
theorem GK.below {W W' : World} {gk gd N : Nat} {F : Nat → Option Int} (h : GK W gk gd N F) (hb : Below W.heap.size W W') : GK W' gk gd N F := ⟨h.kn.below hb, h.dd.below hb⟩
theorem GK.put {W : World} {gk gd N i : Nat} {F : Nat → Option Int} (h : Bk W gk 4 (fun v => if v = i then .bool true else .bool (F v).isSome) N) (h2 : Bk W gd 2 (fun v => .int .i64 ((F v).getD 0)) N) (hne : gk ≠ gd) (a : Int) : GK (W.setCell ⟨gd, i, none⟩ (.int .i64 a)) gk gd N (pt F i a) := by
  refine ⟨(h.other hne i _).ext (fun v => ?_), (h2.set i _).ext (fun v => ?_)⟩
  · unfold pt; split <;> rfl
  · unfold pt; split <;> rfl
def OB (F : Nat → Option Int) (t : Nat) : Prop := ∀ v a, F v = some a → -((t : Int) * 1125899906842624) ≤ a ∧ a ≤ (t : Int) * 1125899906842624
theorem OB.step {F : Nat → Option Int} {t : Nat} (h : OB F t) (b : Bd) (hc : -1125899906842624 ≤ b.c ∧ b.c ≤ 1125899906842624) : OB (rstp F b) (t + 1) := by
  have e : ((t + 1 : Nat) : Int) * 1125899906842624 = (t : Int) * 1125899906842624 + 1125899906842624 := by rw [Int.natCast_add, Int.add_mul]; omega
  have hF : OB F (t + 1) := fun v a ha => by have := h v a ha; omega
  have hp : ∀ x, F b.j = some x → OB (pt F b.i (x + b.c)) (t + 1) := fun x hx v a ha => by
    unfold pt at ha
    split at ha
    · injection ha with ha
      have := h _ _ hx
      omega
    · exact hF v a ha
  unfold rstp
  cases hj : F b.j with
  | none => exact hF
  | some x =>
    dsimp only
    cases F b.i with
    | none => exact hp x hj
    | some o => dsimp only; split; exact hp x hj; exact hF
theorem OB.mono {F : Nat → Option Int} {t t' : Nat} (h : OB F t) (ht : t ≤ t') : OB F t' := fun v a ha => by have := h v a ha; omega
theorem OB.start (j : Nat) : OB (pt (fun _ => none) j 0) 0 := fun v a ha => by
  unfold pt at ha
  split at ha
  · injection ha with ha; omega
  · cases ha
set_option maxRecDepth 100000 in
set_option maxHeartbeats 4000000 in
theorem Greatest_any (w : World) (n : Nat) (hn : n ≤ 10) (A : Option Addr) (m c0 : Nat) (R : List Rb) (h : Rbs w A m R) (hm : m ≤ 40) (hok : ∀ b ∈ R, okB n b = true) (c : Nat × Nat → Int) (P : List (Nat × Nat)) (hs : Sys (R.map toBd) c P) (hP : ∀ p ∈ P, p.1 < n + 1 ∧ p.2 < n + 1)
    (i j : Nat) (hi : i ≤ n) (hj : j ≤ n) (G : Nat → Option Int) (hG : IsB c P j G) (hsol : ∃ Y : Nat → Int, ∀ b ∈ R.map toBd, Y b.i - Y b.j ≤ b.c) :
    Calls Try.prog 17 #[.int .i64 (n : Int), .slice A m c0, .int .i64 (i : Int), .int .i64 (j : Int)] w fun e w' => e = .returned (bdA (G i)) ∧ Below w.heap.size w w' := by
  have HL := Lib.hid h.len
  have HA := Lib.hid h.at
  obtain ⟨B, hB⟩ : ∃ B, B = R.map toBd := ⟨_, rfl⟩
  have hBl : B.length = m := by rw [hB, List.length_map, h.len]
  have HBN := Lib.hid (show ∀ b ∈ B, b.i < n + 1 ∧ b.j < n + 1 ∧ -1125899906842624 ≤ b.c ∧ b.c ≤ 1125899906842624 from fun b hb => by
    rw [hB] at hb
    obtain ⟨x, hx, rfl⟩ := List.mem_map.1 hb
    have := hok x hx
    unfold okB at this
    obtain ⟨q1, q2, q3, q4⟩ := addE_ok (of_decide_eq_true this)
    unfold toBd
    dsimp only
    omega)
  have HIJ := Lib.hid (show ∀ x ∈ R, (0 ≤ x.i ∧ x.i ≤ (n : Int)) ∧ 0 ≤ x.j ∧ x.j ≤ (n : Int) from fun x hx => by
    have := hok x hx
    unfold okB at this
    obtain ⟨q1, q2, q3, q4⟩ := addE_ok (of_decide_eq_true this)
    exact ⟨q1, q2⟩)
  have HDONE := Lib.hid (show ∀ v, rsk B j (n + 2) v = G v from by
    rw [hB]
    exact rsk_done hs hP hG (isB_zero hs hG hsol) (by omega) (n + 2) (by omega))
  have HBE := Lib.hid hB
  clear h hok hs hP hG hsol hB
  have HGV := Lib.hid (HDONE.out i)
  obtain ⟨o, ho⟩ : ∃ o, G i = o := ⟨_, rfl⟩
  rw [ho] at HGV ⊢
  clear ho
  unfold bdA
  obtain ⟨o1, ho1⟩ : ∃ z, o.getD 0 = z := ⟨_, rfl⟩
  obtain ⟨o2, ho2⟩ : ∃ z, o.isSome = z := ⟨_, rfl⟩
  rw [ho1, ho2]
  have HO1 := Lib.hid ho1
  have HO2 := Lib.hid ho2
  clear ho1 ho2
  have hmk : ∀ w, (Instr.makeSlice 28 (.int .i64 ((n : Int) + 1)) (.int .i64 ((n : Int) + 1))).run Try.prog w = .ok (.slice (some ⟨w.heap.size, 0, none⟩) (n + 1) (n + 1)) (w.alloc (.cells (ics (List.replicate (n + 1) 0)) 2)) := make28 (n + 1) (by omega)
  have hmk2 : ∀ w, (Instr.makeSlice 43 (.int .i64 ((n : Int) + 1)) (.int .i64 ((n : Int) + 1))).run Try.prog w = .ok (.slice (some ⟨w.heap.size, 0, none⟩) (n + 1) (n + 1)) (w.alloc (.cells (Array.replicate (n + 1) (.bool false)) 4)) := make43 (n + 1) (by omega)
  have hw1 : IntKind.i64.wrap ((n : Int) + 1) = (n : Int) + 1 := IntWalk.i64_in _ (by omega)
  obtain ⟨gk, hgke⟩ : ∃ gk, gk = w.heap.size := ⟨_, rfl⟩
  obtain ⟨gd, hgde⟩ : ∃ gd, gd = gk + 1 := ⟨_, rfl⟩
  obtain ⟨W2, hW2⟩ : ∃ W2, W2 = (w.alloc (.cells (Array.replicate (n + 1) (.bool false)) 4)).alloc (.cells (ics (List.replicate (n + 1) 0)) 2) := ⟨_, rfl⟩
  have HBW := Lib.hid (show Below w.heap.size w W2 by rw [hW2]; exact ((Below.refl _ _).alloc (Nat.le_refl _) _).alloc (by simp) _)
  have HK2 := Lib.hid (show Bk W2 gk 4 (fun _ => .bool false) (n + 1) from ⟨_, by rw [hW2, hgke]; exact (Blk.new _ _ _).alloc _, fun v hv => by simp [hv]⟩)
  have HD2 := Lib.hid (show Bk W2 gd 2 (fun _ => .int .i64 0) (n + 1) from ⟨_, by rw [hW2]; exact Blk.new_ (by rw [hgde, hgke]; simp) rfl, fun v hv => by simp [ics, ic, hv]⟩)
  have hkd : gk ≠ gd := by omega
  have hgk : w.heap.size ≤ gk := by omega
  have hgd : w.heap.size ≤ gd := by omega
  have hji : (j : Int) < (n : Int) + 1 := by omega
  have hj0 : (0 : Int) ≤ (j : Int) := by omega
  go_enter Try.func17, Try.ntmps17
  go_upto_region 3 with fail
  rw [← hgke, ← hgde, ← hW2]
  have HGKE := Lib.hid hgke
  clear hW2 hgke hgde hmk hmk2
  have nj : W2.cell? ⟨gk, j, none⟩ = some (.bool false) := HK2.out.cell (by omega)
  have fj := HK2.out.free j
  have HG3 := Lib.hid (show GK (W2.setCell ⟨gk, j, none⟩ (.bool true)) gk gd (n + 1) (pt (fun _ => none) j 0) from ⟨(HK2.out.set j _).ext (fun v => by unfold pt; split <;> rfl), (HD2.out.other (Ne.symm hkd) j _).ext (fun v => by unfold pt; split <;> rfl)⟩)
  have HB3 := Lib.hid (HBW.out.setCell (p := ⟨gk, j, none⟩) hgk (.bool true))
  go_wp2
  clear nj fj HK2 HD2 HBW
  go_loopw [12] (fun s12 wr => ∃ r : Nat, s12 = .int .i64 (r : Int) ∧ r ≤ n + 2 ∧ GK wr gk gd (n + 1) (rsk B j r) ∧ OB (rsk B j r) (r * m) ∧ Below w.heap.size w wr) (fun s12 _ => n + 2 - (intOf s12).toNat)
  case atStart => exact ⟨0, rfl, Nat.zero_le _, HG3.out, by rw [Nat.zero_mul]; exact OB.start j, HB3.out⟩
  case round =>
    obtain ⟨r, rfl, hrn, hG, hO, hB⟩ := hrel
    have HG := Lib.hid hG
    have HO := Lib.hid hO
    have HB := Lib.hid hB
    clear hG hO hB HG3 HB3
    generalize wr = W at *
    by_cases hr : r ≤ n + 1
    · have hri : (r : Int) ≤ (n : Int) + 1 := by omega
      have hrm : r * m + m ≤ 480 := by
        have h1 := Nat.mul_le_mul (show r + 1 ≤ 12 by omega) hm
        rw [Nat.succ_mul] at h1
        omega
      go_wp2
      go_loopw [13] (fun s13 wr => ∃ (q : Nat) (F : Nat → Option Int), s13 = .int .i64 (q : Int) ∧ q ≤ m ∧ (B.take q).foldl rstp (rsk B j r) = F ∧ GK wr gk gd (n + 1) F ∧ OB F (r * m + q) ∧ Below w.heap.size w wr) (fun s13 _ => m - (intOf s13).toNat)
      case atStart => exact ⟨0, _, rfl, Nat.zero_le _, rfl, HG.out, HO.out, HB.out⟩
      case round =>
        obtain ⟨q, F, rfl, hqm, hF, hG, hO, hB⟩ := hrel
        have HF := Lib.hid hF
        have HG4 := Lib.hid hG
        have HO4 := Lib.hid hO
        have HB4 := Lib.hid hB
        clear hF hG hO hB HG HO HB
        generalize wr = W4 at *
        by_cases hlq : q < m
        · have hqi : (q : Int) < (m : Int) := by omega
          have hq0 : (0 : Int) ≤ (q : Int) := by omega
          have hqR : q < R.length := by rw [HL.out]; exact hlq
          have hqB : q < B.length := by omega
          obtain ⟨bA, off, rfl, hbl, hc⟩ := HA.out (by omega)
          obtain ⟨r0, r1, r2⟩ := hc W4 HB4.out q hqR
          have hij := HIJ.out _ (List.getElem_mem hqR)
          have hBq : B[q] = toBd R[q] := by
            have e := HBE.out
            subst e
            rw [List.getElem_map]
          have HFS := Lib.hid (show (B.take (q + 1)).foldl rstp (rsk B j r) = rstp F B[q] by
            rw [List.take_succ_eq_append_getElem hqB, List.foldl_append, HF.out]
            rfl)
          have HBQ := Lib.hid (HBN.out _ (List.getElem_mem hqB))
          rw [hBq] at HFS HBQ
          clear hc hbl hBq
          generalize R[q] = x0 at *
          obtain ⟨xi0, xj0, cc⟩ := x0
          dsimp only at hij r0 r1 r2
          obtain ⟨a, rfl⟩ : ∃ a : Nat, xi0 = (a : Int) := ⟨xi0.toNat, by omega⟩
          obtain ⟨b, rfl⟩ : ∃ b : Nat, xj0 = (b : Int) := ⟨xj0.toNat, by omega⟩
          have e0 : toBd ⟨(a : Int), (b : Int), cc⟩ = ⟨a, b, cc⟩ := by unfold toBd; simp
          rw [e0] at HFS HBQ
          have hbq := HBQ.out
          dsimp only at hbq
          have HOS := Lib.hid (HO4.out.step ⟨a, b, cc⟩ hbq.2.2)
          have HRS := Lib.hid (show rstp F ⟨a, b, cc⟩ = (match F b with | none => F | some x => match F a with | none => pt F a (x + cc) | some o => if o > x + cc then pt F a (x + cc) else F) from rfl)
          have hai : (a : Int) < (n : Int) + 1 := by omega
          have hbi : (b : Int) < (n : Int) + 1 := by omega
          have ha0 : (0 : Int) ≤ (a : Int) := by omega
          have hb0' : (0 : Int) ≤ (b : Int) := by omega
          have han : a < n + 1 := hbq.1
          have hbn : b < n + 1 := hbq.2.1
          obtain ⟨kb, hkb⟩ : ∃ kb, kb = W4.heap.size := ⟨_, rfl⟩
          have hbk : kb ≠ gk := by have := HG4.out.kn.lt; omega
          obtain ⟨W5, hW5⟩ : ∃ W5, W5 = W4.alloc (.cells #[.int .i64 (a : Int), .int .i64 (b : Int), .int .i64 cc] 41) := ⟨_, rfl⟩
          have hb5 : Below W4.heap.size W4 W5 := by rw [hW5]; exact (Below.refl _ _).alloc (Nat.le_refl _) _
          have HG5 := Lib.hid (HG4.out.below hb5)
          have HB5 := Lib.hid (HB4.out.trans (hb5.mono HB4.out.size))
          have KB5 := Lib.hid (show Blk W5 kb 41 #[.int .i64 (a : Int), .int .i64 (b : Int), .int .i64 cc] by rw [hW5]; exact Blk.new_ hkb rfl)
          have HCB := Lib.hid hbq.2.2
          clear hb5 HG4 HB4 hbq hij e0
          go_upto_region 11 with fail
          rw [← hkb, ← hW5]
          clear hW5 hkb r0 r1 r2
          have k0 : W5.cell? ⟨kb, 0, none⟩ = some (.int .i64 (a : Int)) := KB5.out.cell 0
          have k1 : W5.cell? ⟨kb, 1, none⟩ = some (.int .i64 (b : Int)) := KB5.out.cell 1
          have k2 : W5.cell? ⟨kb, 2, none⟩ = some (.int .i64 cc) := KB5.out.cell 2
          have na : W5.cell? ⟨gk, a, none⟩ = some (.bool (F a).isSome) := HG5.out.kn.cell han
          have nb : W5.cell? ⟨gk, b, none⟩ = some (.bool (F b).isSome) := HG5.out.kn.cell hbn
          have da : W5.cell? ⟨gd, a, none⟩ = some (.int .i64 ((F a).getD 0)) := HG5.out.dd.cell han
          have db : W5.cell? ⟨gd, b, none⟩ = some (.int .i64 ((F b).getD 0)) := HG5.out.dd.cell hbn
          cases hFb : F b with
          | none =>
            have HFN := Lib.hid (show (B.take (q + 1)).foldl rstp (rsk B j r) = F by rw [HFS.out, HRS.out, hFb])
            rw [hFb] at nb db
            dsimp only [Option.isSome_none, Option.getD_none] at nb db
            obtain ⟨fa1, hfa1⟩ : ∃ z, (F a).isSome = z := ⟨_, rfl⟩
            obtain ⟨fa2, hfa2⟩ : ∃ z, (F a).getD 0 = z := ⟨_, rfl⟩
            rw [hfa1] at na
            rw [hfa2] at da
            clear hfa1 hfa2 hFb
            go_upto_region 11 with fail
            have hb0 : Below W5.heap.size W5 W5.drew := below_drew (Below.refl _ _)
            refine wp_region_mixE (fun w' => Below W5.heap.size W5 w') (by kernel_rfl) ?_
            have HG6 := Lib.hid (HG5.out.below hb0)
            have HB6 := Lib.hid (HB5.out.trans (hb0.mono HB5.out.size))
            have KB6 := Lib.hid (KB5.out.below hb0)
            generalize W5.drew = W6 at hb0 HG6 HB6 KB6 ⊢
            refine wpE_take (i := 0) (oi := ⟨some 40, _, _, _, _, _⟩) (v := ?_) rfl (by decide +kernel) (by decide +kernel) (by decide +kernel) (fun _ _ _ h => h) (Or.inl ⟨by rfl, ?_⟩) hb0 ?_
            case refine_2 =>
              intro w' hSw
              have k0' := keepcell hSw k0
              have k1' := keepcell hSw k1
              have k2' := keepcell hSw k2
              have na' := keepcell hSw na
              have nb' := keepcell hSw nb
              have da' := keepcell hSw da
              have db' := keepcell hSw db
              go_simp
              try (with_reducible rfl)
            try simp only [Act.put, List.setIfInBounds_toArray, List.set_cons_zero, List.set_cons_succ]
            refine wpE_take (i := 1) (oi := ⟨some 41, _, _, _, _, _⟩) (v := ?_) rfl (by decide +kernel) (by decide +kernel) (by decide +kernel) (fun _ _ _ h => h) (Or.inl ⟨by rfl, ?_⟩) hb0 ?_
            case refine_2 =>
              intro w' hSw
              have k0' := keepcell hSw k0
              have k1' := keepcell hSw k1
              have k2' := keepcell hSw k2
              have na' := keepcell hSw na
              have nb' := keepcell hSw nb
              have da' := keepcell hSw da
              have db' := keepcell hSw db
              go_simp
              try (with_reducible rfl)
            try simp only [Act.put, List.setIfInBounds_toArray, List.set_cons_zero, List.set_cons_succ]
            refine wpE_take (i := 2) (oi := ⟨some 42, _, _, _, _, _⟩) (v := ?_) rfl (by decide +kernel) (by decide +kernel) (by decide +kernel) (fun _ _ _ h => h) (Or.inl ⟨by rfl, ?_⟩) hb0 ?_
            case refine_2 =>
              intro w' hSw
              have k0' := keepcell hSw k0
              have k1' := keepcell hSw k1
              have k2' := keepcell hSw k2
              have na' := keepcell hSw na
              have nb' := keepcell hSw nb
              have da' := keepcell hSw da
              have db' := keepcell hSw db
              go_simp
              try (with_reducible rfl)
            try simp only [Act.put, List.setIfInBounds_toArray, List.set_cons_zero, List.set_cons_succ]
            refine wpE_take (i := 3) (oi := ⟨some 43, _, _, _, _, _⟩) (v := ?_) rfl (by decide +kernel) (by decide +kernel) (by decide +kernel) (fun _ _ _ h => h) (Or.inl ⟨by rfl, ?_⟩) hb0 ?_
            case refine_2 =>
              intro w' hSw
              have k0' := keepcell hSw k0
              have k1' := keepcell hSw k1
              have k2' := keepcell hSw k2
              have na' := keepcell hSw na
              have nb' := keepcell hSw nb
              have da' := keepcell hSw da
              have db' := keepcell hSw db
              go_simp
              try (with_reducible rfl)
            try simp only [Act.put, List.setIfInBounds_toArray, List.set_cons_zero, List.set_cons_succ]
            refine wpE_take (i := 4) (oi := ⟨some 44, _, _, _, _, _⟩) (v := ?_) rfl (by decide +kernel) (by decide +kernel) (by decide +kernel) (fun _ _ _ h => h) (Or.inl ⟨by rfl, ?_⟩) hb0 ?_
            case refine_2 =>
              intro w' hSw
              have k0' := keepcell hSw k0
              have k1' := keepcell hSw k1
              have k2' := keepcell hSw k2
              have na' := keepcell hSw na
              have nb' := keepcell hSw nb
              have da' := keepcell hSw da
              have db' := keepcell hSw db
              go_simp
              try (with_reducible rfl)
            try simp only [Act.put, List.setIfInBounds_toArray, List.set_cons_zero, List.set_cons_succ]
            refine wpE_take (i := 5) (oi := ⟨some 45, _, _, _, _, _⟩) (v := .bool false) rfl (by decide +kernel) (by decide +kernel) (by decide +kernel) (fun _ _ _ h => h) (Or.inl ⟨by rfl, ?_⟩) hb0 ?_
            case refine_1 =>
              intro w' hSw
              go_simp
              try (with_reducible rfl)
            try simp only [Act.put, List.setIfInBounds_toArray, List.set_cons_zero, List.set_cons_succ]
            refine wpE_take (i := 6) (oi := ⟨some 46, _, _, _, _, _⟩) (v := undef) rfl (by decide +kernel) (by decide +kernel) (by decide +kernel) (fun _ _ _ h => h) (Or.inr ⟨by rfl, rfl⟩) hb0 ?_
            try simp only [Act.put, List.setIfInBounds_toArray, List.set_cons_zero, List.set_cons_succ]
            refine wpE_take (i := 7) (oi := ⟨some 47, _, _, _, _, _⟩) (v := undef) rfl (by decide +kernel) (by decide +kernel) (by decide +kernel) (fun _ _ _ h => h) (Or.inr ⟨by rfl, rfl⟩) hb0 ?_
            try simp only [Act.put, List.setIfInBounds_toArray, List.set_cons_zero, List.set_cons_succ]
            refine wpE_take (i := 8) (oi := ⟨some 48, _, _, _, _, _⟩) (v := undef) rfl (by decide +kernel) (by decide +kernel) (by decide +kernel) (fun _ _ _ h => h) (Or.inr ⟨by rfl, rfl⟩) hb0 ?_
            try simp only [Act.put, List.setIfInBounds_toArray, List.set_cons_zero, List.set_cons_succ]
            refine wpE_take (i := 9) (oi := ⟨some 49, _, _, _, _, _⟩) (v := undef) rfl (by decide +kernel) (by decide +kernel) (by decide +kernel) (fun _ _ _ h => h) (Or.inr ⟨by rfl, rfl⟩) hb0 ?_
            try simp only [Act.put, List.setIfInBounds_toArray, List.set_cons_zero, List.set_cons_succ]
            refine wpE_take (i := 10) (oi := ⟨some 50, _, _, _, _, _⟩) (v := undef) rfl (by decide +kernel) (by decide +kernel) (by decide +kernel) (fun _ _ _ h => h) (Or.inr ⟨by rfl, rfl⟩) hb0 ?_
            try simp only [Act.put, List.setIfInBounds_toArray, List.set_cons_zero, List.set_cons_succ]
            refine wpE_take (i := 11) (oi := ⟨some 51, _, _, _, _, _⟩) (v := undef) rfl (by decide +kernel) (by decide +kernel) (by decide +kernel) (fun _ _ _ h => h) (Or.inr ⟨by rfl, rfl⟩) hb0 ?_
            try simp only [Act.put, List.setIfInBounds_toArray, List.set_cons_zero, List.set_cons_succ]
            refine wpE_take (i := 12) (oi := ⟨some 52, _, _, _, _, _⟩) (v := undef) rfl (by decide +kernel) (by decide +kernel) (by decide +kernel) (fun _ _ _ h => h) (Or.inr ⟨by rfl, rfl⟩) hb0 ?_
            try simp only [Act.put, List.setIfInBounds_toArray, List.set_cons_zero, List.set_cons_succ]
            refine wpE_take (i := 13) (oi := ⟨some 53, _, _, _, _, _⟩) (v := undef) rfl (by decide +kernel) (by decide +kernel) (by decide +kernel) (fun _ _ _ h => h) (Or.inr ⟨by rfl, rfl⟩) hb0 ?_
            try simp only [Act.put, List.setIfInBounds_toArray, List.set_cons_zero, List.set_cons_succ]
            refine wpE_take (i := 14) (oi := ⟨some 54, _, _, _, _, _⟩) (v := undef) rfl (by decide +kernel) (by decide +kernel) (by decide +kernel) (fun _ _ _ h => h) (Or.inr ⟨by rfl, rfl⟩) hb0 ?_
            try simp only [Act.put, List.setIfInBounds_toArray, List.set_cons_zero, List.set_cons_succ]
            refine wpE_take (i := 15) (oi := ⟨some 55, _, _, _, _, _⟩) (v := undef) rfl (by decide +kernel) (by decide +kernel) (by decide +kernel) (fun _ _ _ h => h) (Or.inr ⟨by rfl, rfl⟩) hb0 ?_
            try simp only [Act.put, List.setIfInBounds_toArray, List.set_cons_zero, List.set_cons_succ]
            refine wpE_take (i := 16) (oi := ⟨some 56, _, _, _, _, _⟩) (v := undef) rfl (by decide +kernel) (by decide +kernel) (by decide +kernel) (fun _ _ _ h => h) (Or.inr ⟨by rfl, rfl⟩) hb0 ?_
            try simp only [Act.put, List.setIfInBounds_toArray, List.set_cons_zero, List.set_cons_succ]
            refine wpE_take (i := 17) (oi := ⟨some 57, _, _, _, _, _⟩) (v := undef) rfl (by decide +kernel) (by decide +kernel) (by decide +kernel) (fun _ _ _ h => h) (Or.inr ⟨by rfl, rfl⟩) hb0 ?_
            try simp only [Act.put, List.setIfInBounds_toArray, List.set_cons_zero, List.set_cons_succ]
            refine wpE_take (i := 18) (oi := ⟨some 58, _, _, _, _, _⟩) (v := undef) rfl (by decide +kernel) (by decide +kernel) (by decide +kernel) (fun _ _ _ h => h) (Or.inr ⟨by rfl, rfl⟩) hb0 ?_
            try simp only [Act.put, List.setIfInBounds_toArray, List.set_cons_zero, List.set_cons_succ]
            refine wpE_take (i := 19) (oi := ⟨some 59, _, _, _, _, _⟩) (v := undef) rfl (by decide +kernel) (by decide +kernel) (by decide +kernel) (fun _ _ _ h => h) (Or.inr ⟨by rfl, rfl⟩) hb0 ?_
            try simp only [Act.put, List.setIfInBounds_toArray, List.set_cons_zero, List.set_cons_succ]
            refine wpE_take (i := 20) (oi := ⟨some 60, _, _, _, _, _⟩) (v := undef) rfl (by decide +kernel) (by decide +kernel) (by decide +kernel) (fun _ _ _ h => h) (Or.inr ⟨by rfl, rfl⟩) hb0 ?_
            try simp only [Act.put, List.setIfInBounds_toArray, List.set_cons_zero, List.set_cons_succ]
            refine wpE_take (i := 21) (oi := ⟨some 61, _, _, _, _, _⟩) (v := undef) rfl (by decide +kernel) (by decide +kernel) (by decide +kernel) (fun _ _ _ h => h) (Or.inr ⟨by rfl, rfl⟩) hb0 ?_
            try simp only [Act.put, List.setIfInBounds_toArray, List.set_cons_zero, List.set_cons_succ]
            refine wpE_take (i := 22) (oi := ⟨some 62, _, _, _, _, _⟩) (v := undef) rfl (by decide +kernel) (by decide +kernel) (by decide +kernel) (fun _ _ _ h => h) (Or.inr ⟨by rfl, rfl⟩) hb0 ?_
            try simp only [Act.put, List.setIfInBounds_toArray, List.set_cons_zero, List.set_cons_succ]
            refine wpE_take (i := 23) (oi := ⟨some 63, _, _, _, _, _⟩) (v := undef) rfl (by decide +kernel) (by decide +kernel) (by decide +kernel) (fun _ _ _ h => h) (Or.inr ⟨by rfl, rfl⟩) hb0 ?_
            try simp only [Act.put, List.setIfInBounds_toArray, List.set_cons_zero, List.set_cons_succ]
            refine wpE_take (i := 24) (oi := ⟨some 64, _, _, _, _, _⟩) (v := undef) rfl (by decide +kernel) (by decide +kernel) (by decide +kernel) (fun _ _ _ h => h) (Or.inr ⟨by rfl, rfl⟩) hb0 ?_
            try simp only [Act.put, List.setIfInBounds_toArray, List.set_cons_zero, List.set_cons_succ]
            refine wpE_take (i := 25) (oi := ⟨some 65, _, _, _, _, _⟩) (v := undef) rfl (by decide +kernel) (by decide +kernel) (by decide +kernel) (fun _ _ _ h => h) (Or.inr ⟨by rfl, rfl⟩) hb0 ?_
            try simp only [Act.put, List.setIfInBounds_toArray, List.set_cons_zero, List.set_cons_succ]
            refine wpE_take (i := 26) (oi := ⟨some 66, _, _, _, _, _⟩) (v := undef) rfl (by decide +kernel) (by decide +kernel) (by decide +kernel) (fun _ _ _ h => h) (Or.inr ⟨by rfl, rfl⟩) hb0 ?_
            try simp only [Act.put, List.setIfInBounds_toArray, List.set_cons_zero, List.set_cons_succ]
            refine wpE_take (i := 27) (oi := ⟨some 67, _, _, _, _, _⟩) (v := undef) rfl (by decide +kernel) (by decide +kernel) (by decide +kernel) (fun _ _ _ h => h) (Or.inr ⟨by rfl, rfl⟩) hb0 ?_
            try simp only [Act.put, List.setIfInBounds_toArray, List.set_cons_zero, List.set_cons_succ]
            refine wpE_take (i := 28) (oi := ⟨some 68, _, _, _, _, _⟩) (v := .bool false) rfl (by decide +kernel) (by decide +kernel) (by decide +kernel) (fun _ _ _ h => h) (Or.inl ⟨by rfl, ?_⟩) hb0 ?_
            case refine_1 =>
              intro w' hSw
              go_simp
              try (with_reducible rfl)
            try simp only [Act.put, List.setIfInBounds_toArray, List.set_cons_zero, List.set_cons_succ]
            refine wpE_done (by decide +kernel) ?_
            clear k0 k1 k2 na nb da db hb0 HG5 HB5 KB5
            go_wp2
            go_roundw
            case rel => exact ⟨q + 1, F, by go_num, hlq, HFN.out, HG6.out, HO4.out.mono (by omega), HB6.out⟩
            case measure => simp [intOf]; omega
          | some x =>
            have HFB := Lib.hid hFb
            rw [hFb] at nb db
            dsimp only [Option.isSome_some, Option.getD_some] at nb db
            have hxb := HO4.out _ _ hFb
            have hcb := HCB.out
            have hwr : IntKind.i64.wrap (x + cc) = x + cc := IntWalk.i64_in _ (by omega)
            clear hxb hcb
            cases hFa : F a with
            | none =>
              have HFN := Lib.hid (show (B.take (q + 1)).foldl rstp (rsk B j r) = pt F a (x + cc) by rw [HFS.out, HRS.out, hFb, hFa])
              have HOB := Lib.hid (show OB (pt F a (x + cc)) (r * m + (q + 1)) by have := HOS.out; rw [HRS.out, hFb, hFa] at this; exact this)
              rw [hFa] at na da
              dsimp only [Option.isSome_none, Option.getD_none] at na da
              clear hFa hFb
              go_upto_region 11 with fail
              have hb0 : Below W5.heap.size W5 W5.drew := below_drew (Below.refl _ _)
              refine wp_region_mixE (fun w' => Below W5.heap.size W5 w') (by kernel_rfl) ?_
              have HG6 := Lib.hid (HG5.out.below hb0)
              have HB6 := Lib.hid (HB5.out.trans (hb0.mono HB5.out.size))
              have KB6 := Lib.hid (KB5.out.below hb0)
              generalize W5.drew = W6 at hb0 HG6 HB6 KB6 ⊢
              refine wpE_take (i := 0) (oi := ⟨some 40, _, _, _, _, _⟩) (v := ?_) rfl (by decide +kernel) (by decide +kernel) (by decide +kernel) (fun _ _ _ h => h) (Or.inl ⟨by rfl, ?_⟩) hb0 ?_
              case refine_2 =>
                intro w' hSw
                have k0' := keepcell hSw k0
                have k1' := keepcell hSw k1
                have k2' := keepcell hSw k2
                have na' := keepcell hSw na
                have nb' := keepcell hSw nb
                have da' := keepcell hSw da
                have db' := keepcell hSw db
                go_simp
                try (with_reducible rfl)
              try simp only [Act.put, List.setIfInBounds_toArray, List.set_cons_zero, List.set_cons_succ]
              refine wpE_take (i := 1) (oi := ⟨some 41, _, _, _, _, _⟩) (v := ?_) rfl (by decide +kernel) (by decide +kernel) (by decide +kernel) (fun _ _ _ h => h) (Or.inl ⟨by rfl, ?_⟩) hb0 ?_
              case refine_2 =>
                intro w' hSw
                have k0' := keepcell hSw k0
                have k1' := keepcell hSw k1
                have k2' := keepcell hSw k2
                have na' := keepcell hSw na
                have nb' := keepcell hSw nb
                have da' := keepcell hSw da
                have db' := keepcell hSw db
                go_simp
                try (with_reducible rfl)
              try simp only [Act.put, List.setIfInBounds_toArray, List.set_cons_zero, List.set_cons_succ]
              refine wpE_take (i := 2) (oi := ⟨some 42, _, _, _, _, _⟩) (v := ?_) rfl (by decide +kernel) (by decide +kernel) (by decide +kernel) (fun _ _ _ h => h) (Or.inl ⟨by rfl, ?_⟩) hb0 ?_
              case refine_2 =>
                intro w' hSw
                have k0' := keepcell hSw k0
                have k1' := keepcell hSw k1
                have k2' := keepcell hSw k2
                have na' := keepcell hSw na
                have nb' := keepcell hSw nb
                have da' := keepcell hSw da
                have db' := keepcell hSw db
                go_simp
                try (with_reducible rfl)
              try simp only [Act.put, List.setIfInBounds_toArray, List.set_cons_zero, List.set_cons_succ]
              refine wpE_take (i := 3) (oi := ⟨some 43, _, _, _, _, _⟩) (v := ?_) rfl (by decide +kernel) (by decide +kernel) (by decide +kernel) (fun _ _ _ h => h) (Or.inl ⟨by rfl, ?_⟩) hb0 ?_
              case refine_2 =>
                intro w' hSw
                have k0' := keepcell hSw k0
                have k1' := keepcell hSw k1
                have k2' := keepcell hSw k2
                have na' := keepcell hSw na
                have nb' := keepcell hSw nb
                have da' := keepcell hSw da
                have db' := keepcell hSw db
                go_simp
                try (with_reducible rfl)
              try simp only [Act.put, List.setIfInBounds_toArray, List.set_cons_zero, List.set_cons_succ]
              refine wpE_take (i := 4) (oi := ⟨some 44, _, _, _, _, _⟩) (v := ?_) rfl (by decide +kernel) (by decide +kernel) (by decide +kernel) (fun _ _ _ h => h) (Or.inl ⟨by rfl, ?_⟩) hb0 ?_
              case refine_2 =>
                intro w' hSw
                have k0' := keepcell hSw k0
                have k1' := keepcell hSw k1
                have k2' := keepcell hSw k2
                have na' := keepcell hSw na
                have nb' := keepcell hSw nb
                have da' := keepcell hSw da
                have db' := keepcell hSw db
                go_simp
                try (with_reducible rfl)
              try simp only [Act.put, List.setIfInBounds_toArray, List.set_cons_zero, List.set_cons_succ]
              refine wpE_take (i := 5) (oi := ⟨some 45, _, _, _, _, _⟩) (v := .bool true) rfl (by decide +kernel) (by decide +kernel) (by decide +kernel) (fun _ _ _ h => h) (Or.inl ⟨by rfl, ?_⟩) hb0 ?_
              case refine_1 =>
                intro w' hSw
                go_simp
                try (with_reducible rfl)
              try simp only [Act.put, List.setIfInBounds_toArray, List.set_cons_zero, List.set_cons_succ]
              refine wpE_take (i := 6) (oi := ⟨some 46, _, _, _, _, _⟩) (v := ?_) rfl (by decide +kernel) (by decide +kernel) (by decide +kernel) (fun _ _ _ h => h) (Or.inl ⟨by rfl, ?_⟩) hb0 ?_
              case refine_2 =>
                intro w' hSw
                have k0' := keepcell hSw k0
                have k1' := keepcell hSw k1
                have k2' := keepcell hSw k2
                have na' := keepcell hSw na
                have nb' := keepcell hSw nb
                have da' := keepcell hSw da
                have db' := keepcell hSw db
                go_simp
                try (with_reducible rfl)
              try simp only [Act.put, List.setIfInBounds_toArray, List.set_cons_zero, List.set_cons_succ]
              refine wpE_take (i := 7) (oi := ⟨some 47, _, _, _, _, _⟩) (v := ?_) rfl (by decide +kernel) (by decide +kernel) (by decide +kernel) (fun _ _ _ h => h) (Or.inl ⟨by rfl, ?_⟩) hb0 ?_
              case refine_2 =>
                intro w' hSw
                have k0' := keepcell hSw k0
                have k1' := keepcell hSw k1
                have k2' := keepcell hSw k2
                have na' := keepcell hSw na
                have nb' := keepcell hSw nb
                have da' := keepcell hSw da
                have db' := keepcell hSw db
                go_simp
                try (with_reducible rfl)
              try simp only [Act.put, List.setIfInBounds_toArray, List.set_cons_zero, List.set_cons_succ]
              refine wpE_take (i := 8) (oi := ⟨some 48, _, _, _, _, _⟩) (v := ?_) rfl (by decide +kernel) (by decide +kernel) (by decide +kernel) (fun _ _ _ h => h) (Or.inl ⟨by rfl, ?_⟩) hb0 ?_
              case refine_2 =>
                intro w' hSw
                have k0' := keepcell hSw k0
                have k1' := keepcell hSw k1
                have k2' := keepcell hSw k2
                have na' := keepcell hSw na
                have nb' := keepcell hSw nb
                have da' := keepcell hSw da
                have db' := keepcell hSw db
                go_simp
                try (with_reducible rfl)
              try simp only [Act.put, List.setIfInBounds_toArray, List.set_cons_zero, List.set_cons_succ]
              refine wpE_take (i := 9) (oi := ⟨some 49, _, _, _, _, _⟩) (v := ?_) rfl (by decide +kernel) (by decide +kernel) (by decide +kernel) (fun _ _ _ h => h) (Or.inl ⟨by rfl, ?_⟩) hb0 ?_
              case refine_2 =>
                intro w' hSw
                have k0' := keepcell hSw k0
                have k1' := keepcell hSw k1
                have k2' := keepcell hSw k2
                have na' := keepcell hSw na
                have nb' := keepcell hSw nb
                have da' := keepcell hSw da
                have db' := keepcell hSw db
                go_simp
                try (with_reducible rfl)
              try simp only [Act.put, List.setIfInBounds_toArray, List.set_cons_zero, List.set_cons_succ]
              refine wpE_take (i := 10) (oi := ⟨some 50, _, _, _, _, _⟩) (v := ?_) rfl (by decide +kernel) (by decide +kernel) (by decide +kernel) (fun _ _ _ h => h) (Or.inl ⟨by rfl, ?_⟩) hb0 ?_
              case refine_2 =>
                intro w' hSw
                have k0' := keepcell hSw k0
                have k1' := keepcell hSw k1
                have k2' := keepcell hSw k2
                have na' := keepcell hSw na
                have nb' := keepcell hSw nb
                have da' := keepcell hSw da
                have db' := keepcell hSw db
                go_simp
                try (with_reducible rfl)
              try simp only [Act.put, List.setIfInBounds_toArray, List.set_cons_zero, List.set_cons_succ]
              refine wpE_take (i := 11) (oi := ⟨some 51, _, _, _, _, _⟩) (v := ?_) rfl (by decide +kernel) (by decide +kernel) (by decide +kernel) (fun _ _ _ h => h) (Or.inl ⟨by rfl, ?_⟩) hb0 ?_
              case refine_2 =>
                intro w' hSw
                have k0' := keepcell hSw k0
                have k1' := keepcell hSw k1
                have k2' := keepcell hSw k2
                have na' := keepcell hSw na
                have nb' := keepcell hSw nb
                have da' := keepcell hSw da
                have db' := keepcell hSw db
                go_simp
                try (with_reducible rfl)
              try simp only [Act.put, List.setIfInBounds_toArray, List.set_cons_zero, List.set_cons_succ]
              refine wpE_take (i := 12) (oi := ⟨some 52, _, _, _, _, _⟩) (v := .bool true) rfl (by decide +kernel) (by decide +kernel) (by decide +kernel) (fun _ _ _ h => h) (Or.inl ⟨by rfl, ?_⟩) hb0 ?_
              case refine_1 =>
                intro w' hSw
                go_simp
                try (with_reducible rfl)
              try simp only [Act.put, List.setIfInBounds_toArray, List.set_cons_zero, List.set_cons_succ]
              refine wpE_take (i := 13) (oi := ⟨some 53, _, _, _, _, _⟩) (v := undef) rfl (by decide +kernel) (by decide +kernel) (by decide +kernel) (fun _ _ _ h => h) (Or.inr ⟨by rfl, rfl⟩) hb0 ?_
              try simp only [Act.put, List.setIfInBounds_toArray, List.set_cons_zero, List.set_cons_succ]
              refine wpE_take (i := 14) (oi := ⟨some 54, _, _, _, _, _⟩) (v := undef) rfl (by decide +kernel) (by decide +kernel) (by decide +kernel) (fun _ _ _ h => h) (Or.inr ⟨by rfl, rfl⟩) hb0 ?_
              try simp only [Act.put, List.setIfInBounds_toArray, List.set_cons_zero, List.set_cons_succ]
              refine wpE_take (i := 15) (oi := ⟨some 55, _, _, _, _, _⟩) (v := undef) rfl (by decide +kernel) (by decide +kernel) (by decide +kernel) (fun _ _ _ h => h) (Or.inr ⟨by rfl, rfl⟩) hb0 ?_
              try simp only [Act.put, List.setIfInBounds_toArray, List.set_cons_zero, List.set_cons_succ]
              refine wpE_take (i := 16) (oi := ⟨some 56, _, _, _, _, _⟩) (v := undef) rfl (by decide +kernel) (by decide +kernel) (by decide +kernel) (fun _ _ _ h => h) (Or.inr ⟨by rfl, rfl⟩) hb0 ?_
              try simp only [Act.put, List.setIfInBounds_toArray, List.set_cons_zero, List.set_cons_succ]
              refine wpE_take (i := 17) (oi := ⟨some 57, _, _, _, _, _⟩) (v := undef) rfl (by decide +kernel) (by decide +kernel) (by decide +kernel) (fun _ _ _ h => h) (Or.inr ⟨by rfl, rfl⟩) hb0 ?_
              try simp only [Act.put, List.setIfInBounds_toArray, List.set_cons_zero, List.set_cons_succ]
              refine wpE_take (i := 18) (oi := ⟨some 58, _, _, _, _, _⟩) (v := undef) rfl (by decide +kernel) (by decide +kernel) (by decide +kernel) (fun _ _ _ h => h) (Or.inr ⟨by rfl, rfl⟩) hb0 ?_
              try simp only [Act.put, List.setIfInBounds_toArray, List.set_cons_zero, List.set_cons_succ]
              refine wpE_take (i := 19) (oi := ⟨some 59, _, _, _, _, _⟩) (v := undef) rfl (by decide +kernel) (by decide +kernel) (by decide +kernel) (fun _ _ _ h => h) (Or.inr ⟨by rfl, rfl⟩) hb0 ?_
              try simp only [Act.put, List.setIfInBounds_toArray, List.set_cons_zero, List.set_cons_succ]
              refine wpE_take (i := 20) (oi := ⟨some 60, _, _, _, _, _⟩) (v := undef) rfl (by decide +kernel) (by decide +kernel) (by decide +kernel) (fun _ _ _ h => h) (Or.inr ⟨by rfl, rfl⟩) hb0 ?_
              try simp only [Act.put, List.setIfInBounds_toArray, List.set_cons_zero, List.set_cons_succ]
              refine wpE_take (i := 21) (oi := ⟨some 61, _, _, _, _, _⟩) (v := undef) rfl (by decide +kernel) (by decide +kernel) (by decide +kernel) (fun _ _ _ h => h) (Or.inr ⟨by rfl, rfl⟩) hb0 ?_
              try simp only [Act.put, List.setIfInBounds_toArray, List.set_cons_zero, List.set_cons_succ]
              refine wpE_take (i := 22) (oi := ⟨some 62, _, _, _, _, _⟩) (v := undef) rfl (by decide +kernel) (by decide +kernel) (by decide +kernel) (fun _ _ _ h => h) (Or.inr ⟨by rfl, rfl⟩) hb0 ?_
              try simp only [Act.put, List.setIfInBounds_toArray, List.set_cons_zero, List.set_cons_succ]
              refine wpE_take (i := 23) (oi := ⟨some 63, _, _, _, _, _⟩) (v := undef) rfl (by decide +kernel) (by decide +kernel) (by decide +kernel) (fun _ _ _ h => h) (Or.inr ⟨by rfl, rfl⟩) hb0 ?_
              try simp only [Act.put, List.setIfInBounds_toArray, List.set_cons_zero, List.set_cons_succ]
              refine wpE_take (i := 24) (oi := ⟨some 64, _, _, _, _, _⟩) (v := undef) rfl (by decide +kernel) (by decide +kernel) (by decide +kernel) (fun _ _ _ h => h) (Or.inr ⟨by rfl, rfl⟩) hb0 ?_
              try simp only [Act.put, List.setIfInBounds_toArray, List.set_cons_zero, List.set_cons_succ]
              refine wpE_take (i := 25) (oi := ⟨some 65, _, _, _, _, _⟩) (v := undef) rfl (by decide +kernel) (by decide +kernel) (by decide +kernel) (fun _ _ _ h => h) (Or.inr ⟨by rfl, rfl⟩) hb0 ?_
              try simp only [Act.put, List.setIfInBounds_toArray, List.set_cons_zero, List.set_cons_succ]
              refine wpE_take (i := 26) (oi := ⟨some 66, _, _, _, _, _⟩) (v := undef) rfl (by decide +kernel) (by decide +kernel) (by decide +kernel) (fun _ _ _ h => h) (Or.inr ⟨by rfl, rfl⟩) hb0 ?_
              try simp only [Act.put, List.setIfInBounds_toArray, List.set_cons_zero, List.set_cons_succ]
              refine wpE_take (i := 27) (oi := ⟨some 67, _, _, _, _, _⟩) (v := .bool true) rfl (by decide +kernel) (by decide +kernel) (by decide +kernel) (fun _ _ _ h => h) (Or.inl ⟨by rfl, ?_⟩) hb0 ?_
              case refine_1 =>
                intro w' hSw
                go_simp
                try (with_reducible rfl)
              try simp only [Act.put, List.setIfInBounds_toArray, List.set_cons_zero, List.set_cons_succ]
              refine wpE_take (i := 28) (oi := ⟨some 68, _, _, _, _, _⟩) (v := .bool true) rfl (by decide +kernel) (by decide +kernel) (by decide +kernel) (fun _ _ _ h => h) (Or.inl ⟨by rfl, ?_⟩) hb0 ?_
              case refine_1 =>
                intro w' hSw
                go_simp
                try (with_reducible rfl)
              try simp only [Act.put, List.setIfInBounds_toArray, List.set_cons_zero, List.set_cons_succ]
              refine wpE_done (by decide +kernel) ?_
              clear k0 k1 k2 na nb da db hb0 HG5 HB5 KB5
              have k0 : W6.cell? ⟨kb, 0, none⟩ = some (.int .i64 (a : Int)) := KB6.out.cell 0
              have na : W6.cell? ⟨gk, a, none⟩ = some (.bool (F a).isSome) := HG6.out.kn.cell (by omega)
              have fa := HG6.out.kn.free a
              have HK7 := Lib.hid (HG6.out.kn.set a (.bool true))
              have HD7 := Lib.hid (HG6.out.dd.other (k := gk) (Ne.symm hkd) a (.bool true))
              have HB7 := Lib.hid (HB6.out.setCell (p := ⟨gk, a, none⟩) hgk (.bool true))
              have KB7 := Lib.hid (show Blk (W6.setCell ⟨gk, a, none⟩ (.bool true)) kb 41 #[.int .i64 (a : Int), .int .i64 (b : Int), .int .i64 cc] from ((grown_set W6 gk a _).block kb KB6.out.lt (fun e => by injection e with e; exact hbk e)).trans KB6.out)
              go_upto_region 13 with fail
              clear k0 na fa HG6 HB6 KB6
              generalize W6.setCell ⟨gk, a, none⟩ (.bool true) = W7 at *
              have k0 : W7.cell? ⟨kb, 0, none⟩ = some (.int .i64 (a : Int)) := KB7.out.cell 0
              have k1 : W7.cell? ⟨kb, 1, none⟩ = some (.int .i64 (b : Int)) := KB7.out.cell 1
              have k2 : W7.cell? ⟨kb, 2, none⟩ = some (.int .i64 cc) := KB7.out.cell 2
              have db : W7.cell? ⟨gd, b, none⟩ = some (.int .i64 x) := by have := HD7.out.cell (j := b) (by omega); rw [HFB.out] at this; exact this
              have hb1 : Below W7.heap.size W7 W7.drew := below_drew (Below.refl _ _)
              refine wp_region_mix 12 (fun w' => Below W7.heap.size W7 w') (by kernel_rfl) (by decide) ?_
              have HK8 := Lib.hid (HK7.out.below hb1)
              have HD8 := Lib.hid (HD7.out.below hb1)
              have HB8 := Lib.hid (HB7.out.trans (hb1.mono HB7.out.size))
              generalize W7.drew = W8 at hb1 HK8 HD8 HB8 ⊢
              refine wpM_take (i := 0) (oi := ⟨some 73, _, _, _, _, _⟩) (v := ?_) rfl (by decide +kernel) (by decide +kernel) (by decide +kernel) (fun _ _ _ h => h) (Or.inl ⟨by rfl, ?_⟩) hb1 ?_
              case refine_2 =>
                intro w' hSw
                have k0' := keepcell hSw k0
                have k1' := keepcell hSw k1
                have k2' := keepcell hSw k2
                have db' := keepcell hSw db
                go_simp
                try (with_reducible rfl)
              try simp only [Act.put, List.setIfInBounds_toArray, List.set_cons_zero, List.set_cons_succ]
              refine wpM_take (i := 1) (oi := ⟨some 74, _, _, _, _, _⟩) (v := ?_) rfl (by decide +kernel) (by decide +kernel) (by decide +kernel) (fun _ _ _ h => h) (Or.inl ⟨by rfl, ?_⟩) hb1 ?_
              case refine_2 =>
                intro w' hSw
                have k0' := keepcell hSw k0
                have k1' := keepcell hSw k1
                have k2' := keepcell hSw k2
                have db' := keepcell hSw db
                go_simp
                try (with_reducible rfl)
              try simp only [Act.put, List.setIfInBounds_toArray, List.set_cons_zero, List.set_cons_succ]
              refine wpM_take (i := 2) (oi := ⟨some 75, _, _, _, _, _⟩) (v := ?_) rfl (by decide +kernel) (by decide +kernel) (by decide +kernel) (fun _ _ _ h => h) (Or.inl ⟨by rfl, ?_⟩) hb1 ?_
              case refine_2 =>
                intro w' hSw
                have k0' := keepcell hSw k0
                have k1' := keepcell hSw k1
                have k2' := keepcell hSw k2
                have db' := keepcell hSw db
                go_simp
                try (with_reducible rfl)
              try simp only [Act.put, List.setIfInBounds_toArray, List.set_cons_zero, List.set_cons_succ]
              refine wpM_take (i := 3) (oi := ⟨some 76, _, _, _, _, _⟩) (v := ?_) rfl (by decide +kernel) (by decide +kernel) (by decide +kernel) (fun _ _ _ h => h) (Or.inl ⟨by rfl, ?_⟩) hb1 ?_
              case refine_2 =>
                intro w' hSw
                have k0' := keepcell hSw k0
                have k1' := keepcell hSw k1
                have k2' := keepcell hSw k2
                have db' := keepcell hSw db
                go_simp
                try (with_reducible rfl)
              try simp only [Act.put, List.setIfInBounds_toArray, List.set_cons_zero, List.set_cons_succ]
              refine wpM_take (i := 4) (oi := ⟨some 77, _, _, _, _, _⟩) (v := ?_) rfl (by decide +kernel) (by decide +kernel) (by decide +kernel) (fun _ _ _ h => h) (Or.inl ⟨by rfl, ?_⟩) hb1 ?_
              case refine_2 =>
                intro w' hSw
                have k0' := keepcell hSw k0
                have k1' := keepcell hSw k1
                have k2' := keepcell hSw k2
                have db' := keepcell hSw db
                go_simp
                try (with_reducible rfl)
              try simp only [Act.put, List.setIfInBounds_toArray, List.set_cons_zero, List.set_cons_succ]
              refine wpM_take (i := 5) (oi := ⟨some 78, _, _, _, _, _⟩) (v := ?_) rfl (by decide +kernel) (by decide +kernel) (by decide +kernel) (fun _ _ _ h => h) (Or.inl ⟨by rfl, ?_⟩) hb1 ?_
              case refine_2 =>
                intro w' hSw
                have k0' := keepcell hSw k0
                have k1' := keepcell hSw k1
                have k2' := keepcell hSw k2
                have db' := keepcell hSw db
                go_simp
                try (with_reducible rfl)
              try simp only [Act.put, List.setIfInBounds_toArray, List.set_cons_zero, List.set_cons_succ]
              refine wpM_take (i := 6) (oi := ⟨some 79, _, _, _, _, _⟩) (v := ?_) rfl (by decide +kernel) (by decide +kernel) (by decide +kernel) (fun _ _ _ h => h) (Or.inl ⟨by rfl, ?_⟩) hb1 ?_
              case refine_2 =>
                intro w' hSw
                have k0' := keepcell hSw k0
                have k1' := keepcell hSw k1
                have k2' := keepcell hSw k2
                have db' := keepcell hSw db
                go_simp
                try (with_reducible rfl)
              try simp only [Act.put, List.setIfInBounds_toArray, List.set_cons_zero, List.set_cons_succ]
              refine wpM_take (i := 7) (oi := ⟨some 80, _, _, _, _, _⟩) (v := ?_) rfl (by decide +kernel) (by decide +kernel) (by decide +kernel) (fun _ _ _ h => h) (Or.inl ⟨by rfl, ?_⟩) hb1 ?_
              case refine_2 =>
                intro w' hSw
                have k0' := keepcell hSw k0
                have k1' := keepcell hSw k1
                have k2' := keepcell hSw k2
                have db' := keepcell hSw db
                go_simp
                try (with_reducible rfl)
              try simp only [Act.put, List.setIfInBounds_toArray, List.set_cons_zero, List.set_cons_succ]
              refine wpM_take (i := 8) (oi := ⟨some 81, _, _, _, _, _⟩) (v := ?_) rfl (by decide +kernel) (by decide +kernel) (by decide +kernel) (fun _ _ _ h => h) (Or.inl ⟨by rfl, ?_⟩) hb1 ?_
              case refine_2 =>
                intro w' hSw
                have k0' := keepcell hSw k0
                have k1' := keepcell hSw k1
                have k2' := keepcell hSw k2
                have db' := keepcell hSw db
                go_simp
                try (with_reducible rfl)
              try simp only [Act.put, List.setIfInBounds_toArray, List.set_cons_zero, List.set_cons_succ]
              refine wpM_take (i := 9) (oi := ⟨some 82, _, _, _, _, _⟩) (v := ?_) rfl (by decide +kernel) (by decide +kernel) (by decide +kernel) (fun _ _ _ h => h) (Or.inl ⟨by rfl, ?_⟩) hb1 ?_
              case refine_2 =>
                intro w' hSw
                have k0' := keepcell hSw k0
                have k1' := keepcell hSw k1
                have k2' := keepcell hSw k2
                have db' := keepcell hSw db
                go_simp
                try (with_reducible rfl)
              try simp only [Act.put, List.setIfInBounds_toArray, List.set_cons_zero, List.set_cons_succ]
              refine wpM_take (i := 10) (oi := ⟨some 83, _, _, _, _, _⟩) (v := ?_) rfl (by decide +kernel) (by decide +kernel) (by decide +kernel) (fun _ _ _ h => h) (Or.inl ⟨by rfl, ?_⟩) hb1 ?_
              case refine_2 =>
                intro w' hSw
                have k0' := keepcell hSw k0
                have k1' := keepcell hSw k1
                have k2' := keepcell hSw k2
                have db' := keepcell hSw db
                go_simp
                try (with_reducible rfl)
              try simp only [Act.put, List.setIfInBounds_toArray, List.set_cons_zero, List.set_cons_succ]
              refine wpM_take (i := 11) (oi := ⟨some 84, _, _, _, _, _⟩) (v := ?_) rfl (by decide +kernel) (by decide +kernel) (by decide +kernel) (fun _ _ _ h => h) (Or.inl ⟨by rfl, ?_⟩) hb1 ?_
              case refine_2 =>
                intro w' hSw
                have k0' := keepcell hSw k0
                have k1' := keepcell hSw k1
                have k2' := keepcell hSw k2
                have db' := keepcell hSw db
                go_simp
                try (with_reducible rfl)
              try simp only [Act.put, List.setIfInBounds_toArray, List.set_cons_zero, List.set_cons_succ]
              refine wpM_done (by decide +kernel) ?_
              simp only [List.drop_succ_cons, List.drop_zero]
              clear k0 k1 k2 db hb1 HK7 HD7 HB7 KB7
              have da : W8.cell? ⟨gd, a, none⟩ = some (.int .i64 ((F a).getD 0)) := HD8.out.cell (by omega)
              have fa := HD8.out.free a
              have HG9 := Lib.hid (GK.put HK8.out HD8.out hkd (x + cc))
              have HB9 := Lib.hid (HB8.out.setCell (p := ⟨gd, a, none⟩) hgd (.int .i64 (x + cc)))
              go_wp2
              go_roundw
              case rel => exact ⟨q + 1, pt F a (x + cc), by go_num, hlq, HFN.out, HG9.out, HOB.out, HB9.out⟩
              case measure => simp [intOf]; omega
            | some y =>
              rw [hFa] at na da
              dsimp only [Option.isSome_some, Option.getD_some] at na da
              by_cases hgt : y > x + cc
              · have HFN := Lib.hid (show (B.take (q + 1)).foldl rstp (rsk B j r) = pt F a (x + cc) by rw [HFS.out, HRS.out, hFb, hFa]; exact if_pos hgt)
                have HOB := Lib.hid (show OB (pt F a (x + cc)) (r * m + (q + 1)) by have := HOS.out; rw [HRS.out, hFb, hFa] at this; dsimp only at this; rw [if_pos hgt] at this; exact this)
                clear hFa hFb
                go_upto_region 11 with fail
                have hb0 : Below W5.heap.size W5 W5.drew := below_drew (Below.refl _ _)
                refine wp_region_mixE (fun w' => Below W5.heap.size W5 w') (by kernel_rfl) ?_
                have HG6 := Lib.hid (HG5.out.below hb0)
                have HB6 := Lib.hid (HB5.out.trans (hb0.mono HB5.out.size))
                have KB6 := Lib.hid (KB5.out.below hb0)
                generalize W5.drew = W6 at hb0 HG6 HB6 KB6 ⊢
                refine wpE_take (i := 0) (oi := ⟨some 40, _, _, _, _, _⟩) (v := ?_) rfl (by decide +kernel) (by decide +kernel) (by decide +kernel) (fun _ _ _ h => h) (Or.inl ⟨by rfl, ?_⟩) hb0 ?_
                case refine_2 =>
                  intro w' hSw
                  have k0' := keepcell hSw k0
                  have k1' := keepcell hSw k1
                  have k2' := keepcell hSw k2
                  have na' := keepcell hSw na
                  have nb' := keepcell hSw nb
                  have da' := keepcell hSw da
                  have db' := keepcell hSw db
                  go_simp
                  try (with_reducible rfl)
                try simp only [Act.put, List.setIfInBounds_toArray, List.set_cons_zero, List.set_cons_succ]
                refine wpE_take (i := 1) (oi := ⟨some 41, _, _, _, _, _⟩) (v := ?_) rfl (by decide +kernel) (by decide +kernel) (by decide +kernel) (fun _ _ _ h => h) (Or.inl ⟨by rfl, ?_⟩) hb0 ?_
                case refine_2 =>
                  intro w' hSw
                  have k0' := keepcell hSw k0
                  have k1' := keepcell hSw k1
                  have k2' := keepcell hSw k2
                  have na' := keepcell hSw na
                  have nb' := keepcell hSw nb
                  have da' := keepcell hSw da
                  have db' := keepcell hSw db
                  go_simp
                  try (with_reducible rfl)
                try simp only [Act.put, List.setIfInBounds_toArray, List.set_cons_zero, List.set_cons_succ]
                refine wpE_take (i := 2) (oi := ⟨some 42, _, _, _, _, _⟩) (v := ?_) rfl (by decide +kernel) (by decide +kernel) (by decide +kernel) (fun _ _ _ h => h) (Or.inl ⟨by rfl, ?_⟩) hb0 ?_
                case refine_2 =>
                  intro w' hSw
                  have k0' := keepcell hSw k0
                  have k1' := keepcell hSw k1
                  have k2' := keepcell hSw k2
                  have na' := keepcell hSw na
                  have nb' := keepcell hSw nb
                  have da' := keepcell hSw da
                  have db' := keepcell hSw db
                  go_simp
                  try (with_reducible rfl)
                try simp only [Act.put, List.setIfInBounds_toArray, List.set_cons_zero, List.set_cons_succ]
                refine wpE_take (i := 3) (oi := ⟨some 43, _, _, _, _, _⟩) (v := ?_) rfl (by decide +kernel) (by decide +kernel) (by decide +kernel) (fun _ _ _ h => h) (Or.inl ⟨by rfl, ?_⟩) hb0 ?_
                case refine_2 =>
                  intro w' hSw
                  have k0' := keepcell hSw k0
                  have k1' := keepcell hSw k1
                  have k2' := keepcell hSw k2
                  have na' := keepcell hSw na
                  have nb' := keepcell hSw nb
                  have da' := keepcell hSw da
                  have db' := keepcell hSw db
                  go_simp
                  try (with_reducible rfl)
                try simp only [Act.put, List.setIfInBounds_toArray, List.set_cons_zero, List.set_cons_succ]
                refine wpE_take (i := 4) (oi := ⟨some 44, _, _, _, _, _⟩) (v := ?_) rfl (by decide +kernel) (by decide +kernel) (by decide +kernel) (fun _ _ _ h => h) (Or.inl ⟨by rfl, ?_⟩) hb0 ?_
                case refine_2 =>
                  intro w' hSw
                  have k0' := keepcell hSw k0
                  have k1' := keepcell hSw k1
                  have k2' := keepcell hSw k2
                  have na' := keepcell hSw na
                  have nb' := keepcell hSw nb
                  have da' := keepcell hSw da
                  have db' := keepcell hSw db
                  go_simp
                  try (with_reducible rfl)
                try simp only [Act.put, List.setIfInBounds_toArray, List.set_cons_zero, List.set_cons_succ]
                refine wpE_take (i := 5) (oi := ⟨some 45, _, _, _, _, _⟩) (v := .bool true) rfl (by decide +kernel) (by decide +kernel) (by decide +kernel) (fun _ _ _ h => h) (Or.inl ⟨by rfl, ?_⟩) hb0 ?_
                case refine_1 =>
                  intro w' hSw
                  go_simp
                  try (with_reducible rfl)
                try simp only [Act.put, List.setIfInBounds_toArray, List.set_cons_zero, List.set_cons_succ]
                refine wpE_take (i := 6) (oi := ⟨some 46, _, _, _, _, _⟩) (v := ?_) rfl (by decide +kernel) (by decide +kernel) (by decide +kernel) (fun _ _ _ h => h) (Or.inl ⟨by rfl, ?_⟩) hb0 ?_
                case refine_2 =>
                  intro w' hSw
                  have k0' := keepcell hSw k0
                  have k1' := keepcell hSw k1
                  have k2' := keepcell hSw k2
                  have na' := keepcell hSw na
                  have nb' := keepcell hSw nb
                  have da' := keepcell hSw da
                  have db' := keepcell hSw db
                  go_simp
                  try (with_reducible rfl)
                try simp only [Act.put, List.setIfInBounds_toArray, List.set_cons_zero, List.set_cons_succ]
                refine wpE_take (i := 7) (oi := ⟨some 47, _, _, _, _, _⟩) (v := ?_) rfl (by decide +kernel) (by decide +kernel) (by decide +kernel) (fun _ _ _ h => h) (Or.inl ⟨by rfl, ?_⟩) hb0 ?_
                case refine_2 =>
                  intro w' hSw
                  have k0' := keepcell hSw k0
                  have k1' := keepcell hSw k1
                  have k2' := keepcell hSw k2
                  have na' := keepcell hSw na
                  have nb' := keepcell hSw nb
                  have da' := keepcell hSw da
                  have db' := keepcell hSw db
                  go_simp
                  try (with_reducible rfl)
                try simp only [Act.put, List.setIfInBounds_toArray, List.set_cons_zero, List.set_cons_succ]
                refine wpE_take (i := 8) (oi := ⟨some 48, _, _, _, _, _⟩) (v := ?_) rfl (by decide +kernel) (by decide +kernel) (by decide +kernel) (fun _ _ _ h => h) (Or.inl ⟨by rfl, ?_⟩) hb0 ?_
                case refine_2 =>
                  intro w' hSw
                  have k0' := keepcell hSw k0
                  have k1' := keepcell hSw k1
                  have k2' := keepcell hSw k2
                  have na' := keepcell hSw na
                  have nb' := keepcell hSw nb
                  have da' := keepcell hSw da
                  have db' := keepcell hSw db
                  go_simp
                  try (with_reducible rfl)
                try simp only [Act.put, List.setIfInBounds_toArray, List.set_cons_zero, List.set_cons_succ]
                refine wpE_take (i := 9) (oi := ⟨some 49, _, _, _, _, _⟩) (v := ?_) rfl (by decide +kernel) (by decide +kernel) (by decide +kernel) (fun _ _ _ h => h) (Or.inl ⟨by rfl, ?_⟩) hb0 ?_
                case refine_2 =>
                  intro w' hSw
                  have k0' := keepcell hSw k0
                  have k1' := keepcell hSw k1
                  have k2' := keepcell hSw k2
                  have na' := keepcell hSw na
                  have nb' := keepcell hSw nb
                  have da' := keepcell hSw da
                  have db' := keepcell hSw db
                  go_simp
                  try (with_reducible rfl)
                try simp only [Act.put, List.setIfInBounds_toArray, List.set_cons_zero, List.set_cons_succ]
                refine wpE_take (i := 10) (oi := ⟨some 50, _, _, _, _, _⟩) (v := ?_) rfl (by decide +kernel) (by decide +kernel) (by decide +kernel) (fun _ _ _ h => h) (Or.inl ⟨by rfl, ?_⟩) hb0 ?_
                case refine_2 =>
                  intro w' hSw
                  have k0' := keepcell hSw k0
                  have k1' := keepcell hSw k1
                  have k2' := keepcell hSw k2
                  have na' := keepcell hSw na
                  have nb' := keepcell hSw nb
                  have da' := keepcell hSw da
                  have db' := keepcell hSw db
                  go_simp
                  try (with_reducible rfl)
                try simp only [Act.put, List.setIfInBounds_toArray, List.set_cons_zero, List.set_cons_succ]
                refine wpE_take (i := 11) (oi := ⟨some 51, _, _, _, _, _⟩) (v := ?_) rfl (by decide +kernel) (by decide +kernel) (by decide +kernel) (fun _ _ _ h => h) (Or.inl ⟨by rfl, ?_⟩) hb0 ?_
                case refine_2 =>
                  intro w' hSw
                  have k0' := keepcell hSw k0
                  have k1' := keepcell hSw k1
                  have k2' := keepcell hSw k2
                  have na' := keepcell hSw na
                  have nb' := keepcell hSw nb
                  have da' := keepcell hSw da
                  have db' := keepcell hSw db
                  go_simp
                  try (with_reducible rfl)
                try simp only [Act.put, List.setIfInBounds_toArray, List.set_cons_zero, List.set_cons_succ]
                refine wpE_take (i := 12) (oi := ⟨some 52, _, _, _, _, _⟩) (v := .bool false) rfl (by decide +kernel) (by decide +kernel) (by decide +kernel) (fun _ _ _ h => h) (Or.inl ⟨by rfl, ?_⟩) hb0 ?_
                case refine_1 =>
                  intro w' hSw
                  go_simp
                  try (with_reducible rfl)
                try simp only [Act.put, List.setIfInBounds_toArray, List.set_cons_zero, List.set_cons_succ]
                refine wpE_take (i := 13) (oi := ⟨some 53, _, _, _, _, _⟩) (v := ?_) rfl (by decide +kernel) (by decide +kernel) (by decide +kernel) (fun _ _ _ h => h) (Or.inl ⟨by rfl, ?_⟩) hb0 ?_
                case refine_2 =>
                  intro w' hSw
                  have k0' := keepcell hSw k0
                  have k1' := keepcell hSw k1
                  have k2' := keepcell hSw k2
                  have na' := keepcell hSw na
                  have nb' := keepcell hSw nb
                  have da' := keepcell hSw da
                  have db' := keepcell hSw db
                  go_simp
                  try (with_reducible rfl)
                try simp only [Act.put, List.setIfInBounds_toArray, List.set_cons_zero, List.set_cons_succ]
                refine wpE_take (i := 14) (oi := ⟨some 54, _, _, _, _, _⟩) (v := ?_) rfl (by decide +kernel) (by decide +kernel) (by decide +kernel) (fun _ _ _ h => h) (Or.inl ⟨by rfl, ?_⟩) hb0 ?_
                case refine_2 =>
                  intro w' hSw
                  have k0' := keepcell hSw k0
                  have k1' := keepcell hSw k1
                  have k2' := keepcell hSw k2
                  have na' := keepcell hSw na
                  have nb' := keepcell hSw nb
                  have da' := keepcell hSw da
                  have db' := keepcell hSw db
                  go_simp
                  try (with_reducible rfl)
                try simp only [Act.put, List.setIfInBounds_toArray, List.set_cons_zero, List.set_cons_succ]
                refine wpE_take (i := 15) (oi := ⟨some 55, _, _, _, _, _⟩) (v := ?_) rfl (by decide +kernel) (by decide +kernel) (by decide +kernel) (fun _ _ _ h => h) (Or.inl ⟨by rfl, ?_⟩) hb0 ?_
                case refine_2 =>
                  intro w' hSw
                  have k0' := keepcell hSw k0
                  have k1' := keepcell hSw k1
                  have k2' := keepcell hSw k2
                  have na' := keepcell hSw na
                  have nb' := keepcell hSw nb
                  have da' := keepcell hSw da
                  have db' := keepcell hSw db
                  go_simp
                  try (with_reducible rfl)
                try simp only [Act.put, List.setIfInBounds_toArray, List.set_cons_zero, List.set_cons_succ]
                refine wpE_take (i := 16) (oi := ⟨some 56, _, _, _, _, _⟩) (v := ?_) rfl (by decide +kernel) (by decide +kernel) (by decide +kernel) (fun _ _ _ h => h) (Or.inl ⟨by rfl, ?_⟩) hb0 ?_
                case refine_2 =>
                  intro w' hSw
                  have k0' := keepcell hSw k0
                  have k1' := keepcell hSw k1
                  have k2' := keepcell hSw k2
                  have na' := keepcell hSw na
                  have nb' := keepcell hSw nb
                  have da' := keepcell hSw da
                  have db' := keepcell hSw db
                  go_simp
                  try (with_reducible rfl)
                try simp only [Act.put, List.setIfInBounds_toArray, List.set_cons_zero, List.set_cons_succ]
                refine wpE_take (i := 17) (oi := ⟨some 57, _, _, _, _, _⟩) (v := ?_) rfl (by decide +kernel) (by decide +kernel) (by decide +kernel) (fun _ _ _ h => h) (Or.inl ⟨by rfl, ?_⟩) hb0 ?_
                case refine_2 =>
                  intro w' hSw
                  have k0' := keepcell hSw k0
                  have k1' := keepcell hSw k1
                  have k2' := keepcell hSw k2
                  have na' := keepcell hSw na
                  have nb' := keepcell hSw nb
                  have da' := keepcell hSw da
                  have db' := keepcell hSw db
                  go_simp
                  try (with_reducible rfl)
                try simp only [Act.put, List.setIfInBounds_toArray, List.set_cons_zero, List.set_cons_succ]
                refine wpE_take (i := 18) (oi := ⟨some 58, _, _, _, _, _⟩) (v := ?_) rfl (by decide +kernel) (by decide +kernel) (by decide +kernel) (fun _ _ _ h => h) (Or.inl ⟨by rfl, ?_⟩) hb0 ?_
                case refine_2 =>
                  intro w' hSw
                  have k0' := keepcell hSw k0
                  have k1' := keepcell hSw k1
                  have k2' := keepcell hSw k2
                  have na' := keepcell hSw na
                  have nb' := keepcell hSw nb
                  have da' := keepcell hSw da
                  have db' := keepcell hSw db
                  go_simp
                  try (with_reducible rfl)
                try simp only [Act.put, List.setIfInBounds_toArray, List.set_cons_zero, List.set_cons_succ]
                refine wpE_take (i := 19) (oi := ⟨some 59, _, _, _, _, _⟩) (v := ?_) rfl (by decide +kernel) (by decide +kernel) (by decide +kernel) (fun _ _ _ h => h) (Or.inl ⟨by rfl, ?_⟩) hb0 ?_
                case refine_2 =>
                  intro w' hSw
                  have k0' := keepcell hSw k0
                  have k1' := keepcell hSw k1
                  have k2' := keepcell hSw k2
                  have na' := keepcell hSw na
                  have nb' := keepcell hSw nb
                  have da' := keepcell hSw da
                  have db' := keepcell hSw db
                  go_simp
                  try (with_reducible rfl)
                try simp only [Act.put, List.setIfInBounds_toArray, List.set_cons_zero, List.set_cons_succ]
                refine wpE_take (i := 20) (oi := ⟨some 60, _, _, _, _, _⟩) (v := ?_) rfl (by decide +kernel) (by decide +kernel) (by decide +kernel) (fun _ _ _ h => h) (Or.inl ⟨by rfl, ?_⟩) hb0 ?_
                case refine_2 =>
                  intro w' hSw
                  have k0' := keepcell hSw k0
                  have k1' := keepcell hSw k1
                  have k2' := keepcell hSw k2
                  have na' := keepcell hSw na
                  have nb' := keepcell hSw nb
                  have da' := keepcell hSw da
                  have db' := keepcell hSw db
                  go_simp
                  try (with_reducible rfl)
                try simp only [Act.put, List.setIfInBounds_toArray, List.set_cons_zero, List.set_cons_succ]
                refine wpE_take (i := 21) (oi := ⟨some 61, _, _, _, _, _⟩) (v := ?_) rfl (by decide +kernel) (by decide +kernel) (by decide +kernel) (fun _ _ _ h => h) (Or.inl ⟨by rfl, ?_⟩) hb0 ?_
                case refine_2 =>
                  intro w' hSw
                  have k0' := keepcell hSw k0
                  have k1' := keepcell hSw k1
                  have k2' := keepcell hSw k2
                  have na' := keepcell hSw na
                  have nb' := keepcell hSw nb
                  have da' := keepcell hSw da
                  have db' := keepcell hSw db
                  go_simp
                  try (with_reducible rfl)
                try simp only [Act.put, List.setIfInBounds_toArray, List.set_cons_zero, List.set_cons_succ]
                refine wpE_take (i := 22) (oi := ⟨some 62, _, _, _, _, _⟩) (v := ?_) rfl (by decide +kernel) (by decide +kernel) (by decide +kernel) (fun _ _ _ h => h) (Or.inl ⟨by rfl, ?_⟩) hb0 ?_
                case refine_2 =>
                  intro w' hSw
                  have k0' := keepcell hSw k0
                  have k1' := keepcell hSw k1
                  have k2' := keepcell hSw k2
                  have na' := keepcell hSw na
                  have nb' := keepcell hSw nb
                  have da' := keepcell hSw da
                  have db' := keepcell hSw db
                  go_simp
                  try (with_reducible rfl)
                try simp only [Act.put, List.setIfInBounds_toArray, List.set_cons_zero, List.set_cons_succ]
                refine wpE_take (i := 23) (oi := ⟨some 63, _, _, _, _, _⟩) (v := ?_) rfl (by decide +kernel) (by decide +kernel) (by decide +kernel) (fun _ _ _ h => h) (Or.inl ⟨by rfl, ?_⟩) hb0 ?_
                case refine_2 =>
                  intro w' hSw
                  have k0' := keepcell hSw k0
                  have k1' := keepcell hSw k1
                  have k2' := keepcell hSw k2
                  have na' := keepcell hSw na
                  have nb' := keepcell hSw nb
                  have da' := keepcell hSw da
                  have db' := keepcell hSw db
                  go_simp
                  try (with_reducible rfl)
                try simp only [Act.put, List.setIfInBounds_toArray, List.set_cons_zero, List.set_cons_succ]
                refine wpE_take (i := 24) (oi := ⟨some 64, _, _, _, _, _⟩) (v := ?_) rfl (by decide +kernel) (by decide +kernel) (by decide +kernel) (fun _ _ _ h => h) (Or.inl ⟨by rfl, ?_⟩) hb0 ?_
                case refine_2 =>
                  intro w' hSw
                  have k0' := keepcell hSw k0
                  have k1' := keepcell hSw k1
                  have k2' := keepcell hSw k2
                  have na' := keepcell hSw na
                  have nb' := keepcell hSw nb
                  have da' := keepcell hSw da
                  have db' := keepcell hSw db
                  go_simp
                  try (with_reducible rfl)
                try simp only [Act.put, List.setIfInBounds_toArray, List.set_cons_zero, List.set_cons_succ]
                refine wpE_take (i := 25) (oi := ⟨some 65, _, _, _, _, _⟩) (v := ?_) rfl (by decide +kernel) (by decide +kernel) (by decide +kernel) (fun _ _ _ h => h) (Or.inl ⟨by rfl, ?_⟩) hb0 ?_
                case refine_2 =>
                  intro w' hSw
                  have k0' := keepcell hSw k0
                  have k1' := keepcell hSw k1
                  have k2' := keepcell hSw k2
                  have na' := keepcell hSw na
                  have nb' := keepcell hSw nb
                  have da' := keepcell hSw da
                  have db' := keepcell hSw db
                  go_simp
                  try (with_reducible rfl)
                try simp only [Act.put, List.setIfInBounds_toArray, List.set_cons_zero, List.set_cons_succ]
                refine wpE_take (i := 26) (oi := ⟨some 66, _, _, _, _, _⟩) (v := .bool true) rfl (by decide +kernel) (by decide +kernel) (by decide +kernel) (fun _ _ _ h => h) (Or.inl ⟨by rfl, ?_⟩) hb0 ?_
                case refine_1 =>
                  intro w' hSw
                  go_simp
                  try (with_reducible rfl)
                try simp only [Act.put, List.setIfInBounds_toArray, List.set_cons_zero, List.set_cons_succ]
                refine wpE_take (i := 27) (oi := ⟨some 67, _, _, _, _, _⟩) (v := .bool true) rfl (by decide +kernel) (by decide +kernel) (by decide +kernel) (fun _ _ _ h => h) (Or.inl ⟨by rfl, ?_⟩) hb0 ?_
                case refine_1 =>
                  intro w' hSw
                  go_simp
                  try (with_reducible rfl)
                try simp only [Act.put, List.setIfInBounds_toArray, List.set_cons_zero, List.set_cons_succ]
                refine wpE_take (i := 28) (oi := ⟨some 68, _, _, _, _, _⟩) (v := .bool true) rfl (by decide +kernel) (by decide +kernel) (by decide +kernel) (fun _ _ _ h => h) (Or.inl ⟨by rfl, ?_⟩) hb0 ?_
                case refine_1 =>
                  intro w' hSw
                  go_simp
                  try (with_reducible rfl)
                try simp only [Act.put, List.setIfInBounds_toArray, List.set_cons_zero, List.set_cons_succ]
                refine wpE_done (by decide +kernel) ?_
                clear k0 k1 k2 na nb da db hb0 HG5 HB5 KB5
                have k0 : W6.cell? ⟨kb, 0, none⟩ = some (.int .i64 (a : Int)) := KB6.out.cell 0
                have na : W6.cell? ⟨gk, a, none⟩ = some (.bool (F a).isSome) := HG6.out.kn.cell (by omega)
                have fa := HG6.out.kn.free a
                have HK7 := Lib.hid (HG6.out.kn.set a (.bool true))
                have HD7 := Lib.hid (HG6.out.dd.other (k := gk) (Ne.symm hkd) a (.bool true))
                have HB7 := Lib.hid (HB6.out.setCell (p := ⟨gk, a, none⟩) hgk (.bool true))
                have KB7 := Lib.hid (show Blk (W6.setCell ⟨gk, a, none⟩ (.bool true)) kb 41 #[.int .i64 (a : Int), .int .i64 (b : Int), .int .i64 cc] from ((grown_set W6 gk a _).block kb KB6.out.lt (fun e => by injection e with e; exact hbk e)).trans KB6.out)
                go_upto_region 13 with fail
                clear k0 na fa HG6 HB6 KB6
                generalize W6.setCell ⟨gk, a, none⟩ (.bool true) = W7 at *
                have k0 : W7.cell? ⟨kb, 0, none⟩ = some (.int .i64 (a : Int)) := KB7.out.cell 0
                have k1 : W7.cell? ⟨kb, 1, none⟩ = some (.int .i64 (b : Int)) := KB7.out.cell 1
                have k2 : W7.cell? ⟨kb, 2, none⟩ = some (.int .i64 cc) := KB7.out.cell 2
                have db : W7.cell? ⟨gd, b, none⟩ = some (.int .i64 x) := by have := HD7.out.cell (j := b) (by omega); rw [HFB.out] at this; exact this
                have hb1 : Below W7.heap.size W7 W7.drew := below_drew (Below.refl _ _)
                refine wp_region_mix 12 (fun w' => Below W7.heap.size W7 w') (by kernel_rfl) (by decide) ?_
                have HK8 := Lib.hid (HK7.out.below hb1)
                have HD8 := Lib.hid (HD7.out.below hb1)
                have HB8 := Lib.hid (HB7.out.trans (hb1.mono HB7.out.size))
                generalize W7.drew = W8 at hb1 HK8 HD8 HB8 ⊢
                refine wpM_take (i := 0) (oi := ⟨some 73, _, _, _, _, _⟩) (v := ?_) rfl (by decide +kernel) (by decide +kernel) (by decide +kernel) (fun _ _ _ h => h) (Or.inl ⟨by rfl, ?_⟩) hb1 ?_
                case refine_2 =>
                  intro w' hSw
                  have k0' := keepcell hSw k0
                  have k1' := keepcell hSw k1
                  have k2' := keepcell hSw k2
                  have db' := keepcell hSw db
                  go_simp
                  try (with_reducible rfl)
                try simp only [Act.put, List.setIfInBounds_toArray, List.set_cons_zero, List.set_cons_succ]
                refine wpM_take (i := 1) (oi := ⟨some 74, _, _, _, _, _⟩) (v := ?_) rfl (by decide +kernel) (by decide +kernel) (by decide +kernel) (fun _ _ _ h => h) (Or.inl ⟨by rfl, ?_⟩) hb1 ?_
                case refine_2 =>
                  intro w' hSw
                  have k0' := keepcell hSw k0
                  have k1' := keepcell hSw k1
                  have k2' := keepcell hSw k2
                  have db' := keepcell hSw db
                  go_simp
                  try (with_reducible rfl)
                try simp only [Act.put, List.setIfInBounds_toArray, List.set_cons_zero, List.set_cons_succ]
                refine wpM_take (i := 2) (oi := ⟨some 75, _, _, _, _, _⟩) (v := ?_) rfl (by decide +kernel) (by decide +kernel) (by decide +kernel) (fun _ _ _ h => h) (Or.inl ⟨by rfl, ?_⟩) hb1 ?_
                case refine_2 =>
                  intro w' hSw
                  have k0' := keepcell hSw k0
                  have k1' := keepcell hSw k1
                  have k2' := keepcell hSw k2
                  have db' := keepcell hSw db
                  go_simp
                  try (with_reducible rfl)
                try simp only [Act.put, List.setIfInBounds_toArray, List.set_cons_zero, List.set_cons_succ]
                refine wpM_take (i := 3) (oi := ⟨some 76, _, _, _, _, _⟩) (v := ?_) rfl (by decide +kernel) (by decide +kernel) (by decide +kernel) (fun _ _ _ h => h) (Or.inl ⟨by rfl, ?_⟩) hb1 ?_
                case refine_2 =>
                  intro w' hSw
                  have k0' := keepcell hSw k0
                  have k1' := keepcell hSw k1
                  have k2' := keepcell hSw k2
                  have db' := keepcell hSw db
                  go_simp
                  try (with_reducible rfl)
                try simp only [Act.put, List.setIfInBounds_toArray, List.set_cons_zero, List.set_cons_succ]
                refine wpM_take (i := 4) (oi := ⟨some 77, _, _, _, _, _⟩) (v := ?_) rfl (by decide +kernel) (by decide +kernel) (by decide +kernel) (fun _ _ _ h => h) (Or.inl ⟨by rfl, ?_⟩) hb1 ?_
                case refine_2 =>
                  intro w' hSw
                  have k0' := keepcell hSw k0
                  have k1' := keepcell hSw k1
                  have k2' := keepcell hSw k2
                  have db' := keepcell hSw db
                  go_simp
                  try (with_reducible rfl)
                try simp only [Act.put, List.setIfInBounds_toArray, List.set_cons_zero, List.set_cons_succ]
                refine wpM_take (i := 5) (oi := ⟨some 78, _, _, _, _, _⟩) (v := ?_) rfl (by decide +kernel) (by decide +kernel) (by decide +kernel) (fun _ _ _ h => h) (Or.inl ⟨by rfl, ?_⟩) hb1 ?_
                case refine_2 =>
                  intro w' hSw
                  have k0' := keepcell hSw k0
                  have k1' := keepcell hSw k1
                  have k2' := keepcell hSw k2
                  have db' := keepcell hSw db
                  go_simp
                  try (with_reducible rfl)
                try simp only [Act.put, List.setIfInBounds_toArray, List.set_cons_zero, List.set_cons_succ]
                refine wpM_take (i := 6) (oi := ⟨some 79, _, _, _, _, _⟩) (v := ?_) rfl (by decide +kernel) (by decide +kernel) (by decide +kernel) (fun _ _ _ h => h) (Or.inl ⟨by rfl, ?_⟩) hb1 ?_
                case refine_2 =>
                  intro w' hSw
                  have k0' := keepcell hSw k0
                  have k1' := keepcell hSw k1
                  have k2' := keepcell hSw k2
                  have db' := keepcell hSw db
                  go_simp
                  try (with_reducible rfl)
                try simp only [Act.put, List.setIfInBounds_toArray, List.set_cons_zero, List.set_cons_succ]
                refine wpM_take (i := 7) (oi := ⟨some 80, _, _, _, _, _⟩) (v := ?_) rfl (by decide +kernel) (by decide +kernel) (by decide +kernel) (fun _ _ _ h => h) (Or.inl ⟨by rfl, ?_⟩) hb1 ?_
                case refine_2 =>
                  intro w' hSw
                  have k0' := keepcell hSw k0
                  have k1' := keepcell hSw k1
                  have k2' := keepcell hSw k2
                  have db' := keepcell hSw db
                  go_simp
                  try (with_reducible rfl)
                try simp only [Act.put, List.setIfInBounds_toArray, List.set_cons_zero, List.set_cons_succ]
                refine wpM_take (i := 8) (oi := ⟨some 81, _, _, _, _, _⟩) (v := ?_) rfl (by decide +kernel) (by decide +kernel) (by decide +kernel) (fun _ _ _ h => h) (Or.inl ⟨by rfl, ?_⟩) hb1 ?_
                case refine_2 =>
                  intro w' hSw
                  have k0' := keepcell hSw k0
                  have k1' := keepcell hSw k1
                  have k2' := keepcell hSw k2
                  have db' := keepcell hSw db
                  go_simp
                  try (with_reducible rfl)
                try simp only [Act.put, List.setIfInBounds_toArray, List.set_cons_zero, List.set_cons_succ]
                refine wpM_take (i := 9) (oi := ⟨some 82, _, _, _, _, _⟩) (v := ?_) rfl (by decide +kernel) (by decide +kernel) (by decide +kernel) (fun _ _ _ h => h) (Or.inl ⟨by rfl, ?_⟩) hb1 ?_
                case refine_2 =>
                  intro w' hSw
                  have k0' := keepcell hSw k0
                  have k1' := keepcell hSw k1
                  have k2' := keepcell hSw k2
                  have db' := keepcell hSw db
                  go_simp
                  try (with_reducible rfl)
                try simp only [Act.put, List.setIfInBounds_toArray, List.set_cons_zero, List.set_cons_succ]
                refine wpM_take (i := 10) (oi := ⟨some 83, _, _, _, _, _⟩) (v := ?_) rfl (by decide +kernel) (by decide +kernel) (by decide +kernel) (fun _ _ _ h => h) (Or.inl ⟨by rfl, ?_⟩) hb1 ?_
                case refine_2 =>
                  intro w' hSw
                  have k0' := keepcell hSw k0
                  have k1' := keepcell hSw k1
                  have k2' := keepcell hSw k2
                  have db' := keepcell hSw db
                  go_simp
                  try (with_reducible rfl)
                try simp only [Act.put, List.setIfInBounds_toArray, List.set_cons_zero, List.set_cons_succ]
                refine wpM_take (i := 11) (oi := ⟨some 84, _, _, _, _, _⟩) (v := ?_) rfl (by decide +kernel) (by decide +kernel) (by decide +kernel) (fun _ _ _ h => h) (Or.inl ⟨by rfl, ?_⟩) hb1 ?_
                case refine_2 =>
                  intro w' hSw
                  have k0' := keepcell hSw k0
                  have k1' := keepcell hSw k1
                  have k2' := keepcell hSw k2
                  have db' := keepcell hSw db
                  go_simp
                  try (with_reducible rfl)
                try simp only [Act.put, List.setIfInBounds_toArray, List.set_cons_zero, List.set_cons_succ]
                refine wpM_done (by decide +kernel) ?_
                simp only [List.drop_succ_cons, List.drop_zero]
                clear k0 k1 k2 db hb1 HK7 HD7 HB7 KB7
                have da : W8.cell? ⟨gd, a, none⟩ = some (.int .i64 ((F a).getD 0)) := HD8.out.cell (by omega)
                have fa := HD8.out.free a
                have HG9 := Lib.hid (GK.put HK8.out HD8.out hkd (x + cc))
                have HB9 := Lib.hid (HB8.out.setCell (p := ⟨gd, a, none⟩) hgd (.int .i64 (x + cc)))
                go_wp2
                go_roundw
                case rel => exact ⟨q + 1, pt F a (x + cc), by go_num, hlq, HFN.out, HG9.out, HOB.out, HB9.out⟩
                case measure => simp [intOf]; omega
              · have HFN := Lib.hid (show (B.take (q + 1)).foldl rstp (rsk B j r) = F by rw [HFS.out, HRS.out, hFb, hFa]; exact if_neg hgt)
                clear hFa hFb
                go_upto_region 11 with fail
                have hb0 : Below W5.heap.size W5 W5.drew := below_drew (Below.refl _ _)
                refine wp_region_mixE (fun w' => Below W5.heap.size W5 w') (by kernel_rfl) ?_
                have HG6 := Lib.hid (HG5.out.below hb0)
                have HB6 := Lib.hid (HB5.out.trans (hb0.mono HB5.out.size))
                have KB6 := Lib.hid (KB5.out.below hb0)
                generalize W5.drew = W6 at hb0 HG6 HB6 KB6 ⊢
                refine wpE_take (i := 0) (oi := ⟨some 40, _, _, _, _, _⟩) (v := ?_) rfl (by decide +kernel) (by decide +kernel) (by decide +kernel) (fun _ _ _ h => h) (Or.inl ⟨by rfl, ?_⟩) hb0 ?_
                case refine_2 =>
                  intro w' hSw
                  have k0' := keepcell hSw k0
                  have k1' := keepcell hSw k1
                  have k2' := keepcell hSw k2
                  have na' := keepcell hSw na
                  have nb' := keepcell hSw nb
                  have da' := keepcell hSw da
                  have db' := keepcell hSw db
                  go_simp
                  try (with_reducible rfl)
                try simp only [Act.put, List.setIfInBounds_toArray, List.set_cons_zero, List.set_cons_succ]
                refine wpE_take (i := 1) (oi := ⟨some 41, _, _, _, _, _⟩) (v := ?_) rfl (by decide +kernel) (by decide +kernel) (by decide +kernel) (fun _ _ _ h => h) (Or.inl ⟨by rfl, ?_⟩) hb0 ?_
                case refine_2 =>
                  intro w' hSw
                  have k0' := keepcell hSw k0
                  have k1' := keepcell hSw k1
                  have k2' := keepcell hSw k2
                  have na' := keepcell hSw na
                  have nb' := keepcell hSw nb
                  have da' := keepcell hSw da
                  have db' := keepcell hSw db
                  go_simp
                  try (with_reducible rfl)
                try simp only [Act.put, List.setIfInBounds_toArray, List.set_cons_zero, List.set_cons_succ]
                refine wpE_take (i := 2) (oi := ⟨some 42, _, _, _, _, _⟩) (v := ?_) rfl (by decide +kernel) (by decide +kernel) (by decide +kernel) (fun _ _ _ h => h) (Or.inl ⟨by rfl, ?_⟩) hb0 ?_
                case refine_2 =>
                  intro w' hSw
                  have k0' := keepcell hSw k0
                  have k1' := keepcell hSw k1
                  have k2' := keepcell hSw k2
                  have na' := keepcell hSw na
                  have nb' := keepcell hSw nb
                  have da' := keepcell hSw da
                  have db' := keepcell hSw db
                  go_simp
                  try (with_reducible rfl)
                try simp only [Act.put, List.setIfInBounds_toArray, List.set_cons_zero, List.set_cons_succ]
                refine wpE_take (i := 3) (oi := ⟨some 43, _, _, _, _, _⟩) (v := ?_) rfl (by decide +kernel) (by decide +kernel) (by decide +kernel) (fun _ _ _ h => h) (Or.inl ⟨by rfl, ?_⟩) hb0 ?_
                case refine_2 =>
                  intro w' hSw
                  have k0' := keepcell hSw k0
                  have k1' := keepcell hSw k1
                  have k2' := keepcell hSw k2
                  have na' := keepcell hSw na
                  have nb' := keepcell hSw nb
                  have da' := keepcell hSw da
                  have db' := keepcell hSw db
                  go_simp
                  try (with_reducible rfl)
                try simp only [Act.put, List.setIfInBounds_toArray, List.set_cons_zero, List.set_cons_succ]
                refine wpE_take (i := 4) (oi := ⟨some 44, _, _, _, _, _⟩) (v := ?_) rfl (by decide +kernel) (by decide +kernel) (by decide +kernel) (fun _ _ _ h => h) (Or.inl ⟨by rfl, ?_⟩) hb0 ?_
                case refine_2 =>
                  intro w' hSw
                  have k0' := keepcell hSw k0
                  have k1' := keepcell hSw k1
                  have k2' := keepcell hSw k2
                  have na' := keepcell hSw na
                  have nb' := keepcell hSw nb
                  have da' := keepcell hSw da
                  have db' := keepcell hSw db
                  go_simp
                  try (with_reducible rfl)
                try simp only [Act.put, List.setIfInBounds_toArray, List.set_cons_zero, List.set_cons_succ]
                refine wpE_take (i := 5) (oi := ⟨some 45, _, _, _, _, _⟩) (v := .bool true) rfl (by decide +kernel) (by decide +kernel) (by decide +kernel) (fun _ _ _ h => h) (Or.inl ⟨by rfl, ?_⟩) hb0 ?_
                case refine_1 =>
                  intro w' hSw
                  go_simp
                  try (with_reducible rfl)
                try simp only [Act.put, List.setIfInBounds_toArray, List.set_cons_zero, List.set_cons_succ]
                refine wpE_take (i := 6) (oi := ⟨some 46, _, _, _, _, _⟩) (v := ?_) rfl (by decide +kernel) (by decide +kernel) (by decide +kernel) (fun _ _ _ h => h) (Or.inl ⟨by rfl, ?_⟩) hb0 ?_
                case refine_2 =>
                  intro w' hSw
                  have k0' := keepcell hSw k0
                  have k1' := keepcell hSw k1
                  have k2' := keepcell hSw k2
                  have na' := keepcell hSw na
                  have nb' := keepcell hSw nb
                  have da' := keepcell hSw da
                  have db' := keepcell hSw db
                  go_simp
                  try (with_reducible rfl)
                try simp only [Act.put, List.setIfInBounds_toArray, List.set_cons_zero, List.set_cons_succ]
                refine wpE_take (i := 7) (oi := ⟨some 47, _, _, _, _, _⟩) (v := ?_) rfl (by decide +kernel) (by decide +kernel) (by decide +kernel) (fun _ _ _ h => h) (Or.inl ⟨by rfl, ?_⟩) hb0 ?_
                case refine_2 =>
                  intro w' hSw
                  have k0' := keepcell hSw k0
                  have k1' := keepcell hSw k1
                  have k2' := keepcell hSw k2
                  have na' := keepcell hSw na
                  have nb' := keepcell hSw nb
                  have da' := keepcell hSw da
                  have db' := keepcell hSw db
                  go_simp
                  try (with_reducible rfl)
                try simp only [Act.put, List.setIfInBounds_toArray, List.set_cons_zero, List.set_cons_succ]
                refine wpE_take (i := 8) (oi := ⟨some 48, _, _, _, _, _⟩) (v := ?_) rfl (by decide +kernel) (by decide +kernel) (by decide +kernel) (fun _ _ _ h => h) (Or.inl ⟨by rfl, ?_⟩) hb0 ?_
                case refine_2 =>
                  intro w' hSw
                  have k0' := keepcell hSw k0
                  have k1' := keepcell hSw k1
                  have k2' := keepcell hSw k2
                  have na' := keepcell hSw na
                  have nb' := keepcell hSw nb
                  have da' := keepcell hSw da
                  have db' := keepcell hSw db
                  go_simp
                  try (with_reducible rfl)
                try simp only [Act.put, List.setIfInBounds_toArray, List.set_cons_zero, List.set_cons_succ]
                refine wpE_take (i := 9) (oi := ⟨some 49, _, _, _, _, _⟩) (v := ?_) rfl (by decide +kernel) (by decide +kernel) (by decide +kernel) (fun _ _ _ h => h) (Or.inl ⟨by rfl, ?_⟩) hb0 ?_
                case refine_2 =>
                  intro w' hSw
                  have k0' := keepcell hSw k0
                  have k1' := keepcell hSw k1
                  have k2' := keepcell hSw k2
                  have na' := keepcell hSw na
                  have nb' := keepcell hSw nb
                  have da' := keepcell hSw da
                  have db' := keepcell hSw db
                  go_simp
                  try (with_reducible rfl)
                try simp only [Act.put, List.setIfInBounds_toArray, List.set_cons_zero, List.set_cons_succ]
                refine wpE_take (i := 10) (oi := ⟨some 50, _, _, _, _, _⟩) (v := ?_) rfl (by decide +kernel) (by decide +kernel) (by decide +kernel) (fun _ _ _ h => h) (Or.inl ⟨by rfl, ?_⟩) hb0 ?_
                case refine_2 =>
                  intro w' hSw
                  have k0' := keepcell hSw k0
                  have k1' := keepcell hSw k1
                  have k2' := keepcell hSw k2
                  have na' := keepcell hSw na
                  have nb' := keepcell hSw nb
                  have da' := keepcell hSw da
                  have db' := keepcell hSw db
                  go_simp
                  try (with_reducible rfl)
                try simp only [Act.put, List.setIfInBounds_toArray, List.set_cons_zero, List.set_cons_succ]
                refine wpE_take (i := 11) (oi := ⟨some 51, _, _, _, _, _⟩) (v := ?_) rfl (by decide +kernel) (by decide +kernel) (by decide +kernel) (fun _ _ _ h => h) (Or.inl ⟨by rfl, ?_⟩) hb0 ?_
                case refine_2 =>
                  intro w' hSw
                  have k0' := keepcell hSw k0
                  have k1' := keepcell hSw k1
                  have k2' := keepcell hSw k2
                  have na' := keepcell hSw na
                  have nb' := keepcell hSw nb
                  have da' := keepcell hSw da
                  have db' := keepcell hSw db
                  go_simp
                  try (with_reducible rfl)
                try simp only [Act.put, List.setIfInBounds_toArray, List.set_cons_zero, List.set_cons_succ]
                refine wpE_take (i := 12) (oi := ⟨some 52, _, _, _, _, _⟩) (v := .bool false) rfl (by decide +kernel) (by decide +kernel) (by decide +kernel) (fun _ _ _ h => h) (Or.inl ⟨by rfl, ?_⟩) hb0 ?_
                case refine_1 =>
                  intro w' hSw
                  go_simp
                  try (with_reducible rfl)
                try simp only [Act.put, List.setIfInBounds_toArray, List.set_cons_zero, List.set_cons_succ]
                refine wpE_take (i := 13) (oi := ⟨some 53, _, _, _, _, _⟩) (v := ?_) rfl (by decide +kernel) (by decide +kernel) (by decide +kernel) (fun _ _ _ h => h) (Or.inl ⟨by rfl, ?_⟩) hb0 ?_
                case refine_2 =>
                  intro w' hSw
                  have k0' := keepcell hSw k0
                  have k1' := keepcell hSw k1
                  have k2' := keepcell hSw k2
                  have na' := keepcell hSw na
                  have nb' := keepcell hSw nb
                  have da' := keepcell hSw da
                  have db' := keepcell hSw db
                  go_simp
                  try (with_reducible rfl)
                try simp only [Act.put, List.setIfInBounds_toArray, List.set_cons_zero, List.set_cons_succ]
                refine wpE_take (i := 14) (oi := ⟨some 54, _, _, _, _, _⟩) (v := ?_) rfl (by decide +kernel) (by decide +kernel) (by decide +kernel) (fun _ _ _ h => h) (Or.inl ⟨by rfl, ?_⟩) hb0 ?_
                case refine_2 =>
                  intro w' hSw
                  have k0' := keepcell hSw k0
                  have k1' := keepcell hSw k1
                  have k2' := keepcell hSw k2
                  have na' := keepcell hSw na
                  have nb' := keepcell hSw nb
                  have da' := keepcell hSw da
                  have db' := keepcell hSw db
                  go_simp
                  try (with_reducible rfl)
                try simp only [Act.put, List.setIfInBounds_toArray, List.set_cons_zero, List.set_cons_succ]
                refine wpE_take (i := 15) (oi := ⟨some 55, _, _, _, _, _⟩) (v := ?_) rfl (by decide +kernel) (by decide +kernel) (by decide +kernel) (fun _ _ _ h => h) (Or.inl ⟨by rfl, ?_⟩) hb0 ?_
                case refine_2 =>
                  intro w' hSw
                  have k0' := keepcell hSw k0
                  have k1' := keepcell hSw k1
                  have k2' := keepcell hSw k2
                  have na' := keepcell hSw na
                  have nb' := keepcell hSw nb
                  have da' := keepcell hSw da
                  have db' := keepcell hSw db
                  go_simp
                  try (with_reducible rfl)
                try simp only [Act.put, List.setIfInBounds_toArray, List.set_cons_zero, List.set_cons_succ]
                refine wpE_take (i := 16) (oi := ⟨some 56, _, _, _, _, _⟩) (v := ?_) rfl (by decide +kernel) (by decide +kernel) (by decide +kernel) (fun _ _ _ h => h) (Or.inl ⟨by rfl, ?_⟩) hb0 ?_
                case refine_2 =>
                  intro w' hSw
                  have k0' := keepcell hSw k0
                  have k1' := keepcell hSw k1
                  have k2' := keepcell hSw k2
                  have na' := keepcell hSw na
                  have nb' := keepcell hSw nb
                  have da' := keepcell hSw da
                  have db' := keepcell hSw db
                  go_simp
                  try (with_reducible rfl)
                try simp only [Act.put, List.setIfInBounds_toArray, List.set_cons_zero, List.set_cons_succ]
                refine wpE_take (i := 17) (oi := ⟨some 57, _, _, _, _, _⟩) (v := ?_) rfl (by decide +kernel) (by decide +kernel) (by decide +kernel) (fun _ _ _ h => h) (Or.inl ⟨by rfl, ?_⟩) hb0 ?_
                case refine_2 =>
                  intro w' hSw
                  have k0' := keepcell hSw k0
                  have k1' := keepcell hSw k1
                  have k2' := keepcell hSw k2
                  have na' := keepcell hSw na
                  have nb' := keepcell hSw nb
                  have da' := keepcell hSw da
                  have db' := keepcell hSw db
                  go_simp
                  try (with_reducible rfl)
                try simp only [Act.put, List.setIfInBounds_toArray, List.set_cons_zero, List.set_cons_succ]
                refine wpE_take (i := 18) (oi := ⟨some 58, _, _, _, _, _⟩) (v := ?_) rfl (by decide +kernel) (by decide +kernel) (by decide +kernel) (fun _ _ _ h => h) (Or.inl ⟨by rfl, ?_⟩) hb0 ?_
                case refine_2 =>
                  intro w' hSw
                  have k0' := keepcell hSw k0
                  have k1' := keepcell hSw k1
                  have k2' := keepcell hSw k2
                  have na' := keepcell hSw na
                  have nb' := keepcell hSw nb
                  have da' := keepcell hSw da
                  have db' := keepcell hSw db
                  go_simp
                  try (with_reducible rfl)
                try simp only [Act.put, List.setIfInBounds_toArray, List.set_cons_zero, List.set_cons_succ]
                refine wpE_take (i := 19) (oi := ⟨some 59, _, _, _, _, _⟩) (v := ?_) rfl (by decide +kernel) (by decide +kernel) (by decide +kernel) (fun _ _ _ h => h) (Or.inl ⟨by rfl, ?_⟩) hb0 ?_
                case refine_2 =>
                  intro w' hSw
                  have k0' := keepcell hSw k0
                  have k1' := keepcell hSw k1
                  have k2' := keepcell hSw k2
                  have na' := keepcell hSw na
                  have nb' := keepcell hSw nb
                  have da' := keepcell hSw da
                  have db' := keepcell hSw db
                  go_simp
                  try (with_reducible rfl)
                try simp only [Act.put, List.setIfInBounds_toArray, List.set_cons_zero, List.set_cons_succ]
                refine wpE_take (i := 20) (oi := ⟨some 60, _, _, _, _, _⟩) (v := ?_) rfl (by decide +kernel) (by decide +kernel) (by decide +kernel) (fun _ _ _ h => h) (Or.inl ⟨by rfl, ?_⟩) hb0 ?_
                case refine_2 =>
                  intro w' hSw
                  have k0' := keepcell hSw k0
                  have k1' := keepcell hSw k1
                  have k2' := keepcell hSw k2
                  have na' := keepcell hSw na
                  have nb' := keepcell hSw nb
                  have da' := keepcell hSw da
                  have db' := keepcell hSw db
                  go_simp
                  try (with_reducible rfl)
                try simp only [Act.put, List.setIfInBounds_toArray, List.set_cons_zero, List.set_cons_succ]
                refine wpE_take (i := 21) (oi := ⟨some 61, _, _, _, _, _⟩) (v := ?_) rfl (by decide +kernel) (by decide +kernel) (by decide +kernel) (fun _ _ _ h => h) (Or.inl ⟨by rfl, ?_⟩) hb0 ?_
                case refine_2 =>
                  intro w' hSw
                  have k0' := keepcell hSw k0
                  have k1' := keepcell hSw k1
                  have k2' := keepcell hSw k2
                  have na' := keepcell hSw na
                  have nb' := keepcell hSw nb
                  have da' := keepcell hSw da
                  have db' := keepcell hSw db
                  go_simp
                  try (with_reducible rfl)
                try simp only [Act.put, List.setIfInBounds_toArray, List.set_cons_zero, List.set_cons_succ]
                refine wpE_take (i := 22) (oi := ⟨some 62, _, _, _, _, _⟩) (v := ?_) rfl (by decide +kernel) (by decide +kernel) (by decide +kernel) (fun _ _ _ h => h) (Or.inl ⟨by rfl, ?_⟩) hb0 ?_
                case refine_2 =>
                  intro w' hSw
                  have k0' := keepcell hSw k0
                  have k1' := keepcell hSw k1
                  have k2' := keepcell hSw k2
                  have na' := keepcell hSw na
                  have nb' := keepcell hSw nb
                  have da' := keepcell hSw da
                  have db' := keepcell hSw db
                  go_simp
                  try (with_reducible rfl)
                try simp only [Act.put, List.setIfInBounds_toArray, List.set_cons_zero, List.set_cons_succ]
                refine wpE_take (i := 23) (oi := ⟨some 63, _, _, _, _, _⟩) (v := ?_) rfl (by decide +kernel) (by decide +kernel) (by decide +kernel) (fun _ _ _ h => h) (Or.inl ⟨by rfl, ?_⟩) hb0 ?_
                case refine_2 =>
                  intro w' hSw
                  have k0' := keepcell hSw k0
                  have k1' := keepcell hSw k1
                  have k2' := keepcell hSw k2
                  have na' := keepcell hSw na
                  have nb' := keepcell hSw nb
                  have da' := keepcell hSw da
                  have db' := keepcell hSw db
                  go_simp
                  try (with_reducible rfl)
                try simp only [Act.put, List.setIfInBounds_toArray, List.set_cons_zero, List.set_cons_succ]
                refine wpE_take (i := 24) (oi := ⟨some 64, _, _, _, _, _⟩) (v := ?_) rfl (by decide +kernel) (by decide +kernel) (by decide +kernel) (fun _ _ _ h => h) (Or.inl ⟨by rfl, ?_⟩) hb0 ?_
                case refine_2 =>
                  intro w' hSw
                  have k0' := keepcell hSw k0
                  have k1' := keepcell hSw k1
                  have k2' := keepcell hSw k2
                  have na' := keepcell hSw na
                  have nb' := keepcell hSw nb
                  have da' := keepcell hSw da
                  have db' := keepcell hSw db
                  go_simp
                  try (with_reducible rfl)
                try simp only [Act.put, List.setIfInBounds_toArray, List.set_cons_zero, List.set_cons_succ]
                refine wpE_take (i := 25) (oi := ⟨some 65, _, _, _, _, _⟩) (v := ?_) rfl (by decide +kernel) (by decide +kernel) (by decide +kernel) (fun _ _ _ h => h) (Or.inl ⟨by rfl, ?_⟩) hb0 ?_
                case refine_2 =>
                  intro w' hSw
                  have k0' := keepcell hSw k0
                  have k1' := keepcell hSw k1
                  have k2' := keepcell hSw k2
                  have na' := keepcell hSw na
                  have nb' := keepcell hSw nb
                  have da' := keepcell hSw da
                  have db' := keepcell hSw db
                  go_simp
                  try (with_reducible rfl)
                try simp only [Act.put, List.setIfInBounds_toArray, List.set_cons_zero, List.set_cons_succ]
                refine wpE_take (i := 26) (oi := ⟨some 66, _, _, _, _, _⟩) (v := .bool false) rfl (by decide +kernel) (by decide +kernel) (by decide +kernel) (fun _ _ _ h => h) (Or.inl ⟨by rfl, ?_⟩) hb0 ?_
                case refine_1 =>
                  intro w' hSw
                  go_simp
                  try (with_reducible rfl)
                try simp only [Act.put, List.setIfInBounds_toArray, List.set_cons_zero, List.set_cons_succ]
                refine wpE_take (i := 27) (oi := ⟨some 67, _, _, _, _, _⟩) (v := .bool false) rfl (by decide +kernel) (by decide +kernel) (by decide +kernel) (fun _ _ _ h => h) (Or.inl ⟨by rfl, ?_⟩) hb0 ?_
                case refine_1 =>
                  intro w' hSw
                  go_simp
                  try (with_reducible rfl)
                try simp only [Act.put, List.setIfInBounds_toArray, List.set_cons_zero, List.set_cons_succ]
                refine wpE_take (i := 28) (oi := ⟨some 68, _, _, _, _, _⟩) (v := .bool false) rfl (by decide +kernel) (by decide +kernel) (by decide +kernel) (fun _ _ _ h => h) (Or.inl ⟨by rfl, ?_⟩) hb0 ?_
                case refine_1 =>
                  intro w' hSw
                  go_simp
                  try (with_reducible rfl)
                try simp only [Act.put, List.setIfInBounds_toArray, List.set_cons_zero, List.set_cons_succ]
                refine wpE_done (by decide +kernel) ?_
                clear k0 k1 k2 na nb da db hb0 HG5 HB5 KB5
                go_wp2
                go_roundw
                case rel => exact ⟨q + 1, F, by go_num, hlq, HFN.out, HG6.out, HO4.out.mono (by omega), HB6.out⟩
                case measure => simp [intOf]; omega
        · obtain rfl : q = m := by omega
          have hlq2 : ¬ ((q : Int) < (q : Int)) := by omega
          have HNX := Lib.hid (show rsk B j (r + 1) = F by
            show B.foldl rstp (rsk B j r) = F
            have := HF.out
            rw [List.take_of_length_le (by omega)] at this
            exact this)
          have HON := Lib.hid (show OB (rsk B j (r + 1)) ((r + 1) * q) by rw [HNX.out, Nat.succ_mul]; exact HO4.out)
          have hwk : IntKind.i64.wrap ((r : Int) + 1) = (r : Int) + 1 := IntWalk.i64_in _ (by omega)
          go_wp2
          go_roundw
          case rel => exact ⟨r + 1, by go_num, by omega, by rw [HNX.out]; exact HG4.out, HON.out, HB4.out⟩
          case measure => simp [intOf]; omega
    · obtain rfl : r = n + 2 := by omega
      have hri : ¬ (((n + 2 : Nat) : Int) ≤ (n : Int) + 1) := by omega
      have hii : (i : Int) < (n : Int) + 1 := by omega
      have hi0 : (0 : Int) ≤ (i : Int) := by omega
      go_upto_region 14 with fail
      have hb0 : Below W.heap.size W W.drew := below_drew (Below.refl _ _)
      have ni : W.cell? ⟨gk, i, none⟩ = some (.bool o2) := by have := HG.out.kn.cell (j := i) (by omega); rw [HGV.out, HO2.out] at this; exact this
      have di : W.cell? ⟨gd, i, none⟩ = some (.int .i64 o1) := by have := HG.out.dd.cell (j := i) (by omega); rw [HGV.out, HO1.out] at this; exact this
      refine wp_region_mixE (fun w' => Below W.heap.size W w') (by kernel_rfl) ?_
      have HB6 := Lib.hid (HB.out.trans (hb0.mono HB.out.size))
      generalize W.drew = W6 at hb0 HB6 ⊢
      refine wpE_take (i := 0) (oi := ⟨some 85, _, _, _, _, _⟩) (v := ?_) rfl (by decide +kernel) (by decide +kernel) (by decide +kernel) (fun _ _ _ h => h) (Or.inl ⟨by rfl, ?_⟩) hb0 ?_
      case refine_2 =>
        intro w' hSw
        have ni' := keepcell hSw ni
        have di' := keepcell hSw di
        go_simp
        try (with_reducible rfl)
      try simp only [Act.put, List.setIfInBounds_toArray, List.set_cons_zero, List.set_cons_succ]
      refine wpE_take (i := 1) (oi := ⟨some 86, _, _, _, _, _⟩) (v := ?_) rfl (by decide +kernel) (by decide +kernel) (by decide +kernel) (fun _ _ _ h => h) (Or.inl ⟨by rfl, ?_⟩) hb0 ?_
      case refine_2 =>
        intro w' hSw
        have ni' := keepcell hSw ni
        have di' := keepcell hSw di
        go_simp
        try (with_reducible rfl)
      try simp only [Act.put, List.setIfInBounds_toArray, List.set_cons_zero, List.set_cons_succ]
      refine wpE_take (i := 2) (oi := ⟨some 87, _, _, _, _, _⟩) (v := ?_) rfl (by decide +kernel) (by decide +kernel) (by decide +kernel) (fun _ _ _ h => h) (Or.inl ⟨by rfl, ?_⟩) hb0 ?_
      case refine_2 =>
        intro w' hSw
        have ni' := keepcell hSw ni
        have di' := keepcell hSw di
        go_simp
        try (with_reducible rfl)
      try simp only [Act.put, List.setIfInBounds_toArray, List.set_cons_zero, List.set_cons_succ]
      refine wpE_take (i := 3) (oi := ⟨some 88, _, _, _, _, _⟩) (v := ?_) rfl (by decide +kernel) (by decide +kernel) (by decide +kernel) (fun _ _ _ h => h) (Or.inl ⟨by rfl, ?_⟩) hb0 ?_
      case refine_2 =>
        intro w' hSw
        have ni' := keepcell hSw ni
        have di' := keepcell hSw di
        go_simp
        try (with_reducible rfl)
      try simp only [Act.put, List.setIfInBounds_toArray, List.set_cons_zero, List.set_cons_succ]
      refine wpE_take (i := 4) (oi := ⟨some 89, _, _, _, _, _⟩) (v := ?_) rfl (by decide +kernel) (by decide +kernel) (by decide +kernel) (fun _ _ _ h => h) (Or.inl ⟨by rfl, ?_⟩) hb0 ?_
      case refine_2 =>
        intro w' hSw
        have ni' := keepcell hSw ni
        have di' := keepcell hSw di
        go_simp
        try (with_reducible rfl)
      try simp only [Act.put, List.setIfInBounds_toArray, List.set_cons_zero, List.set_cons_succ]
      refine wpE_take (i := 5) (oi := ⟨some 90, _, _, _, _, _⟩) (v := ?_) rfl (by decide +kernel) (by decide +kernel) (by decide +kernel) (fun _ _ _ h => h) (Or.inl ⟨by rfl, ?_⟩) hb0 ?_
      case refine_2 =>
        intro w' hSw
        have ni' := keepcell hSw ni
        have di' := keepcell hSw di
        go_simp
        try (with_reducible rfl)
      try simp only [Act.put, List.setIfInBounds_toArray, List.set_cons_zero, List.set_cons_succ]
      refine wpE_take (i := 6) (oi := ⟨some 91, _, _, _, _, _⟩) (v := ?_) rfl (by decide +kernel) (by decide +kernel) (by decide +kernel) (fun _ _ _ h => h) (Or.inl ⟨by rfl, ?_⟩) hb0 ?_
      case refine_2 =>
        intro w' hSw
        have ni' := keepcell hSw ni
        have di' := keepcell hSw di
        go_simp
        try (with_reducible rfl)
      try simp only [Act.put, List.setIfInBounds_toArray, List.set_cons_zero, List.set_cons_succ]
      refine wpE_take (i := 7) (oi := ⟨some 92, _, _, _, _, _⟩) (v := ?_) rfl (by decide +kernel) (by decide +kernel) (by decide +kernel) (fun _ _ _ h => h) (Or.inl ⟨by rfl, ?_⟩) hb0 ?_
      case refine_2 =>
        intro w' hSw
        have ni' := keepcell hSw ni
        have di' := keepcell hSw di
        go_simp
        try (with_reducible rfl)
      try simp only [Act.put, List.setIfInBounds_toArray, List.set_cons_zero, List.set_cons_succ]
      refine wpE_take (i := 8) (oi := ⟨some 8, _, _, _, _, _⟩) (v := ?_) rfl (by decide +kernel) (by decide +kernel) (by decide +kernel) (fun _ _ _ h => h) (Or.inl ⟨by rfl, ?_⟩) hb0 ?_
      case refine_2 =>
        intro w' hSw
        go_simp
        try (with_reducible rfl)
      try simp only [Act.put, List.setIfInBounds_toArray, List.set_cons_zero, List.set_cons_succ]
      refine wpE_take (i := 9) (oi := ⟨some 9, _, _, _, _, _⟩) (v := ?_) rfl (by decide +kernel) (by decide +kernel) (by decide +kernel) (fun _ _ _ h => h) (Or.inl ⟨by rfl, ?_⟩) hb0 ?_
      case refine_2 =>
        intro w' hSw
        go_simp
        try (with_reducible rfl)
      try simp only [Act.put, List.setIfInBounds_toArray, List.set_cons_zero, List.set_cons_succ]
      refine wpE_done (by decide +kernel) ?_
      clear ni di hb0
      go_wp2
      go_ret2
      exact ⟨rfl, HB6.out⟩
end Go.Proofs.Ytbmofagaammgmaa
