/- The systems of constraints. -/
import Derived.Test.YthfolccofjaknaaCro
import Derived.Test.YthfolccofjaknaaCof
import Derived.Test.YthfolccofjaknaaBrs
namespace Go.Proofs.Ythfolccofjaknaa
open Go.ChangeShapes Go.WideShapes Go.ChangeAt Go.RowKit Go.ChangeMaps

/-- Whether every constraint is valid, and then their inequalities. -/
def SyZ (Q : List Ct) (m : Int) : List QI := if (Q.all fun x => okC x.C m) = true then Q.flatMap (fun x => ofM x m.toNat) else []
def SyP (w : World) (Z : List QI) (K : Nat) (e : Ending) (w' : World) : Prop := ∃ (A : Option Addr) (c : Nat) (R : List Iq), e = .returned (.slice A R.length c) ∧ At w' A R.length 3 (R.flatMap Iq.cells) ∧ (∀ q ∈ R, Gd w' q K) ∧ R.map Iq.m = Z ∧ Below w.heap.size w w'
theorem SyP.nil {w w' : World} {K : Nat} (h : Below w.heap.size w w') : SyP w [] K (.returned (.slice none 0 0)) w' := ⟨none, 0, [], rfl, ⟨rfl, fun h => absurd h (Nat.lt_irrefl _)⟩, fun q hq => (by cases hq), rfl, h⟩
theorem own44_below {w w' : World} {B n : Nat} {v : Value} {xs : List Value} (h : w.ownsRow B 44 3 v n xs) (hb : Below w.heap.size w w') : w'.ownsRow B 44 3 v n xs :=
  ⟨h.1, h.2.imp id fun ⟨g, cap, cur, e, hg, hh, r⟩ => ⟨g, cap, cur, e, hg, (hb.block g (Array.getElem?_eq_some_iff.1 hh).1).trans hh, r⟩⟩
theorem ofM_len (x : Ct) (m : Nat) : (ofM x m).length ≤ 2 := by
  unfold ofM
  split <;> simp
/-- The first k constraints are valid, and v holds their inequalities. -/
structure SY (w0 wr : World) (v : Value) (R : List Iq) (K k : Nat) (Q : List Ct) (m : Int) : Prop where
  own : wr.ownsRow w0.heap.size 44 3 v R.length (R.flatMap Iq.cells)
  gd : ∀ q ∈ R, Gd wr q K
  z : R.map Iq.m = (Q.take k).flatMap (fun x => ofM x m.toNat)
  good : ((Q.take k).all fun x => okC x.C m) = true
  len : R.length ≤ 2 * k
  below : Below w0.heap.size w0 wr
theorem SY.keep {w0 wr w' : World} {v : Value} {R : List Iq} {K k : Nat} {Q : List Ct} {m : Int} (h : SY w0 wr v R K k Q m) (hb : Below wr.heap.size wr w') : SY w0 w' v R K k Q m :=
  ⟨own44_below h.own hb, fun q hq => (h.gd q hq).mono (N44.of_below hb), h.z, h.good, h.len, h.below.trans (hb.mono h.below.size)⟩
theorem SY.app {w0 wr w' : World} {v v' : Value} {R R' : List Iq} {K k : Nat} {Q : List Ct} {m : Int} (h : SY w0 wr v R K k Q m) (hk : k < Q.length) (ho : w'.ownsRow w0.heap.size 44 3 v' (R.length + R'.length) (R.flatMap Iq.cells ++ R'.flatMap Iq.cells)) (hg : wr.grownBy w' v.ownBlock) (hR : ∀ q ∈ R', Gd wr q K) (hz : R'.map Iq.m = ofM Q[k] m.toNat) (hok : okC Q[k].C m = true) : SY w0 w' v' (R ++ R') K (k + 1) Q m := by
  have hn := N44.of_grown h.own hg
  refine ⟨by rw [List.length_append, List.flatMap_append]; exact ho, fun q hq => ?_, ?_, ?_, ?_, h.below.grown hg h.below.size (fun j hj => (h.own.lt j hj).1)⟩
  · rcases List.mem_append.1 hq with hq | hq
    · exact (h.gd q hq).mono hn
    · exact (hR q hq).mono hn
  · rw [List.map_append, h.z, hz, List.take_succ_eq_append_getElem hk, List.flatMap_append]
    simp
  · rw [List.take_succ_eq_append_getElem hk, List.all_append, h.good]
    simpa using hok
  · have h1 := congrArg List.length hz
    have h2 := ofM_len Q[k] m.toNat
    have h3 := h.len
    rw [List.length_map] at h1
    rw [List.length_append]
    omega
def AppK (w : World) (Q : List Ct) (m : Int) (k : Nat) (x : Ct) (K : Nat) : Prop := ∀ (wr w' : World) (v v' : Value) (R R' : List Iq), SY w wr v R K k Q m → w'.ownsRow w.heap.size 44 3 v' (R.length + R'.length) (R.flatMap Iq.cells ++ R'.flatMap Iq.cells) → wr.grownBy w' v.ownBlock → (∀ q ∈ R', Gd wr q K) → R'.map Iq.m = ofM x m.toNat → okC x.C m = true → SY w w' v' (R ++ R') K (k + 1) Q m
theorem SY.appK (w : World) {Q : List Ct} {k : Nat} (hk : k < Q.length) (m : Int) (K : Nat) : AppK w Q m k Q[k] K := fun _ _ _ _ _ _ h h1 h2 h3 h4 h5 => h.app hk h1 h2 h3 h4 h5
theorem SY.fin {w0 wr : World} {v : Value} {R : List Iq} {K : Nat} {Q : List Ct} {m : Int} (h : SY w0 wr v R K Q.length Q m) : ∃ A c, v = .slice A R.length c ∧ SyP w0 (SyZ Q m) K (.returned (.slice A R.length c)) wr := by
  obtain ⟨A, c, e, hat, -, -⟩ := At.of_own h.own
  refine ⟨A, c, e, A, c, R, rfl, hat, h.gd, ?_, h.below⟩
  have h1 := h.good
  have h2 := h.z
  rw [List.take_length] at h1 h2
  unfold SyZ
  rw [if_pos h1, h2]
theorem SyZ.bad {Q : List Ct} {m : Int} {k : Nat} (hk : k < Q.length) (h : okC Q[k].C m = false) : SyZ Q m = [] := by
  unfold SyZ
  rw [if_neg]
  intro hc
  have := List.all_eq_true.1 hc _ (List.getElem_mem hk)
  rw [h] at this
  cases this
theorem okC_pos {C : List (Int × Int)} {m : Int} (h : okC C m = true) : 0 ≤ m := by
  unfold okC at h
  simp only [Bool.and_eq_true, decide_eq_true_eq] at h
  exact h.2.1
set_option maxRecDepth 100000 in
set_option maxHeartbeats 8000000 in
theorem System_any (w : World) (A : Option Addr) (n c : Nat) (Q : List Ct) (m : Int) (hA : At w A n 3 (Q.flatMap Ct.cells)) (hQ : ∀ x ∈ Q, x.ok w) (hn : n ≤ 8) (hm : i64b m) : Calls Try.prog 15 #[.slice A n c, .int .i64 m] w (SyP w (SyZ Q m) 2) := by
  obtain ⟨i0, hi, hz0, hz1, hz2⟩ := info_parts i44
  have qn : ∀ (w : World) (a : Option Addr) (n c n' c' : Nat), (binOp .eql 30 (.slice a n c) (.slice none n' c')).run Try.prog w = .ok (.bool a.isNone) w := fun w a n c n' c' => Lib.run_eql_slice_nil w _ _ a n c n' c' Try.underlying30
  have HL := Lib.hid (show Q.length = n by have := hA.1; rw [flat_len Ct.cells 3 (fun _ => rfl)] at this; omega)
  obtain ⟨Z, hZ⟩ : ∃ Z, SyZ Q m = Z := ⟨_, rfl⟩
  rw [hZ]
  have HZ := Lib.hid hZ
  have HA := Lib.hid hA
  have HQ := Lib.hid hQ
  have HM := Lib.hid hm
  clear hA hQ hZ hm
  go_enter Try.func15, Try.ntmps15
  go_wp2
  go_loopw [5, 11] (fun s5 s11 wr => ∃ (k : Nat) (v : Value) (R : List Iq), s11 = .int .i64 (k : Int) ∧ v = s5 ∧ k ≤ n ∧ SY w wr v R 2 k Q m) (fun _ s11 _ => n - (intOf s11).toNat)
  case atStart => exact ⟨0, _, [], rfl, rfl, Nat.zero_le _, ⟨World.ownsRow_nil _ _ _ _, fun q hq => (by cases hq), rfl, rfl, Nat.zero_le _, Below.refl _ _⟩⟩
  case round =>
    obtain ⟨k, v, R, rfl, rfl, hkn, hsy⟩ := hrel
    generalize wr = X0 at *
    have HSY := Lib.hid hsy
    clear hsy
    by_cases hlt : k < n
    · have hki : (k : Int) < (n : Int) := by omega
      have hk0 : (0 : Int) ≤ (k : Int) := by omega
      have hkQ : k < Q.length := by rw [HL.out]; exact hlt
      obtain ⟨bA, off, eA, -, hc⟩ := at3 (fun _ => rfl) HA.out (show 0 < n by omega)
      obtain ⟨d0, d1, d2⟩ := hc X0 HSY.out.below k hkQ _ _ _ rfl
      have HXO := Lib.hid (HQ.out _ (List.getElem_mem hkQ))
      have HBAD := Lib.hid (show okC Q[k].C m = false → Z = [] from fun h => by rw [← HZ.out]; exact SyZ.bad hkQ h)
      have HAPP := Lib.hid (SY.appK w hkQ m 2)
      clear hc
      generalize Q[k] = x at *
      obtain ⟨ok, hok⟩ : ∃ o, okC x.C m = o := ⟨_, rfl⟩
      rw [hok] at HBAD
      have HOK := Lib.hid hok
      rw [eA]
      obtain ⟨k7, hk7⟩ : ∃ k7, k7 = X0.heap.size := ⟨_, rfl⟩
      obtain ⟨X1, hX1⟩ : ∃ X1, X1 = X0.alloc (.cells #[.int .i64 x.k, .slice x.A x.n x.c, .bool x.e] 28) := ⟨_, rfl⟩
      have hb1 : Below X0.heap.size X0 X1 := by rw [hX1]; exact (Below.refl _ _).alloc (Nat.le_refl _) _
      have K7 := Lib.hid (show Blk X1 k7 28 #[.int .i64 x.k, .slice x.A x.n x.c, .bool x.e] by rw [hX1]; exact Blk.new_ hk7 rfl)
      have HSY1 := Lib.hid (HSY.out.keep hb1)
      have HXO1 := Lib.hid (HXO.out.below HSY1.out.below)
      clear hb1
      go_upto_region 5 with fail
      rw [← hk7, ← hX1]
      clear hk7 hX1 d0 d1 d2
      have d0 : X1.cell? ⟨k7, 0, none⟩ = some (.int .i64 x.k) := K7.out.cell 0
      have d1 : X1.cell? ⟨k7, 1, none⟩ = some (.slice x.A x.n x.c) := K7.out.cell 1
      have d2 : X1.cell? ⟨k7, 2, none⟩ = some (.bool x.e) := K7.out.cell 2
      cases ok with
      | false =>
        have CO := Lib.hid (Of13_bad X1 x m HXO1.out HM.out hok)
        unfold Ct.val at CO
        clear hok
        go_wp2_with fail
        clear d0 d1 d2
        refine CO.out.mono ?_
        rintro e2 w2 ⟨rfl, hb2⟩
        have HB2 := Lib.hid (HSY1.out.below.trans (hb2.mono HSY1.out.below.size))
        clear hb2 CO
        go_wp2
        go_ret
        rw [HBAD.out (by first | rfl | trivial)]
        exact SyP.nil HB2.out
      | true =>
        have CO := Lib.hid (Of13_ok X1 x m.toNat HXO1.out (by rw [Int.toNat_of_nonneg (okC_pos hok)]; exact hok))
        rw [Int.toNat_of_nonneg (okC_pos hok)] at CO
        unfold Ct.val at CO
        clear hok
        go_wp2_with fail
        clear d0 d1 d2
        refine CO.out.mono ?_
        rintro e2 w2 ⟨g, gc, RR, rfl, hat, hgd, hz, hb2⟩
        have HSY2 := Lib.hid (HSY1.out.keep hb2)
        clear hb2 CO
        have HQL := Lib.hid (show RR.length ≤ 2 by
          have h1 := congrArg List.length hz
          have h2 := ofM_len x m.toNat
          rw [List.length_map] at h1
          omega)
        have HSRC := Lib.hid (At.src (P := Try.prog) (c := gc) Try.underlying30 hat (iqs_one RR) (by decide))
        have HGD := Lib.hid hgd
        have HMZ := Lib.hid hz
        have hLL : R.length + RR.length ≤ 18 := by have h1 := HSY2.out.len; have h2 := HQL.out; omega
        clear hat hgd hz
        go_wp2_with (at_builtin; go_loud (refine wpList_append_src _ rfl _ _ 30 30 rfl w.heap.size 44 i0 _ 3 56 Try.underlying30 hi hz0 hz1 hz2 rfl v R.length (R.flatMap Iq.cells) rfl HSY2.out.own _ RR.length (RR.flatMap Iq.cells) rfl HSRC.out (by unfold maxLen; omega) (by omega) HSY2.out.below.size ?_); intro v' w4 own' hg hm')
        have HSY4 := Lib.hid (HAPP.out _ _ _ _ _ _ HSY2.out own' hg HGD.out HMZ.out HOK.out)
        clear own' hg hm'
        go_wp2
        go_roundw
        case rel => exact ⟨k + 1, _, _, by go_num, rfl, hlt, HSY4.out⟩
        case measure => simp [intOf]; omega
    · obtain rfl : k = n := by omega
      have hlt2 : ¬ ((k : Int) < (k : Int)) := by omega
      have hkL : k = Q.length := HL.out.symm
      rw [hkL] at HSY
      obtain ⟨vA, vc, rfl, hfin⟩ := HSY.out.fin
      rw [HZ.out] at hfin
      have HF := Lib.hid hfin
      clear hfin hkL
      go_wp2
      go_ret
      exact HF.out
set_option maxRecDepth 100000 in
set_option maxHeartbeats 8000000 in
theorem RSystem_any (w : World) (A : Option Addr) (n c : Nat) (Q : List Ct) (m : Int) (hA : At w A n 3 (Q.flatMap Ct.cells)) (hQ : ∀ x ∈ Q, x.ok w) (hn : n ≤ 8) (hm : i64b m) : Calls Try.prog 16 #[.slice A n c, .int .i64 m] w (SyP w (SyZ Q m) 13) := by
  obtain ⟨i0, hi, hz0, hz1, hz2⟩ := info_parts i44
  have qn : ∀ (w : World) (a : Option Addr) (n c n' c' : Nat), (binOp .eql 30 (.slice a n c) (.slice none n' c')).run Try.prog w = .ok (.bool a.isNone) w := fun w a n c n' c' => Lib.run_eql_slice_nil w _ _ a n c n' c' Try.underlying30
  have HL := Lib.hid (show Q.length = n by have := hA.1; rw [flat_len Ct.cells 3 (fun _ => rfl)] at this; omega)
  obtain ⟨Z, hZ⟩ : ∃ Z, SyZ Q m = Z := ⟨_, rfl⟩
  rw [hZ]
  have HZ := Lib.hid hZ
  have HA := Lib.hid hA
  have HQ := Lib.hid hQ
  have HM := Lib.hid hm
  clear hA hQ hZ hm
  go_enter Try.func16, Try.ntmps16
  have hb0 : Below w.heap.size w (w.alloc (.cells #[] 44)) := (Below.refl _ _).alloc (Nat.le_refl _) _
  have HS0 := Lib.hid (show SY w (w.alloc (.cells #[] 44)) (.slice (some ⟨w.heap.size, 0, none⟩) 0 0) [] 13 0 Q m from ⟨⟨rfl, .inr ⟨w.heap.size, 0, _, rfl, Nat.le_refl _, Blk.new_ rfl rfl, Nat.le_refl _, by unfold maxLen; decide, rfl, rfl⟩⟩, fun q hq => (by cases hq), rfl, rfl, Nat.zero_le _, hb0⟩)
  clear hb0
  go_wp2
  go_loopw [5, 6] (fun s5 s6 wr => ∃ (k : Nat) (v : Value) (R : List Iq), s6 = .int .i64 (k : Int) ∧ v = s5 ∧ k ≤ n ∧ SY w wr v R 13 k Q m) (fun _ s6 _ => n - (intOf s6).toNat)
  case atStart => exact ⟨0, _, [], rfl, rfl, Nat.zero_le _, HS0.out⟩
  case round =>
    obtain ⟨k, v, R, rfl, rfl, hkn, hsy⟩ := hrel
    generalize wr = X0 at *
    have HSY := Lib.hid hsy
    clear hsy
    by_cases hlt : k < n
    · have hki : (k : Int) < (n : Int) := by omega
      have hk0 : (0 : Int) ≤ (k : Int) := by omega
      have hkQ : k < Q.length := by rw [HL.out]; exact hlt
      obtain ⟨bA, off, eA, -, hc⟩ := at3 (fun _ => rfl) HA.out (show 0 < n by omega)
      obtain ⟨d0, d1, d2⟩ := hc X0 HSY.out.below k hkQ _ _ _ rfl
      have HXO := Lib.hid (HQ.out _ (List.getElem_mem hkQ))
      have HBAD := Lib.hid (show okC Q[k].C m = false → Z = [] from fun h => by rw [← HZ.out]; exact SyZ.bad hkQ h)
      have HAPP := Lib.hid (SY.appK w hkQ m 13)
      have HD := Lib.hid (fun W (hW : Below w.heap.size w W) => hc W hW k hkQ _ _ _ rfl)
      clear hc
      generalize Q[k] = x at *
      obtain ⟨ok, hok⟩ : ∃ o, okC x.C m = o := ⟨_, rfl⟩
      rw [hok] at HBAD
      have HOK := Lib.hid hok
      rw [eA]
      have HXO1 := Lib.hid (HXO.out.below HSY.out.below)
      have CR := Lib.hid (Right_any X0 x m HXO1.out HM.out)
      rw [HOK.out] at CR
      unfold Ct.val at CR
      go_wp2_with fail
      clear d0 d1 d2
      refine CR.out.mono ?_
      rintro e2 w2 ⟨rfl, hb2⟩
      have HSY1 := Lib.hid (HSY.out.keep hb2)
      have HXO2 := Lib.hid (HXO1.out.below hb2)
      clear hb2 CR
      cases ok with
      | false =>
        go_wp2
        go_ret
        rw [HBAD.out (by first | rfl | trivial)]
        exact SyP.nil HSY1.out.below
      | true =>
        obtain ⟨d0, d1, d2⟩ := HD.out w2 HSY1.out.below
        have CO := Lib.hid (ROf14_ok w2 x m.toNat HXO2.out (by rw [Int.toNat_of_nonneg (okC_pos hok)]; exact hok))
        rw [Int.toNat_of_nonneg (okC_pos hok)] at CO
        unfold Ct.val at CO
        clear hok
        go_wp2_with fail
        clear d0 d1 d2
        refine CO.out.mono ?_
        rintro e3 w3 ⟨g, gc, RR, rfl, hat, hgd, hz, hb3⟩
        have HSY2 := Lib.hid (HSY1.out.keep hb3)
        clear hb3 CO
        have HQL := Lib.hid (show RR.length ≤ 2 by
          have h1 := congrArg List.length hz
          have h2 := ofM_len x m.toNat
          rw [List.length_map] at h1
          omega)
        have HSRC := Lib.hid (At.src (P := Try.prog) (c := gc) Try.underlying30 hat (iqs_one RR) (by decide))
        have HGD := Lib.hid hgd
        have HMZ := Lib.hid hz
        have hLL : R.length + RR.length ≤ 18 := by have h1 := HSY2.out.len; have h2 := HQL.out; omega
        clear hat hgd hz
        go_wp2_with (at_builtin; go_loud (refine wpList_append_src _ rfl _ _ 30 30 rfl w.heap.size 44 i0 _ 3 56 Try.underlying30 hi hz0 hz1 hz2 rfl v R.length (R.flatMap Iq.cells) rfl HSY2.out.own _ RR.length (RR.flatMap Iq.cells) rfl HSRC.out (by unfold maxLen; omega) (by omega) HSY2.out.below.size ?_); intro v' w4 own' hg hm')
        have HSY4 := Lib.hid (HAPP.out _ _ _ _ _ _ HSY2.out own' hg HGD.out HMZ.out HOK.out)
        clear own' hg hm'
        go_wp2
        go_roundw
        case rel => exact ⟨k + 1, _, _, by go_num, rfl, hlt, HSY4.out⟩
        case measure => simp [intOf]; omega
    · obtain rfl : k = n := by omega
      have hlt2 : ¬ ((k : Int) < (k : Int)) := by omega
      have hkL : k = Q.length := HL.out.symm
      rw [hkL] at HSY
      obtain ⟨vA, vc, rfl, hfin⟩ := HSY.out.fin
      rw [HZ.out] at hfin
      have HF := Lib.hid hfin
      clear hfin hkL
      go_wp2
      go_ret
      exact HF.out
end Go.Proofs.Ythfolccofjaknaa
