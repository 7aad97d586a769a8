/- The schedule of a text, as the reference reads it. -/
import Derived.Test.YthageombfifffaaDoorPpa
namespace Go.Proofs.YthageombfifffaaDoor
open Go.ChangeShapes Go.WideShapes Go.ChangeAt Go.RowKit Go.ChangeMaps

/-- What the reference's Parse returns. -/
def RParsed (V : List Act × Nat) (w : World) (e : Ending) (w' : World) : Prop :=
  ∃ A c, e = .returned (.tuple #[.slice A V.1.length c, .int .i64 (V.2 : Int)]) ∧ Acts w' A V.1.length V.1 ∧ Below w.heap.size w w'
theorem rparsed_bad {V : List Act × Nat} {n : Nat} {w w' : World} (h : V = ([], n + 1)) (hb : Below w.heap.size w w') : RParsed V w (.returned (.tuple #[.slice none 0 0, .int .i64 ((n : Int) + 1)])) w' := by
  subst h
  exact ⟨none, 0, rfl, ⟨rfl, fun h => absurd h (by simp)⟩, hb⟩
theorem rparsed_good {V : List Act × Nat} {acc : List Act} {v : Value} {w w' : World} (h : V = (acc, 0)) (ho : w'.ownsRow w.heap.size 29 4 v acc.length (ActC acc)) (hb : Below w.heap.size w w') : RParsed V w (.returned (.tuple #[v, .int .i64 0])) w' := by
  subst h
  obtain ⟨A, c, rfl, ha⟩ := Acts_own ho
  exact ⟨A, c, rfl, ha, hb⟩
theorem scan_at (L : List UInt8) (k e : Nat) (h : k ≤ e) (h10 : L[e]? = some 10) : L.drop k = (L.drop k).take (e - k) ++ 10 :: L.drop (e + 1) := by
  obtain ⟨hl, he⟩ := List.getElem?_eq_some_iff.1 h10
  conv => lhs; rw [← List.take_append_drop (e - k) (L.drop k), List.drop_drop, show k + (e - k) = e by omega, List.drop_eq_getElem_cons hl, he]
set_option maxRecDepth 100000 in
set_option maxHeartbeats 2000000 in
theorem rParse_any (s : ByteArray) (w : World) (hs : s.size ≤ 9000) : Calls Tryd.prog 22 #[.string s] w (RParsed (prs s.size s.data.toList []) w) := by
  obtain ⟨i0, hi, hz0, hz1, hz2⟩ := info_parts Tryd.info29
  have HL : Hid (s.data.toList.length = s.size) := Lib.hid (by simp)
  obtain ⟨V, hV⟩ : ∃ V, prs s.size s.data.toList [] = V := ⟨_, rfl⟩
  have HV := Lib.hid hV
  rw [hV]
  clear hV
  go_enter Tryd.func22, Tryd.ntmps22
  go_wp2
  go_loopw [4, 5, 6] (fun v a n wr => ∃ (k : Nat) (acc : List Act) (f : Nat), a = .int .i64 k ∧ n = .int .i64 ((acc.length : Int) + 1) ∧ k ≤ s.size ∧ s.size - k ≤ f ∧ acc.length + f ≤ s.size ∧ V = prs f (s.data.toList.drop k) acc ∧ wr.ownsRow w.heap.size 29 4 v acc.length (ActC acc) ∧ Below w.heap.size w wr) (fun _ a _ _ => s.size - (intOf a).toNat)
  case atStart => exact ⟨0, [], s.size, rfl, rfl, Nat.zero_le _, by omega, by simp, HV.out.symm, World.ownsRow_nil _ _ _ _, Below.refl _ _⟩
  case round =>
    obtain ⟨k, acc, f, rfl, rfl, hk, hkf, haf, hr, hown, hB⟩ := hrel
    obtain ⟨l, hl⟩ : ∃ l, acc.length = l := ⟨_, rfl⟩
    have HLA := Lib.hid hl
    rw [hl] at haf ⊢
    clear hl
    have HO := Lib.hid hown
    have HB := Lib.hid hB
    clear hown hB
    by_cases hlt : k < s.size
    · obtain ⟨g, rfl⟩ : ∃ g, f = g + 1 := ⟨f - 1, by omega⟩
      have hne : s.data.toList.drop k ≠ [] := fun h => by
        have := congrArg List.length h
        rw [List.length_drop, HL.out] at this
        simp at this; omega
      have HR := Lib.hid hr
      have HNE := Lib.hid hne
      clear hr hne
      go_wp2
      go_loop [7] (fun i => ∃ e : Nat, i = .int .i64 e ∧ k ≤ e ∧ e ≤ s.size ∧ (10 : UInt8) ∉ (s.data.toList.drop k).take (e - k)) (fun i => s.size - (intOf i).toNat)
      case atStart => exact ⟨k, rfl, Nat.le_refl _, by omega, by simp⟩
      case round =>
        obtain ⟨e, rfl, hke, hes, hno⟩ := hrel
        by_cases hle : e < s.size
        · have hkl : e < s.data.toList.length := by rw [HL.out]; exact hle
          have ex : s.data.toList[e]'hkl = s[e] := by simp; rfl
          by_cases h10 : s[e] = 10
          · have q0 : ((s[e].toNat : Int) == 10) = true := by rw [h10]; rfl
            have hsc := scan_at s.data.toList k e hke (by rw [List.getElem?_eq_getElem hkl, ex, h10])
            have e1 : lineOf (s.data.toList.drop k) = (s.data.toList.drop k).take (e - k) := by rw [hsc, lineOf_app _ _ hno, ← hsc]
            have e2 : restOf (s.data.toList.drop k) = s.data.toList.drop (e + 1) := by rw [hsc, restOf_app _ _ hno]
            have e3 : (10 : UInt8) ∈ s.data.toList.drop k := by rw [hsc]; simp
            have hbad := prs_bad g (s.data.toList.drop k) acc HNE.out
            have hok := prs_ok g (s.data.toList.drop k) acc e3
            rw [e1] at hbad
            rw [e1, e2] at hok
            have ep : (s.extract k (e + 1)).data.toList = (s.data.toList.drop k).take (e - k) ++ [10] := by
              rw [ext_list, show e + 1 - k = (e - k) + 1 by omega, List.take_succ_eq_append_getElem (by rw [List.length_drop, HL.out]; omega), List.getElem_drop]
              simp only [show k + (e - k) = e by omega]
              rw [ex, h10]
            have RA := fun w => raction_any (s.extract k (e + 1)) _ w (by rw [ByteArray.size_extract]; omega) ep
            rw [ep] at RA
            generalize (s.data.toList.drop k).take (e - k) = p at *
            obtain ⟨x, hx⟩ : ∃ x, s.extract k (e + 1) = x := ⟨_, rfl⟩
            rw [hx] at ep RA
            have HX := Lib.hid hx
            have HEP := Lib.hid ep
            have RA : ∀ w, Calls Tryd.prog 36 #[.string x] w fun e w' => ∃ ak av aw ab, e = .returned (.agg #[.int .i64 ak, .int .i64 av, .int .i64 aw, .int .i64 ab]) ∧ (⟨ak, av, aw, ab⟩ : Act).ok ∧ Serves (p ++ [10]) ⟨ak, av, aw, ab⟩ ∧ Below w.heap.size w w' := fun w => (RA w).mono fun e w' ⟨a, h⟩ => ⟨a.k, a.s, a.w, a.b, h⟩
            have RA := Lib.hid RA
            have HBAD := Lib.hid hbad
            have HOK := Lib.hid hok
            have i1 : (e : Int) + 1 ≤ (s.size : Int) := by omega
            have i2 : (k : Int) ≤ (e : Int) + 1 := by omega
            clear hx ep hbad hok e1 e2 e3 hsc hno ex
            go_wp2_with fail
            rw [HX.out]
            refine (RA.out _).mono ?_
            rintro e' w2 ⟨ak, av, aw, ab, rfl, hao, hsv, hb2⟩
            have HIFF := Lib.hid (okL_ref p ⟨ak, av, aw, ab⟩ hsv)
            have HACT := Lib.hid (okL_act p ⟨ak, av, aw, ab⟩ hsv)
            have HVA := Lib.hid (fun w h => rline_any ⟨ak, av, aw, ab⟩ w h)
            obtain ⟨fl, hfl⟩ : ∃ fl : ByteArray, (⟨(lineS ⟨ak, av, aw, ab⟩ ++ [10]).toArray⟩ : ByteArray) = fl := ⟨_, rfl⟩
            have hfd : fl.data.toList = lineS ⟨ak, av, aw, ab⟩ ++ [10] := by rw [← hfl]
            have VA := fun w => Right_any ak av aw ab 8 w
            have B2 := Lib.hid hb2
            have B3 := Lib.hid (B2.out.alloc B2.out.size (.cells #[.int .i64 ak, .int .i64 av, .int .i64 aw, .int .i64 ab] 29))
            have hb0 : (w2.alloc (.cells #[.int .i64 ak, .int .i64 av, .int .i64 aw, .int .i64 ab] 29)).heap[w2.heap.size]? = some (.cells #[.int .i64 ak, .int .i64 av, .int .i64 aw, .int .i64 ab] 29 (0, 0)) := heap_alloc_new w2 _
            have HB0 := Lib.hid hb0
            clear hb0 hb2 hsv
            have j0 : (0 : Int) ≤ (e : Int) + 1 := by omega
            have j2 : IntKind.i64.wrap ((e : Int) + 1) = (e : Int) + 1 := wrap_in _ (by omega) (by omega)
            go_wp2_with fail
            generalize hW : w2.alloc (.cells #[.int .i64 ak, .int .i64 av, .int .i64 aw, .int .i64 ab] 29) = W3 at *
            clear hW
            obtain ⟨d0, d1, d2, d3⟩ := cells_eq HB0.out
            have c0 := fun d os => cell_regrown d0 d os
            have c1 := fun d os => cell_regrown d1 d os
            have c2 := fun d os => cell_regrown d2 d os
            have c3 := fun d os => cell_regrown d3 d os
            clear d0 d1 d2 d3
            rcases hva : vA ⟨ak, av, aw, ab⟩ 8 with _ | _
            · rw [hva] at VA
              have VA := Lib.hid VA
              have HF := Lib.hid (HR.out.trans (HBAD.out (fun h => by have := (HIFF.out.2 h.2).1; rw [hva] at this; cases this)))
              rw [HLA.out] at HF
              refine wp_region_quiet_below (by kernel_rfl) (by kernel_rfl) ?_
              repeat (first | go_big_quiet_step ((go_at_call 28; with_reducible exact Calls.regrown_of (VA.out _))) | quiet_step ((go_at_call 28; with_reducible exact Calls.regrown_of (VA.out _))))
              refine wpQuiet_nil ?_
              intro _ hw'
              obtain ⟨⟨dq, osq⟩, hw''⟩ := hw'
              subst hw''
              have B4 := Lib.hid (more_below B3.out (below_regrown W3 dq osq))
              go_wp2
              go_ret2
              exact rparsed_bad HF.out (more_below HB.out B4.out)
            · rw [hva] at VA
              have VA := Lib.hid VA
              have LI : ∀ w, Calls Tryd.prog 35 #[.agg #[.int .i64 ak, .int .i64 av, .int .i64 aw, .int .i64 ab]] w fun e w' => e = .returned (.string fl) ∧ Below w.heap.size w w' := fun w => by
                have := HVA.out w hva
                rw [hfl] at this; exact this
              have LI := Lib.hid LI
              rcases hcm : (fl.toList == x.toList) with _ | _
              · have HF := Lib.hid (HR.out.trans (HBAD.out (fun h => by
                  have h2 := (HIFF.out.2 h.2).2
                  rw [← hfd, ← HEP.out, ← ByteArray.toList_eq, ← ByteArray.toList_eq] at h2
                  rw [h2] at hcm
                  simp at hcm)))
                rw [HLA.out] at HF
                have hcm2 : (fl.toList == (s.extract k (e + 1)).toList) = false := by rw [HX.out]; exact hcm
                refine wp_region_quiet_below (by kernel_rfl) (by kernel_rfl) ?_
                repeat (first | go_big_quiet_step ((first | (go_at_call 28; with_reducible exact Calls.regrown_of (VA.out _)) | (go_at_call 35; with_reducible exact Calls.regrown_of (LI.out _)))) | quiet_step ((first | (go_at_call 28; with_reducible exact Calls.regrown_of (VA.out _)) | (go_at_call 35; with_reducible exact Calls.regrown_of (LI.out _)))))
                refine wpQuiet_nil ?_
                intro _ hw'
                obtain ⟨⟨dq, osq⟩, hw''⟩ := hw'
                subst hw''
                have B4 := Lib.hid (more_below B3.out (below_regrown W3 dq osq))
                go_wp2
                go_ret2
                exact rparsed_bad HF.out (more_below HB.out B4.out)
              · have hcm2 : (fl.toList == (s.extract k (e + 1)).toList) = true := by rw [HX.out]; exact hcm
                have hokp : okL p = true := HIFF.out.1 ⟨hva, by rw [← hfd, ← HEP.out, ← ByteArray.toList_eq, ← ByteArray.toList_eq]; exact beq_iff_eq.1 hcm⟩
                have HF := Lib.hid ((HR.out.trans (HOK.out hokp)).trans (by rw [← HACT.out hokp]))
                refine wp_region_quiet_below (by kernel_rfl) (by kernel_rfl) ?_
                repeat (first | go_big_quiet_step ((first | (go_at_call 28; with_reducible exact Calls.regrown_of (VA.out _)) | (go_at_call 35; with_reducible exact Calls.regrown_of (LI.out _)))) | quiet_step ((first | (go_at_call 28; with_reducible exact Calls.regrown_of (VA.out _)) | (go_at_call 35; with_reducible exact Calls.regrown_of (LI.out _)))))
                refine wpQuiet_nil ?_
                intro _ hw'
                obtain ⟨⟨dq, osq⟩, hw''⟩ := hw'
                subst hw''
                have B5 := Lib.hid (more_below B3.out (below_regrown W3 dq osq))
                have d0 := c0 dq osq
                have d1 := c1 dq osq
                have d2 := c2 dq osq
                have d3 := c3 dq osq
                clear c0 c1 c2 c3
                generalize Go.Sort.grow (redrawn W3 dq) osq = w4 at *
                have HO5 := Lib.hid (own_below HO.out B5.out)
                have HB5 := Lib.hid (more_below HB.out B5.out)
                rw [HLA.out] at HO5
                clear hokp
                go_wp2_with (first | (at_builtin; go_loud (refine wpList_append_own _ rfl _ _ 24 rfl w.heap.size 29 i0 (.agg #[.int .i64 0, .int .i64 0, .int .i64 0, .int .i64 0]) 4 32 Tryd.underlying24 hi hz0 hz1 hz2 rfl (by decide) _ _ _ rfl (HO5.out.alloc _) ⟨w4.heap.size, 0, none⟩ 1 1 [.int .i64 ak, .int .i64 av, .int .i64 aw, .int .i64 ab] rfl rfl ?c1 ?c2 ?c3 ?c4 ?c5 ?_)))
                case c1 =>
                  intro jj u hj
                  match jj, hj with
                  | 0, hj => simp at hj; subst hj; simp [Addr.add]
                  | 1, hj => simp at hj; subst hj; simp [Addr.add]
                  | 2, hj => simp at hj; subst hj; simp [Addr.add]
                  | 3, hj => simp at hj; subst hj; simp [Addr.add]
                case c2 => intro u hu; simp at hu; rcases hu with rfl | rfl | rfl | rfl <;> rfl
                case c3 => unfold maxLen; omega
                case c4 => omega
                case c5 => have := HB5.out.size; simp; omega
                intro v' w5 hown' hgrow _
                have HB6 := Lib.hid ((HB5.out.alloc (by have := HB5.out.size; omega) _).grown hgrow (by have := HB5.out.size; simp; omega) (fun j hj => (HO5.out.lt j hj).1))
                have HO6 : Hid (w5.ownsRow w.heap.size 29 4 v' (acc ++ [(⟨ak, av, aw, ab⟩ : Act)]).length (ActC (acc ++ [(⟨ak, av, aw, ab⟩ : Act)]))) := by
                  refine Lib.hid ?_
                  rw [ActC_snoc, List.length_append, List.length_singleton, HLA.out]
                  exact hown'
                clear hown' hgrow
                go_wp2
                go_roundw
                case rel => exact ⟨e + 1, acc ++ [(⟨ak, av, aw, ab⟩ : Act)], g, by go_num, by rw [List.length_append, List.length_singleton, HLA.out]; go_num, by omega, by omega, by rw [List.length_append, List.length_singleton, HLA.out]; omega, HF.out, HO6.out, HB6.out⟩
                case measure => simp [intOf]; omega
          · have q0 : ((s[e].toNat : Int) == 10) = false := by
              have : s[e].toNat ≠ 10 := fun h => h10 (UInt8.toNat_inj.1 h)
              simp; omega
            have HN : Hid ((10 : UInt8) ∉ (s.data.toList.drop k).take (e + 1 - k)) := Lib.hid (by
              rw [show e + 1 - k = e - k + 1 by omega, List.take_succ_eq_append_getElem (by rw [List.length_drop]; omega), List.mem_append, not_or]
              refine ⟨hno, ?_⟩
              rw [List.mem_singleton, List.getElem_drop]
              simp only [show k + (e - k) = e by omega]
              rw [ex]; exact fun h => h10 h.symm)
            clear ex hno
            go_wp2
            go_round
            case rel => exact ⟨e + 1, by go_num, by omega, by omega, HN.out⟩
            case measure => simp [intOf]; omega
        · obtain rfl : e = s.size := by omega
          have hn : (10 : UInt8) ∉ s.data.toList.drop k := by rw [List.take_of_length_le (by rw [List.length_drop, HL.out]; exact Nat.le_refl _)] at hno; exact hno
          have HF := Lib.hid (HR.out.trans (prs_bad g _ acc HNE.out (fun h => hn h.1)))
          rw [HLA.out] at HF
          clear hn hno
          go_wp2
          go_ret2
          exact rparsed_bad HF.out HB.out
    · obtain rfl : k = s.size := by omega
      have e0 : s.data.toList.drop s.size = [] := List.drop_eq_nil_of_le (by rw [HL.out]; exact Nat.le_refl _)
      rw [e0, prs_nil] at hr
      have HF := Lib.hid hr
      clear hr e0
      go_wp2
      go_ret2
      exact rparsed_good HF.out HO.out HB.out
end Go.Proofs.YthageombfifffaaDoor
