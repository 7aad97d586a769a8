/- The schedule of a text, av the program reads it. -/
import Derived.Test.YthageombfifffaaDoorPrs
namespace Go.Proofs.YthageombfifffaaDoor
open Go.ChangeShapes Go.WideShapes Go.ChangeAt Go.RowKit Go.ChangeMaps

def strLen : Value → Nat
  | .string t => t.size
  | _ => 0
/-- A slice that is owned. -/
theorem Acts_own' {w : World} {B T : Nat} {v : Value} {n : Nat} {xs : List Value} (h : w.ownsRow B T 4 v n xs) : ∃ A c, v = .slice A n c ∧ True := by
  rcases h.2 with ⟨rfl, h0⟩ | ⟨g, cap, cur, rfl, _⟩
  · subst h0; exact ⟨_, _, rfl, trivial⟩
  · exact ⟨_, _, rfl, trivial⟩
def errN (n : Nat) : Int := if n = 0 then 0 else 2
/-- What Parse returns. -/
def Parsed (V : List Act × Nat) (w : World) (e : Ending) (w' : World) : Prop :=
  ∃ A c, e = .returned (.tuple #[.slice A V.1.length c, .int .i64 (V.2 : Int), .int .i64 (errN V.2)]) ∧ Acts w' A V.1.length V.1 ∧ Below w.heap.size w w'
theorem parsed_bad {V : List Act × Nat} {n : Nat} {w w' : World} (h : V = ([], n + 1)) (hb : Below w.heap.size w w') : Parsed V w (.returned (.tuple #[.slice none 0 0, .int .i64 ((n : Int) + 1), .int .i64 2])) w' := by
  subst h
  exact ⟨none, 0, rfl, ⟨rfl, fun h => absurd h (by simp)⟩, hb⟩
theorem parsed_good {V : List Act × Nat} {acc : List Act} {v : Value} {w w' : World} (h : V = (acc, 0)) (ho : w'.ownsRow w.heap.size 29 4 v acc.length (ActC acc)) (hb : Below w.heap.size w w') : Parsed V w (.returned (.tuple #[v, .int .i64 0, .int .i64 0])) w' := by
  subst h
  obtain ⟨A, c, rfl, ha⟩ := Acts_own ho
  exact ⟨A, c, rfl, ha, hb⟩
theorem cells_eq {w : World} {g : Nat} {a b c d : Value} (h : w.heap[g]? = some (.cells #[a, b, c, d] 29 (0, 0))) :
    w.cell? ⟨g, 0, none⟩ = some a ∧ w.cell? ⟨g, 1, none⟩ = some b ∧ w.cell? ⟨g, 2, none⟩ = some c ∧ w.cell? ⟨g, 3, none⟩ = some d :=
  ⟨Joins.cell_of_block h 0, Joins.cell_of_block h 1, Joins.cell_of_block h 2, Joins.cell_of_block h 3⟩
set_option maxRecDepth 100000 in
set_option maxHeartbeats 2000000 in
theorem Parse_any (s : ByteArray) (w : World) (hs : s.size ≤ 20000) (hE : EnvQ w) : Calls Tryd.prog 20 #[.string s] w (Parsed (prs s.size s.data.toList []) w) := by
  obtain ⟨i0, hi, hz0, hz1, hz2⟩ := info_parts Tryd.info29
  have hsl : s.data.toList.length = s.size := by simp
  obtain ⟨V, hV⟩ : ∃ V, prs s.size s.data.toList [] = V := ⟨_, rfl⟩
  have HV := Lib.hid hV
  have HE := Lib.hid hE
  rw [hV]
  clear hV hE
  go_enter Tryd.func20, Tryd.ntmps20
  go_wp2
  go_loopw [0, 5] (fun a v wr => ∃ (t : ByteArray) (acc : List Act) (f : Nat), a = .string t ∧ t.data.toList.length ≤ f ∧ acc.length + f ≤ s.size ∧ V = prs f t.data.toList acc ∧ wr.ownsRow w.heap.size 29 4 v acc.length (ActC acc) ∧ Below w.heap.size w wr) (fun a _ _ => strLen a)
  case atStart => exact ⟨s, [], s.size, rfl, by rw [hsl]; exact Nat.le_refl _, by simp, HV.out.symm, World.ownsRow_nil _ _ _ _, Below.refl _ _⟩
  case round =>
    obtain ⟨t, acc, f, rfl, htf, haf, hr, hown, hB⟩ := hrel
    have htl : t.data.toList.length = t.size := by simp
    rcases hq : (t.toList == ([] : List UInt8)) with _ | _
    · have hne : t.data.toList ≠ [] := to_ne hq
      have q2 : t.toList.isEmpty = false := by rw [ByteArray.toList_eq]; simpa using hne
      have q3 : t.toList ≠ [] := by rw [ByteArray.toList_eq]; exact hne
      have q4 : t ≠ ⟨#[]⟩ := fun h => hne (by rw [h])
      obtain ⟨g, rfl⟩ : ∃ g, f = g + 1 := ⟨f - 1, by have := List.length_pos_iff.2 hne; omega⟩
      have htz : t.size ≤ 20000 := by omega
      obtain ⟨m, hm⟩ := (HE.out.below hB).max
      have CU := Tryd.strings_Cut t ⟨#[10]⟩ m wr (by omega) hm
      rw [show (⟨#[10]⟩ : ByteArray).data.toList = [10] from rfl] at CU
      obtain ⟨l, hl⟩ : ∃ l, acc.length = l := ⟨_, rfl⟩
      have HO := Lib.hid hown
      have HB := Lib.hid hB
      clear hown hB hm
      by_cases h10 : (10 : UInt8) ∈ t.data.toList
      · rw [cut_yes _ h10] at CU
        have hrl := restOf_len _ h10
        have hbad := prs_bad g t.data.toList acc hne
        have hok := prs_ok g t.data.toList acc h10
        have hao := actS_ok (lineOf t.data.toList)
        obtain ⟨x, hx⟩ : ∃ x : ByteArray, (⟨(lineOf t.data.toList).toArray⟩ : ByteArray) = x := ⟨_, rfl⟩
        obtain ⟨y, hy⟩ : ∃ y : ByteArray, (⟨(restOf t.data.toList).toArray⟩ : ByteArray) = y := ⟨_, rfl⟩
        have hxd : x.data.toList = lineOf t.data.toList := by rw [← hx]
        have hyd : y.data.toList = restOf t.data.toList := by rw [← hy]
        have hxl : x.data.toList.length = x.size := by simp
        have hyl : y.data.toList.length = y.size := by simp
        simp only [hx, hy] at CU
        rw [← hxd, ← hyd] at hrl
        rw [← hxd] at hbad hao
        rw [← hxd, ← hyd] at hok
        have hxs : x.size ≤ 20000 := by omega
        have AC := Action_any x
        obtain ⟨a, ha⟩ : ∃ a, actS x.data.toList = a := ⟨_, rfl⟩
        have hokL : okL x.data.toList = (vA a 8 && (lineS a == x.data.toList)) := by unfold okL; rw [ha]
        rw [hokL] at hbad hok
        rw [ha] at hao hok AC
        rcases a with ⟨ak, av, aw, ab⟩
        obtain ⟨fl, hfl⟩ : ∃ fl : ByteArray, (⟨(lineS ⟨ak, av, aw, ab⟩).toArray⟩ : ByteArray) = fl := ⟨_, rfl⟩
        have hfd : fl.data.toList = lineS ⟨ak, av, aw, ab⟩ := by rw [← hfl]
        have LI := fun w hE => line_any ak av aw ab w hE hao
        simp only [hfl] at LI
        rw [← hfd] at hbad hok
        have VA := fun w => valid_any ak av aw ab 8 w
        have AC : ∀ w, EnvQ w → Calls Tryd.prog 34 #[.string x] w fun e w' => e = .returned (.agg #[.int .i64 ak, .int .i64 av, .int .i64 aw, .int .i64 ab]) ∧ Below w.heap.size w w' := fun w hE => AC w (by omega) hE
        have AC := Lib.hid AC
        have LI := Lib.hid LI
        have CU := Lib.hid CU
        have HBAD := Lib.hid hbad
        have HOK := Lib.hid hok
        have HR := Lib.hid hr
        clear hx hy hxd hyd hfl hfd hokL ha hao hbad hok hr hne hxl
        go_wp2_with fail
        refine CU.out.mono ?_
        rintro e w1 ⟨rfl, nd, hw1⟩
        have B1 : Hid (Below wr.heap.size wr w1) := Lib.hid (by rw [hw1]; exact below_drewN (Below.refl _ _))
        clear hw1
        go_wp2_with fail
        refine (AC.out _ ((HE.out.below HB.out).below B1.out)).mono ?_
        rintro e w2 ⟨rfl, hb2⟩
        have B2 := Lib.hid (more_below B1.out hb2)
        have B3 := Lib.hid (B2.out.alloc B2.out.size (.cells #[.int .i64 ak, .int .i64 av, .int .i64 aw, .int .i64 ab] 29))
        clear hb2
        have hb0 : (w2.alloc (.cells #[.int .i64 ak, .int .i64 av, .int .i64 aw, .int .i64 ab] 29)).heap[w2.heap.size]? = some (.cells #[.int .i64 ak, .int .i64 av, .int .i64 aw, .int .i64 ab] 29 (0, 0)) := heap_alloc_new w2 _
        have HB0 := Lib.hid hb0
        clear hb0
        rcases hva : vA ⟨ak, av, aw, ab⟩ 8 with _ | _
        · rw [hva] at VA HBAD
          have VA := Lib.hid VA
          have HF := Lib.hid (HR.out.trans (HBAD.out (fun h => by simp at h)))
          go_wp2_with fail
          refine (VA.out _).mono ?_
          rintro e w3 ⟨rfl, hb3⟩
          have B4 := Lib.hid (more_below B3.out hb3)
          clear hb3
          rw [hl] at HO HF
          obtain ⟨A, c, rfl, _⟩ := Acts_own' HO.out
          go_wp2
          go_ret3
          exact parsed_bad HF.out (more_below HB.out B4.out)
        · rw [hva] at VA HBAD HOK
          have VA := Lib.hid VA
          go_wp2_with fail
          refine (VA.out _).mono ?_
          rintro e w3 ⟨rfl, hb3⟩
          have B4 := Lib.hid (more_below B3.out hb3)
          have HB1 := Lib.hid ((hb3.block _ (Array.getElem?_eq_some_iff.1 HB0.out).1).trans HB0.out)
          clear hb3
          obtain ⟨d0, d1, d2, d3⟩ := cells_eq HB1.out
          go_wp2_with fail
          refine (LI.out _ (((HE.out.below HB.out).below B4.out)).env).mono ?_
          rintro e w4 ⟨rfl, hb4⟩
          have B5 := Lib.hid (more_below B4.out hb4)
          have HB2 := Lib.hid ((hb4.block _ (Array.getElem?_eq_some_iff.1 HB1.out).1).trans HB1.out)
          clear hb4 d0 d1 d2 d3
          obtain ⟨d0, d1, d2, d3⟩ := cells_eq HB2.out
          rcases hcm : (fl.toList == x.toList) with _ | _
          · have HF := Lib.hid (HR.out.trans (HBAD.out (fun h => by
              have h2 := h.2
              rw [← ByteArray.toList_eq, ← ByteArray.toList_eq, hcm] at h2
              simp at h2)))
            rw [hl] at HO HF
            obtain ⟨A, c, rfl, _⟩ := Acts_own' HO.out
            go_wp2
            go_ret3
            exact parsed_bad HF.out (more_below HB.out B5.out)
          · have HF := Lib.hid (HR.out.trans (HOK.out (by rw [← ByteArray.toList_eq, ← ByteArray.toList_eq, hcm]; rfl)))
            have HO5 := Lib.hid (own_below HO.out B5.out)
            have HB5 := Lib.hid (more_below HB.out B5.out)
            have hal : acc.length ≤ 20000 := by omega
            go_wp2_with (first | (at_builtin; go_loud (refine wpList_append_own _ rfl _ _ 24 rfl w.heap.size 29 i0 (.agg #[.int .i64 0, .int .i64 0, .int .i64 0, .int .i64 0]) 4 32 Tryd.underlying24 hi hz0 hz1 hz2 rfl (by decide) _ _ _ rfl (HO5.out.alloc _) ⟨w4.heap.size, 0, none⟩ 1 1 [.int .i64 ak, .int .i64 av, .int .i64 aw, .int .i64 ab] rfl rfl ?c1 ?c2 ?c3 ?c4 ?c5 ?_)))
            case c1 =>
              intro jj u hj
              match jj, hj with
              | 0, hj => simp at hj; subst hj; simp [Addr.add]
              | 1, hj => simp at hj; subst hj; simp [Addr.add]
              | 2, hj => simp at hj; subst hj; simp [Addr.add]
              | 3, hj => simp at hj; subst hj; simp [Addr.add]
            case c2 => intro u hu; simp at hu; rcases hu with rfl | rfl | rfl | rfl <;> rfl
            case c3 => unfold maxLen; omega
            case c4 => omega
            case c5 => have := HB5.out.size; simp; omega
            intro v' w5 hown' hgrow _
            have HB6 := Lib.hid ((HB5.out.alloc (by have := HB5.out.size; omega) _).grown hgrow (by have := HB5.out.size; simp; omega) (fun j hj => (HO5.out.lt j hj).1))
            have HO6 : Hid (w5.ownsRow w.heap.size 29 4 v' (acc ++ [(⟨ak, av, aw, ab⟩ : Act)]).length (ActC (acc ++ [(⟨ak, av, aw, ab⟩ : Act)]))) := by
              refine Lib.hid ?_
              rw [ActC_snoc, List.length_append, List.length_singleton, hl]
              exact hown'
            clear hown' hgrow
            go_wp2
            go_roundw
            case rel => exact ⟨y, acc ++ [⟨ak, av, aw, ab⟩], g, rfl, by omega, by rw [List.length_append, List.length_singleton]; omega, HF.out, HO6.out, HB6.out⟩
            case measure => simp [strLen]; omega
      · rw [cut_no _ h10] at CU
        have e1 : (⟨t.data.toList.toArray⟩ : ByteArray) = t := bytes_eq t _ rfl
        have e2 : (⟨([] : List UInt8).toArray⟩ : ByteArray) = ⟨#[]⟩ := rfl
        simp only [e1, e2] at CU
        have HF := Lib.hid (hr.trans (prs_bad g t.data.toList acc hne (fun h => h10 h.1)))
        have AC := Action_any t
        obtain ⟨a, ha⟩ : ∃ a, actS t.data.toList = a := ⟨_, rfl⟩
        rw [ha] at AC
        rcases a with ⟨ak, av, aw, ab⟩
        have AC : ∀ w, EnvQ w → Calls Tryd.prog 34 #[.string t] w fun e w' => e = .returned (.agg #[.int .i64 ak, .int .i64 av, .int .i64 aw, .int .i64 ab]) ∧ Below w.heap.size w w' := fun w hE => AC w (by omega) hE
        have AC := Lib.hid AC
        have CU := Lib.hid CU
        clear e1 e2 ha hr h10 hne
        go_wp2_with fail
        refine CU.out.mono ?_
        rintro e w1 ⟨rfl, nd, hw1⟩
        have B1 : Hid (Below wr.heap.size wr w1) := Lib.hid (by rw [hw1]; exact below_drewN (Below.refl _ _))
        clear hw1
        go_wp2_with fail
        refine (AC.out _ ((HE.out.below HB.out).below B1.out)).mono ?_
        rintro e w2 ⟨rfl, hb2⟩
        have B2 := Lib.hid (more_below B1.out hb2)
        have B3 := Lib.hid (B2.out.alloc B2.out.size (.cells #[.int .i64 ak, .int .i64 av, .int .i64 aw, .int .i64 ab] 29))
        clear hb2
        rw [hl] at HO HF
        obtain ⟨A, c, rfl, _⟩ := Acts_own' HO.out
        go_wp2
        go_ret3
        exact parsed_bad HF.out (more_below HB.out B3.out)
    · have e0 : t.data.toList = [] := to_eq hq
      rw [e0, prs_nil] at hr
      have HF := Lib.hid hr
      have HO := Lib.hid hown
      have HB := Lib.hid hB
      have q2 : t.toList.isEmpty = true := by rw [ByteArray.toList_eq, e0]; rfl
      have q3 : t.toList = [] := by rw [ByteArray.toList_eq, e0]
      clear hr hown hB e0
      go_wp2
      go_ret3
      exact parsed_good HF.out HO.out HB.out
end Go.Proofs.YthageombfifffaaDoor
