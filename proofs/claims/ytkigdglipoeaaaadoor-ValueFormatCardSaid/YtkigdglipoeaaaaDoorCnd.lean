/- The only value whose literal can be a string. -/
import Derived.Test.YtkigdglipoeaaaaDoorPrs
import Derived.Stop.LaidErr
namespace Go.Proofs.YtkigdglipoeaaaaDoor
open Go.ChangeShapes Go.WideShapes Go.ChangeAt Go.RowKit Go.ChangeMaps

/-- What the library reads, its errors among it. -/
structure EnvP (w : World) : Prop where
  env : Env w
  syn : ∃ tp p, w.var? Tryd.prog "strconv.ErrSyntax" = some #[.iface tp p]
  rng : ∃ tp p, w.var? Tryd.prog "strconv.ErrRange" = some #[.iface tp p]
theorem EnvP.below {w w' : World} (h : EnvP w) (hb : Below w.heap.size w w') : EnvP w' :=
  ⟨h.env.below hb, h.syn.imp fun _ h => h.imp fun _ h => Joins.var_stays (g := 4) (by kernel_rfl) h hb (Nat.le_refl _), h.rng.imp fun _ h => h.imp fun _ h => Joins.var_stays (g := 5) (by kernel_rfl) h hb (Nat.le_refl _)⟩
theorem star : "*" ++ "errors.errorString" = "*errors.errorString" := by decide
theorem row118 (u : TypeId) (h : Tryd.prog.typeName? 3 u = some "*errors.errorString") : u = 118 :=
  typeName_ptr_named (nm := "errors.errorString") (by rw [star]; kernel_rfl) (by kernel_rfl) (by decide) u (by rw [star]; exact h)
theorem envP_of {W : World} (hL : laidMetH Tryd.prog Rows.valueFormatRow.laid W) (hsh : W.ShapedOpen Tryd.prog) : EnvP W := by
  rw [MakeChecks.laidMetH_plain _ _ _ (by kernel_rfl)] at hL
  refine ⟨⟨Lib.tabIs_of_head (g := 1) (t := 88) (e := 59) (n := 20) (by kernel_rfl) (by kernel_rfl) (by kernel_rfl) (by kernel_rfl) (by kernel_rfl) (by kernel_rfl) hL.tail.tail,
    cell_of_shapedOpen_int (zero := #[.int .i64 0]) (t := 3) hsh (of_decide_eq_true (by kernel_rfl)) (by kernel_rfl) rfl (by kernel_rfl) (by kernel_rfl) Tryd.underlying3⟩, ?_, ?_⟩
  · obtain ⟨a, _, hv, _, _, _⟩ := laid_sentinel hL.tail.tail.tail.tail.tail (g := 4) (ti := 65) (tp := 118) (te := 120) (ts := 9) (by kernel_rfl) (by kernel_rfl) Tryd.underlying65 row118 Tryd.underlying118 Tryd.underlying120 rfl rfl Tryd.underlying9 (by kernel_rfl) (by kernel_rfl)
    exact ⟨_, _, hv⟩
  · obtain ⟨a, _, hv, _, _, _⟩ := laid_sentinel hL.tail.tail.tail.tail (g := 5) (ti := 65) (tp := 118) (te := 120) (ts := 9) (by kernel_rfl) (by kernel_rfl) Tryd.underlying65 row118 Tryd.underlying118 Tryd.underlying120 rfl rfl Tryd.underlying9 (by kernel_rfl) (by kernel_rfl)
    exact ⟨_, _, hv⟩
theorem newfree {w : World} {cs : Array Value} {T : TypeId} {g : Nat} (hg : g = w.heap.size) : ∀ j, (w.alloc (.cells cs T)).frozen? ⟨g, j, none⟩ = false := fun j => by
  subst hg
  exact Joins.unfrozen_of_block (cs := cs) (t := T) (by show (w.heap.push _)[w.heap.size]? = _; simp) j
theorem keepfree {w w' : World} {g : Nat} (hg : g < w.heap.size) (hb : Below w.heap.size w w') (h : ∀ j, w.frozen? ⟨g, j, none⟩ = false) : ∀ j, w'.frozen? ⟨g, j, none⟩ = false := fun j => (hb.frozen (p := ⟨g, j, none⟩) hg).trans (h j)
def aggV (x : V3) : Value := .agg #[.int .i64 x.k, .int .i64 x.n, .string x.s]
theorem of_list (s : ByteArray) (l : List UInt8) (h : s.data.toList = l) : s = ⟨l.toArray⟩ := by
  rcases s with ⟨a⟩
  subst h
  rfl
theorem Cand_zero (s : ByteArray) (w : World) (h : s.data.toList = [] ∨ s.data.toList = nullL) :
    Calls Tryd.prog 46 #[.string s] w fun e w' => e = .returned (aggV z3) ∧ Below w.heap.size w w' := by
  rcases h with h | h
  all_goals
    rw [of_list s _ h]
    go_enter Tryd.func46, Tryd.ntmps46
    go_wp2
    refine bodyPost_ret (v := .agg #[.int .i64 0, .int .i64 0, .string ⟨#[]⟩]) (by simp [results, Tryd.results46, go_sem]) rfl ⟨rfl, ?_⟩
    exact (Below.refl _ w).alloc (Nat.le_refl _) _
theorem Cand_text (s : ByteArray) (w : World) (hE : Env w) (h39 : s.data.toList.head? = some 39) (h1 : 1 < s.size) (hs : s.size ≤ 1000) :
    Calls Tryd.prog 46 #[.string s] w fun e w' => e = .returned (aggV ⟨2, 0, ⟨(Lib.replaceAll ((s.data.toList.drop 1).take (s.data.toList.length - 2)) [39, 39] [39]).toArray⟩⟩) ∧ Below w.heap.size w w' := by
  have E := empty_list s
  have h00 : 0 < s.size := by omega
  rw [decide_eq_false (by omega)] at E
  have hl0 : 0 < s.data.toList.length := by simpa using h00
  have ex : s.data.toList[0]'hl0 = s[0] := by simp; rfl
  have e39 : s[0] = 39 := by
    rw [← ex]; rw [List.head?_eq_getElem?, List.getElem?_eq_getElem hl0] at h39; exact Option.some.inj h39
  have q : ((s[0].toNat : Int) == 39) = true := by rw [e39]; rfl
  have nn : (s.toList == [78, 85, 76, 76]) = false := by
    rw [beq_eq_false_iff_ne, ByteArray.toList_eq]; intro h; rw [h] at h39; exact absurd h39 (by decide)
  obtain ⟨m, hm⟩ : ∃ m, s.size = m + 2 := ⟨s.size - 2, by omega⟩
  go_enter Tryd.func46, Tryd.ntmps46
  obtain ⟨mm, hmm⟩ := hE.max
  have hx : (s.extract 1 (m + 2 - 1)).data.toList = (s.data.toList.drop 1).take (s.data.toList.length - 2) := by
    have e : s.data.toList.length = s.size := by simp
    rw [ByteArray.data_extract, Array.toList_extract, List.extract_eq_take_drop, e, hm]
    rfl
  have hxs : (s.extract 1 (m + 2 - 1)).size ≤ 1000 := by rw [ByteArray.size_extract]; omega
  have cb := Lib.countB_le ⟨#[39, 39]⟩ (by decide) (s.extract 1 (m + 2 - 1)).size (s.extract 1 (m + 2 - 1)) (Nat.le_refl _)
  have s1 : (⟨#[39]⟩ : ByteArray).size = 1 := rfl
  have RA : ∀ w, w.cell? ⟨0, 0, none⟩ = some (.int .i64 mm) → Calls Tryd.prog 45 #[.string (s.extract 1 (m + 2 - 1)), .string ⟨#[39, 39]⟩, .string ⟨#[39]⟩] w fun e w' => e = .returned (.string ⟨(Lib.replaceAll (s.extract 1 (m + 2 - 1)).data.toList [39, 39] [39]).toArray⟩) ∧ Below w.heap.size w w' := fun w h =>
    Tryd.strings_ReplaceAll (s.extract 1 (m + 2 - 1)) ⟨#[39, 39]⟩ ⟨#[39]⟩ mm w (by omega) h (by decide) (by rw [s1]; omega)
  rw [hx] at RA
  obtain ⟨r, hr⟩ : ∃ r : ByteArray, (⟨(Lib.replaceAll ((s.data.toList.drop 1).take (s.data.toList.length - 2)) [39, 39] [39]).toArray⟩ : ByteArray) = r := ⟨_, rfl⟩
  rw [hr] at RA ⊢
  have RA := Lib.hid RA
  have HM := Lib.hid hmm
  clear hr hx hxs cb s1 hmm h39
  have HA := Lib.hid ((Below.refl w.heap.size w).alloc (Nat.le_refl _) (.cells #[.int .i64 0, .int .i64 0, .string ⟨#[]⟩] 23))
  go_wp2_with fail
  refine (RA.out _ (pastcell HM.out)).mono ?_
  rintro e w1 ⟨rfl, hb1⟩
  go_wp2_with fail
  refine (Text_any _ _).mono ?_
  rintro e w2 ⟨rfl, hb2⟩
  have e0 := keepcell hb2 (keepcell hb1 (newcell (g := w.heap.size) 0 (.int .i64 0) rfl rfl))
  have e1 := keepcell hb2 (keepcell hb1 (newcell (g := w.heap.size) 1 (.int .i64 0) rfl rfl))
  have e2 := keepcell hb2 (keepcell hb1 (newcell (g := w.heap.size) 2 (.string ⟨#[]⟩) rfl rfl))
  have s1 := hb1.size
  have s2 := hb2.size
  have f0 := keepfree (by simp at s1; omega) hb2 (keepfree (by simp) hb1 (newfree (w := w) (cs := #[.int .i64 0, .int .i64 0, .string ⟨#[]⟩]) (T := 23) (g := w.heap.size) rfl))
  have HB := Lib.hid ((HA.out.trans (hb1.mono HA.out.size)).trans (hb2.mono (HA.out.trans (hb1.mono HA.out.size)).size))
  go_wp2
  refine bodyPost_ret (v := .agg #[.int .i64 2, .int .i64 0, .string r]) (by simp [results, Tryd.results46, go_sem, e0, e1, e2]) rfl ⟨rfl, ?_⟩
  exact ((HB.out.setCell (by exact Nat.le_refl _) _).setCell (by exact Nat.le_refl _) _).setCell (by exact Nat.le_refl _) _
theorem Cand_num (s : ByteArray) (w : World) (hP : EnvP w) (h0 : s.data.toList ≠ []) (hn : s.data.toList ≠ nullL) (h39 : ¬ (s.data.toList.head? = some 39 ∧ 1 < s.size)) (hs : s.size ≤ 1000) :
    Calls Tryd.prog 46 #[.string s] w fun e w' => e = .returned (aggV (match Lib.parseIntB 64 s.data.toList with | .ok v => ⟨1, v, ⟨#[]⟩⟩ | _ => z3)) ∧ Below w.heap.size w w' := by
  have E := empty_list s
  have h00 : 0 < s.size := by
    have e : s.data.toList.length = s.size := by simp
    have := List.length_pos_iff.2 h0; omega
  rw [decide_eq_false (by omega)] at E
  have hl0 : 0 < s.data.toList.length := by simpa using h00
  have ex : s.data.toList[0]'hl0 = s[0] := by simp; rfl
  have nn : (s.toList == [78, 85, 76, 76]) = false := by
    rw [beq_eq_false_iff_ne, ByteArray.toList_eq]; exact hn
  have h39b : ¬ (s[0] = 39 ∧ 1 < s.size) := fun p => h39 ⟨by rw [List.head?_eq_getElem?, List.getElem?_eq_getElem hl0, ex, p.1], p.2⟩
  have HA := Lib.hid ((Below.refl w.heap.size w).alloc (Nat.le_refl _) (.cells #[.int .i64 0, .int .i64 0, .string ⟨#[]⟩] 23))
  have HP := Lib.hid (hP.below HA.out)
  clear hP h39 ex hn h0
  have K : ∀ (w1 : World) (x : V3), Below (w.alloc (.cells #[.int .i64 0, .int .i64 0, .string ⟨#[]⟩] 23)).heap.size (w.alloc (.cells #[.int .i64 0, .int .i64 0, .string ⟨#[]⟩] 23)) w1 → Below w.heap.size w ((((w1.setCell ⟨w.heap.size, 0, none⟩ (.int .i64 x.k)).setCell ⟨w.heap.size, 1, none⟩ (.int .i64 x.n))).setCell ⟨w.heap.size, 2, none⟩ (.string x.s)) := fun w1 x hb =>
    (((HA.out.trans (hb.mono HA.out.size)).setCell (by exact Nat.le_refl _) _).setCell (by exact Nat.le_refl _) _).setCell (by exact Nat.le_refl _) _
  have HK := Lib.hid K
  clear K
  have go1 : ∀ (v : Int), (∀ w, EnvP w → Calls Tryd.prog 54 #[.string s, .int .i64 10, .int .i64 64] w fun e w' => e = .returned (.tuple #[.int .i64 v, .nilIface]) ∧ Below w.heap.size w w') → Calls Tryd.prog 46 #[.string s] w fun e w' => e = .returned (aggV ⟨1, v, ⟨#[]⟩⟩) ∧ Below w.heap.size w w' := by
    intro v hC
    have HC := Lib.hid hC
    clear hC
    by_cases q1 : s[0] = 39
    · have t1 : ((s[0].toNat : Int) == 39) = true := by rw [q1]; rfl
      have t0 : ¬ 1 < s.size := fun p => h39b ⟨q1, p⟩
      have t2 : decide ((s.size : Int) > 1) = false := decide_eq_false (by omega)
      clear q1 h39b t0
      · go_enter Tryd.func46, Tryd.ntmps46
        go_wp2_with fail
        refine (HC.out _ HP.out).mono ?_
        rintro e w1 ⟨rfl, hb1⟩
        go_wp2_with fail
        refine (Int_any _ _).mono ?_
        rintro e w2 ⟨rfl, hb2⟩
        have hb1 := hb1.trans (hb2.mono hb1.size)
        have e0 := keepcell hb1 (newcell (g := w.heap.size) 0 (.int .i64 0) rfl rfl)
        have e1 := keepcell hb1 (newcell (g := w.heap.size) 1 (.int .i64 0) rfl rfl)
        have e2 := keepcell hb1 (newcell (g := w.heap.size) 2 (.string ⟨#[]⟩) rfl rfl)
        have f0 := keepfree (by simp) hb1 (newfree (w := w) (cs := #[.int .i64 0, .int .i64 0, .string ⟨#[]⟩]) (T := 23) (g := w.heap.size) rfl)
        go_wp2
        refine bodyPost_ret (v := .agg #[.int .i64 1, .int .i64 v, .string ⟨#[]⟩]) (by simp [results, Tryd.results46, go_sem, e0, e1, e2]) rfl ⟨rfl, ?_⟩
        exact HK.out w2 ⟨1, v, ⟨#[]⟩⟩ hb1
    · have t1 : ((s[0].toNat : Int) == 39) = false := by
        rw [beq_eq_false_iff_ne]; intro e
        exact q1 (UInt8.toNat_inj.1 (by have : (39 : UInt8).toNat = 39 := rfl; omega))
      clear q1 h39b
      · go_enter Tryd.func46, Tryd.ntmps46
        go_wp2_with fail
        refine (HC.out _ HP.out).mono ?_
        rintro e w1 ⟨rfl, hb1⟩
        go_wp2_with fail
        refine (Int_any _ _).mono ?_
        rintro e w2 ⟨rfl, hb2⟩
        have hb1 := hb1.trans (hb2.mono hb1.size)
        have e0 := keepcell hb1 (newcell (g := w.heap.size) 0 (.int .i64 0) rfl rfl)
        have e1 := keepcell hb1 (newcell (g := w.heap.size) 1 (.int .i64 0) rfl rfl)
        have e2 := keepcell hb1 (newcell (g := w.heap.size) 2 (.string ⟨#[]⟩) rfl rfl)
        have f0 := keepfree (by simp) hb1 (newfree (w := w) (cs := #[.int .i64 0, .int .i64 0, .string ⟨#[]⟩]) (T := 23) (g := w.heap.size) rfl)
        go_wp2
        refine bodyPost_ret (v := .agg #[.int .i64 1, .int .i64 v, .string ⟨#[]⟩]) (by simp [results, Tryd.results46, go_sem, e0, e1, e2]) rfl ⟨rfl, ?_⟩
        exact HK.out w2 ⟨1, v, ⟨#[]⟩⟩ hb1
  have go2 : ∀ (v : Int), (∀ w, EnvP w → Calls Tryd.prog 54 #[.string s, .int .i64 10, .int .i64 64] w fun e w' => ∃ p, e = .returned (.tuple #[.int .i64 v, .iface 98 (.pointer (some p))]) ∧ Below w.heap.size w w') → Calls Tryd.prog 46 #[.string s] w fun e w' => e = .returned (aggV z3) ∧ Below w.heap.size w w' := by
    intro v hC
    have HC := Lib.hid hC
    clear hC
    by_cases q1 : s[0] = 39
    · have t1 : ((s[0].toNat : Int) == 39) = true := by rw [q1]; rfl
      have t0 : ¬ 1 < s.size := fun p => h39b ⟨q1, p⟩
      have t2 : decide ((s.size : Int) > 1) = false := decide_eq_false (by omega)
      clear q1 h39b t0
      · go_enter Tryd.func46, Tryd.ntmps46
        go_wp2_with fail
        refine (HC.out _ HP.out).mono ?_
        rintro e w1 ⟨p, rfl, hb1⟩
        have e0 := keepcell hb1 (newcell (g := w.heap.size) 0 (.int .i64 0) rfl rfl)
        have e1 := keepcell hb1 (newcell (g := w.heap.size) 1 (.int .i64 0) rfl rfl)
        have e2 := keepcell hb1 (newcell (g := w.heap.size) 2 (.string ⟨#[]⟩) rfl rfl)
        have f0 := keepfree (by simp) hb1 (newfree (w := w) (cs := #[.int .i64 0, .int .i64 0, .string ⟨#[]⟩]) (T := 23) (g := w.heap.size) rfl)
        go_wp2
        refine bodyPost_ret (v := .agg #[.int .i64 0, .int .i64 0, .string ⟨#[]⟩]) (by simp [results, Tryd.results46, go_sem, e0, e1, e2]) rfl ⟨rfl, ?_⟩
        exact HK.out w1 z3 hb1
    · have t1 : ((s[0].toNat : Int) == 39) = false := by
        rw [beq_eq_false_iff_ne]; intro e
        exact q1 (UInt8.toNat_inj.1 (by have : (39 : UInt8).toNat = 39 := rfl; omega))
      clear q1 h39b
      · go_enter Tryd.func46, Tryd.ntmps46
        go_wp2_with fail
        refine (HC.out _ HP.out).mono ?_
        rintro e w1 ⟨p, rfl, hb1⟩
        have e0 := keepcell hb1 (newcell (g := w.heap.size) 0 (.int .i64 0) rfl rfl)
        have e1 := keepcell hb1 (newcell (g := w.heap.size) 1 (.int .i64 0) rfl rfl)
        have e2 := keepcell hb1 (newcell (g := w.heap.size) 2 (.string ⟨#[]⟩) rfl rfl)
        have f0 := keepfree (by simp) hb1 (newfree (w := w) (cs := #[.int .i64 0, .int .i64 0, .string ⟨#[]⟩]) (T := 23) (g := w.heap.size) rfl)
        go_wp2
        refine bodyPost_ret (v := .agg #[.int .i64 0, .int .i64 0, .string ⟨#[]⟩]) (by simp [results, Tryd.results46, go_sem, e0, e1, e2]) rfl ⟨rfl, ?_⟩
        exact HK.out w1 z3 hb1
  rcases hp : Lib.parseIntB 64 s.data.toList with v | _ | _
  · exact go1 v (fun w _ => (Tryd.strconv_ParseInt_10_at64_ok s (by omega) v hp w).mono fun e w' ⟨he, hw⟩ => ⟨he, by
      rcases hw with rfl | ⟨t, rfl⟩
      · exact Below.refl _ _
      · exact Lib.bytesWorld_below ..⟩)
  · exact go2 _ (fun w hw => by
      obtain ⟨tp, p, hv⟩ := hw.syn
      exact (Any.strconv_ParseInt_10_at64_syntax_var Tryd.laysC174 s (by omega) hp tp p w hv).mono fun e w' ⟨n, he, _, _, hb⟩ => ⟨_, he, hb⟩)
  · exact go2 _ (fun w hw => by
      obtain ⟨tp, p, hv⟩ := hw.rng
      exact (Any.strconv_ParseInt_10_at64_range_var Tryd.laysC174 s (by omega) hp tp p w hv).mono fun e w' ⟨n, he, _, _, hb⟩ => ⟨_, he, hb⟩)
theorem Cand_any (s : ByteArray) (w : World) (hP : EnvP w) (hs : s.size ≤ 1000) :
    Calls Tryd.prog 46 #[.string s] w fun e w' => e = .returned (aggV (candV s.data.toList)) ∧ Below w.heap.size w w' := by
  have e : s.data.toList.length = s.size := by simp
  unfold candV
  by_cases h1 : s.data.toList = [] ∨ s.data.toList = nullL
  · rw [if_pos h1]; exact Cand_zero s w h1
  · rw [if_neg h1]
    by_cases h2 : s.data.toList.head? = some 39 ∧ 1 < s.data.toList.length
    · rw [if_pos h2]; exact Cand_text s w hP.env h2.1 (by omega) hs
    · rw [if_neg h2]; exact Cand_num s w hP (fun h => h1 (.inl h)) (fun h => h1 (.inr h)) (by rw [← e]; exact h2) hs
end Go.Proofs.YtkigdglipoeaaaaDoor
