/- The least fresh epoch: the program's and the reference's. -/
import Derived.Test.YtgpofkabidginaaWsn
import Derived.Maps.Own
import Derived.Maps.OwnOps
import Derived.Maps.Views
namespace Go.Proofs.Ytgpofkabidginaa
open Go.ChangeShapes Go.WideShapes Go.ChangeAt Go.RowKit Go.ChangeMaps

theorem u32_keyed : Go.Maps.Keyed Try.prog 23 := Go.Maps.int_keyed Try.underlying23
theorem zero4 (w : World) : (zeroValue 4).run Try.prog w = .ok (.bool false) w := by kernel_rfl
/-- A set of numbers in a map. -/
def USet (w : World) (g n : Nat) (l : List Nat) : Prop := ∃ D : DataW Unit, w.ownsMap Try.prog 23 (plainElem Try.prog 4) g n D ∧ Go.Maps.IsMap D ∧ ∀ k : Nat, D.atKey (.int .u32 (k : Int)) (.lit (.bool false)) = .lit (.bool (decide (k ∈ l)))
theorem USet.new (w : World) : USet (w.alloc (.map #[] 0)) w.heap.size 0 [] :=
  ⟨_, World.ownsMap_made w Try.prog 23 _, Go.Maps.isMap_empty, fun k => by simp [DataW.atKey]⟩
theorem USet.below {w w' : World} {g n : Nat} {l : List Nat} (h : USet w g n l) (hb : Below w.heap.size w w') : USet w' g n l := by
  obtain ⟨D, h1, h2⟩ := h
  exact ⟨D, h1.kept (row := none) ⟨hb.os, hb.tape, hb.output, hb.size, fun i hi _ => hb.block i hi⟩ (by simp), h2⟩
theorem kwf {k : Nat} (h : k < 4294967296) : keyOf Try.prog 23 (.int .u32 (k : Int)) = some (.int .u32 (k : Int)) := Go.Maps.keyOf_int_mk Try.underlying23 (WalkArith.wf_u32 ⟨by omega, by omega⟩)
theorem USet.put {w : World} {ops : Array Oper} {rest : List Oper} {o : Oper} {a : Act} {Q : Exit → Act → World → Prop} {g n : Nat} {l : List Nat} {k : Nat} (hg : o.guard = none) (m x v : Operand) (hop : o.op = Op.mapUpdate 80 m x v)
    (hm : a.eval m = .map (some g)) (hx : a.eval x = .int .u32 (k : Int)) (hv : a.eval v = .bool true) (h : USet w g n l) (hk : k < 4294967296) (hn : n ≤ 1000000)
    (hK : ∀ w', USet w' g (n + 1) (l ++ [k]) → w.grownBy w' (some g) → wpList Try.prog ops Q rest (a.put o.dst undef) w') : wpList Try.prog ops Q (o :: rest) a w := by
  obtain ⟨D, h1, h2, h3⟩ := h
  refine wpList_mapUpdate_own w hg m x v 80 hop 23 4 u32_keyed Try.underlying80 _ g n D hm h1 (by unfold maxLen; omega) _ _ _ hx hv (kwf hk) (.lit (.bool true)) [] (plainElem_bool Try.underlying4 true) ?_
  intro w' hw hgr
  refine hK w' ⟨_, hw, h2.put _ _, fun j => ?_⟩ hgr
  by_cases hj : j = k
  · subst hj
    rw [Go.Maps.atKey_put_same h2 (by simp [WideAt.IsKeyLit])]
    simp
  · rw [Go.Maps.atKey_put_other (by simp; omega), h3 j]
    simp [hj]
theorem USet.look {w : World} {ops : Array Oper} {rest : List Oper} {o : Oper} {a : Act} {Q : Exit → Act → World → Prop} {g n : Nat} {l : List Nat} {k : Nat} (hg : o.guard = none) (m x : Operand) (hop : o.op = Op.lookup 80 m x false)
    (hm : a.eval m = .map (some g)) (hx : a.eval x = .int .u32 (k : Int)) (h : USet w g n l) (hk : k < 4294967296) (b : Bool) (hb : decide (k ∈ l) = b)
    (hK : wpList Try.prog ops Q rest (a.put o.dst (.bool b)) w) : wpList Try.prog ops Q (o :: rest) a w := by
  obtain ⟨D, h1, h2, h3⟩ := h
  refine wpList_plain hg fun K' hK' => ?_
  obtain ⟨v, ps, hrun, hv⟩ := h1.lookup u32_keyed Try.underlying80 (zero4 w) (plainElem_bool Try.underlying4 false) (kwf hk)
  have e := h3 k
  rw [hb] at e
  rw [e] at hv
  have hvb : v = .bool b := by
    unfold plainElem at hv
    rw [Try.underlying4] at hv
    cases v <;> simp at hv
    rw [hv.1]
  subst hvb
  unfold Oper.wp
  simp [execOp, hop, hm, hx, hrun, Result.andThen]
  exact hK' _ _ hK
/-- The answer. -/
def freshM (l : List Nat) (e : Nat) : Nat := if e ∈ l then if e < 4294967295 then freshM l (e + 1) else 0 else e
termination_by 4294967295 - e
theorem fresh_no {l : List Nat} {e : Nat} (h : e ∉ l) : freshM l e = e := by unfold freshM; rw [if_neg h]
theorem fresh_go {l : List Nat} {e : Nat} (h : e ∈ l) (h2 : e < 4294967295) : freshM l e = freshM l (e + 1) := by
  rw [freshM, if_pos h, if_pos h2]
theorem fresh_end {l : List Nat} {e : Nat} (h : e ∈ l) (h2 : ¬ e < 4294967295) : freshM l e = 0 := by unfold freshM; rw [if_pos h, if_neg h2]
theorem seg_ends {R : List (List UInt8)} {f i c : Nat} (hi : i < c) (hr : f + c ≤ R.length) : (((R.drop f).take c).map ends).take (i + 1) = (((R.drop f).take c).map ends).take i ++ [ends (R.getD (f + i) [])] := by
  have hl : i < (((R.drop f).take c).map ends).length := by rw [List.length_map, List.length_take, List.length_drop]; omega
  rw [List.take_succ_eq_append_getElem hl, List.getElem_map, List.getElem_take, List.getElem_drop, List.getD_eq_getElem?_getD, List.getElem?_eq_getElem (by omega)]
  rfl
theorem Fresh_bad (w : World) (p q : Nat) (s : St) (h : Dk w p q s) (f c e : Int) (hb : mayB (s.R.length : Nat) f c e = false) : Calls Try.prog 31 #[.pointer (some ⟨p, 0, none⟩), .int .i64 f, .int .i64 c, .int .u32 e] w fun e' w' => e' = .returned (.tuple #[.int .u32 0, .int .i64 1]) ∧ w = w' := by
  have HV := Lib.hid (valid_any w p q s h f c e false hb)
  clear hb h
  go_enter Try.func31, Try.ntmps31
  go_wp2_with (go_at_call 42; refine HV.out.mono ?_; rintro e w' ⟨rfl, rfl⟩)
  go_ret2
  exact ⟨rfl, rfl⟩
def FreshR (m : Nat) (e' : Ending) : Prop := e' = .returned (.tuple #[.int .u32 (m : Int), .int .i64 (if m = 0 then 16 else 0)])
set_option maxRecDepth 100000 in
set_option maxHeartbeats 2000000 in
theorem Fresh_ok (w : World) (p q : Nat) (s : St) (h : Dk w p q s) (hsf : s.f = false) (f c e : Nat) (hb : mayB (s.R.length : Nat) f c e = true) (he : e < 4294967296) :
    Calls Try.prog 31 #[.pointer (some ⟨p, 0, none⟩), .int .i64 (f : Int), .int .i64 (c : Int), .int .u32 (e : Int)] w fun e' w' => FreshR (freshM (((s.R.drop f).take c).map ends) e) e' ∧ Below w.heap.size w w' := by
  have HV := Lib.hid (valid_any w p q s h f c e true hb)
  have hv := mayB_of hb
  have hn : s.R.length ≤ 65536 := h.2.2.2.2.2.1
  obtain ⟨h1, h2, h3, h4, h5⟩ := hv
  have hfc : f + c ≤ s.R.length := by omega
  have he1 : 1 ≤ e := by omega
  have HD := Lib.hid h
  have H64 := Lib.hid h.2.2.2.1
  obtain ⟨LL, hLL⟩ : ∃ x, ((s.R.drop f).take c).map ends = x := ⟨_, rfl⟩
  have HLL := Lib.hid hLL
  rw [hLL]
  have HLN : Hid (LL.length = c) := Lib.hid (by rw [← hLL, List.length_map, List.length_take, List.length_drop]; omega)
  obtain ⟨r, hr⟩ : ∃ x, freshM LL e = x := ⟨_, rfl⟩
  rw [hr]
  have HR := Lib.hid hr
  have HU := Lib.hid (USet.new w)
  have hmm := @run_makeMap Try.prog
  clear hb h h1 h2 h4 hLL hr
  go_enter Try.func31, Try.ntmps31
  go_wp2_with (go_at_call 42; refine HV.out.mono ?_; rintro e w' ⟨rfl, rfl⟩)
  go_loopw [22] (fun iv wr => ∃ (i : Nat), iv = .int .i64 (i : Int) ∧ i ≤ c ∧ USet wr w.heap.size i (LL.take i) ∧ Below w.heap.size w wr) (fun iv _ => c - (intOf iv).toNat)
  case atStart => exact ⟨0, rfl, Nat.zero_le _, HU.out, (Below.refl _ _).alloc (Nat.le_refl _) _⟩
  case round =>
    clear hmm HU
    obtain ⟨i, rfl, hic, hus, hB⟩ := hrel
    have HO := Lib.hid hus
    have HB := Lib.hid hB
    clear hus hB
    by_cases hlt : i < c
    · have hlti : (i : Int) < (c : Int) := by omega
      have hk : f + i < s.R.length := by omega
      have HSG := Lib.hid (seg_ends (R := s.R) hlt hfc)
      have hrd := Read_ok wr p q s (HD.out.below HB.out) hsf (f + i) hk
      rw [show ((f + i : Nat) : Int) = (f : Int) + (i : Int) by omega] at hrd
      have HRD := Lib.hid hrd
      clear hrd
      obtain ⟨sec, hsec⟩ : ∃ x, s.R.getD (f + i) [] = x := ⟨_, rfl⟩
      have HSL : Hid (sec.length = 64) := Lib.hid (by rw [← hsec]; exact getD_len64 H64.out hk)
      rw [hsec] at HRD HSG
      clear hsec
      obtain ⟨en, hen⟩ : ∃ x, ends sec = x := ⟨_, rfl⟩
      have henl : en < 4294967296 := by rw [← hen]; exact rd4_lt _
      have HEN := Lib.hid hen
      rw [hen] at HSG
      clear hen
      go_wp2_with fail
      refine HRD.out.mono ?_
      rintro e' w2 ⟨g, rfl, hgg, hgb, hb2⟩
      have HSB := Lib.hid (bytes_of_blk (n := 64) hgb HSL.out)
      have HB2 := Lib.hid (HB.out.trans (hb2.mono HB.out.size))
      have HO2 := Lib.hid (HO.out.below hb2)
      have HNB := Lib.hid (number_any w2 g (0 + 60) (64 - 60) 4 _ (HSB.out.drop (by decide)) (by decide) (by decide) (en : Int) (by rw [← HEN.out]; rfl))
      clear hgg hgb hb2 HB HO HRD
      change Hid (Calls Try.prog 51 #[.slice (some ⟨g, 60, none⟩) 4 4] w2 fun e w' => e = .returned (.int .u32 (en : Int)) ∧ ∃ k, w' = w2.drewN k) at HNB
      go_wp2_with fail
      refine HNB.out.mono ?_
      rintro e' w3 ⟨rfl, hw3⟩
      have hb3 := below_dn hw3
      have HB3 := Lib.hid (HB2.out.trans (hb3.mono HB2.out.size))
      have HO3 := Lib.hid (HO2.out.below hb3)
      clear hw3 hb3 HB2 HO2 HNB
      go_wp2_with (at_mapUpdate; refine USet.put rfl _ _ _ rfl rfl rfl rfl HO3.out henl (by omega) ?_; intro w4 hu4 hg4)
      have HU4 := Lib.hid (show USet w4 w.heap.size (i + 1) (LL.take (i + 1)) from by
        have := HSG.out
        rw [HLL.out] at this
        rw [this]; exact hu4)
      have HB4 := Lib.hid (HB3.out.grown hg4 HB3.out.size (fun j hj => by cases hj; exact Nat.le_refl _))
      clear hu4 hg4
      go_roundw
      case rel => exact ⟨i + 1, by go_num, by omega, HU4.out, HB4.out⟩
      case measure => simp [intOf]; omega
    · obtain rfl : i = c := by omega
      have HU := Lib.hid (show USet wr w.heap.size i LL from by have := HO.out; rwa [List.take_of_length_le (by rw [HLN.out]; omega)] at this)
      clear HO
      go_wp2_with fail
      go_loopw [3] (fun ev wq => ∃ (a : Nat), ev = .int .u32 (a : Int) ∧ 1 ≤ a ∧ a ≤ 4294967295 ∧ freshM LL a = r ∧ USet wq w.heap.size i LL ∧ Below w.heap.size w wq) (fun ev _ => 4294967295 - (intOf ev).toNat)
      case atStart => exact ⟨e, rfl, he1, by omega, HR.out, HU.out, HB.out⟩
      case round =>
        obtain ⟨a, rfl, ha1, ha2, har, hu, hB⟩ := hrel
        have HA := Lib.hid har
        have HO := Lib.hid hu
        have HW := Lib.hid hB
        clear har hu hB
        by_cases hm : a ∈ LL
        · by_cases hmax : a < 4294967295
          · have hne : ((a : Int) == 4294967295) = false := by simp; omega
            have HA2 := Lib.hid (show freshM LL (a + 1) = r from by rw [← fresh_go hm hmax]; exact HA.out)
            go_wp2_with (at_lookup; refine USet.look rfl _ _ rfl rfl rfl HO.out (by omega) true (decide_eq_true hm) ?_)
            go_roundw
            case rel => exact ⟨a + 1, by go_num, by omega, by omega, HA2.out, HO.out, HW.out⟩
            case measure => simp [intOf]; omega
          · obtain rfl : a = 4294967295 := by omega
            have HA2 := Lib.hid (show r = 0 from by rw [← fresh_end hm hmax]; exact HA.out.symm)
            go_wp2_with (at_lookup; refine USet.look rfl _ _ rfl rfl rfl HO.out (by omega) true (decide_eq_true hm) ?_)
            go_ret2
            exact ⟨by rw [HA2.out]; rfl, HW.out⟩
        · have HA2 := Lib.hid (show r = a from by rw [← fresh_no hm]; exact HA.out.symm)
          go_wp2_with (at_lookup; refine USet.look rfl _ _ rfl rfl rfl HO.out (by omega) false (decide_eq_false hm) ?_)
          go_ret2
          exact ⟨by rw [HA2.out]; unfold FreshR; rw [if_neg (by omega)]; rfl, HW.out⟩
end Go.Proofs.Ytgpofkabidginaa
