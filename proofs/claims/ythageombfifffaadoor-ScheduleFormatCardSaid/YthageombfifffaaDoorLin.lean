/- The line of an action. -/
import Derived.Test.YthageombfifffaaDoorSam
import Derived.Test.YthageombfifffaaDoorShelf
import Derived.Lib.AppendIntMem
import Derived.Lib.ItoaLen
namespace Go.Proofs.YthageombfifffaaDoor
open Go.ChangeShapes Go.WideShapes Go.ChangeAt Go.RowKit Go.ChangeMaps

structure Env (w : World) : Prop where
  tab : Lib.TabIs Tryd.prog w "internal/strconv.uint64pow10" .u64 Lib.pow10Tab
theorem Env.below {w w' : World} (h : Env w) (hb : Below w.heap.size w w') : Env w' := ⟨Joins.tab_stays (g := 3) (by kernel_rfl) h.tab hb (Nat.le_refl _)⟩
def lineS (a : Act) : List UInt8 :=
  if a.k = 1 then [115, 116, 101, 112, 32] ++ Lib.itoa a.s else if a.k = 2 then [99, 104, 101, 99, 107, 112, 111, 105, 110, 116] else if a.k = 4 then [114, 101, 99, 111, 118, 101, 114] else if a.w = 0 then [99, 114, 97, 115, 104] else [99, 114, 97, 115, 104, 32] ++ Lib.itoa a.w ++ [32] ++ Lib.itoa a.b
theorem Itoa_any (n : Int) (w : World) (hE : Env w) (h0 : -9223372036854775808 ≤ n) (h1 : n ≤ 9223372036854775807) (f : ByteArray) (hf : (⟨(Lib.itoa n).toArray⟩ : ByteArray) = f) :
    Calls Tryd.prog 38 #[.int .i64 n] w fun e w' => e = .returned (.string f) ∧ Below w.heap.size w w' := by
  subst hf
  exact (Tryd.strconv_Itoa n h0 h1 w hE.tab).mono fun e w' ⟨he, k, os, hw⟩ => ⟨he, by subst hw; exact Lib.below_grow _ _ (Nat.le_refl _) _ _⟩
theorem itoaB (n : Int) (h0 : -9223372036854775808 ≤ n) (h1 : n ≤ 9223372036854775807) : ∃ f : ByteArray, (⟨(Lib.itoa n).toArray⟩ : ByteArray) = f ∧ f.data.toList = Lib.itoa n ∧ f.size ≤ 21 := by
  refine ⟨_, rfl, rfl, ?_⟩
  show (Lib.itoa n).toArray.size ≤ 21
  rw [List.size_toArray]; exact Lib.itoa_length_le n h0 h1
theorem bytes_eq (s : ByteArray) (l : List UInt8) (h : s.data.toList = l) : (⟨l.toArray⟩ : ByteArray) = s := by
  rcases s with ⟨a⟩
  subst h
  rfl
set_option maxHeartbeats 1000000 in
theorem line_any (k s v b : Int) (w : World) (hE : Env w) (hx : (⟨k, s, v, b⟩ : Act).ok) :
    Calls Tryd.prog 30 #[.agg #[.int .i64 k, .int .i64 s, .int .i64 v, .int .i64 b]] w fun e w' => e = .returned (.string ⟨(lineS ⟨k, s, v, b⟩).toArray⟩) ∧ Below w.heap.size w w' := by
  have HB := Lib.hid ((Below.refl w.heap.size w).alloc (Nat.le_refl _) (.cells #[.int .i64 k, .int .i64 s, .int .i64 v, .int .i64 b] 29))
  have HE := Lib.hid (hE.below HB.out)
  have HL : Hid (lineS ⟨k, s, v, b⟩ = if k = 1 then [115, 116, 101, 112, 32] ++ Lib.itoa s else if k = 2 then [99, 104, 101, 99, 107, 112, 111, 105, 110, 116] else if k = 4 then [114, 101, 99, 111, 118, 101, 114] else if v = 0 then [99, 114, 97, 115, 104] else [99, 114, 97, 115, 104, 32] ++ Lib.itoa v ++ [32] ++ Lib.itoa b) := Lib.hid rfl
  generalize lineS ⟨k, s, v, b⟩ = l at *
  clear hE
  unfold Act.ok at hx
  simp only at hx
  by_cases h1 : k = 1
  · have q := HL.out.trans (if_pos h1)
    obtain ⟨f, hf, hl, hs⟩ := itoaB s (by omega) (by omega)
    have HC := Lib.hid (fun w hE => Itoa_any s w hE (by omega) (by omega) f hf)
    have e := bytes_eq ((⟨#[115, 116, 101, 112, 32]⟩ : ByteArray) ++ f) l (by rw [q, ByteArray.data_append, Array.toList_append, hl])
    have HV := Lib.hid e
    have s1 : (⟨#[115, 116, 101, 112, 32]⟩ : ByteArray).size = 5 := rfl
    clear e q hf hl HL
    subst h1
    go_enter Tryd.func30, Tryd.ntmps30
    go_wp2_with (go_at_call 38; refine (HC.out _ HE.out).mono ?_; rintro e w2 ⟨rfl, hb2⟩)
    go_ret
    exact ⟨by rw [HV.out]; first | rfl | simp [ByteArray.append_assoc], HB.out.trans (hb2.mono HB.out.size)⟩
  have b1 : (k == 1) = false := by simpa using h1
  by_cases h2 : k = 2
  · have q := HL.out.trans ((if_neg h1).trans (if_pos h2))
    subst q
    subst h2
    clear HL
    go_enter Tryd.func30, Tryd.ntmps30
    go_wp2
    go_ret
    exact ⟨rfl, HB.out⟩
  have b2 : (k == 2) = false := by simpa using h2
  by_cases h4 : k = 4
  · have q := HL.out.trans ((if_neg h1).trans ((if_neg h2).trans (if_pos h4)))
    subst q
    subst h4
    clear HL
    go_enter Tryd.func30, Tryd.ntmps30
    go_wp2
    go_ret
    exact ⟨rfl, HB.out⟩
  have b4 : (k == 4) = false := by simpa using h4
  by_cases hv : v = 0
  · have q := HL.out.trans ((if_neg h1).trans ((if_neg h2).trans ((if_neg h4).trans (if_pos hv))))
    subst q
    subst hv
    clear HL h1 h2 h4
    go_enter Tryd.func30, Tryd.ntmps30
    go_wp2
    go_ret
    exact ⟨rfl, HB.out⟩
  have bv : (v == 0) = false := by simpa using hv
  have q := HL.out.trans ((if_neg h1).trans ((if_neg h2).trans ((if_neg h4).trans (if_neg hv))))
  obtain ⟨f, hf, hl, hs⟩ := itoaB v (by omega) (by omega)
  obtain ⟨g, hg, hm, ht⟩ := itoaB b (by omega) (by omega)
  have C1 := Lib.hid (fun w hE => Itoa_any v w hE (by omega) (by omega) f hf)
  have C2 := Lib.hid (fun w hE => Itoa_any b w hE (by omega) (by omega) g hg)
  have e := bytes_eq ((⟨#[99, 114, 97, 115, 104, 32]⟩ : ByteArray) ++ f ++ (⟨#[32]⟩ : ByteArray) ++ g) l (by rw [q]; simp only [ByteArray.data_append, Array.toList_append, hl, hm])
  have HV := Lib.hid e
  have s1 : (⟨#[99, 114, 97, 115, 104, 32]⟩ : ByteArray).size = 6 := rfl
  have s2 : (⟨#[32]⟩ : ByteArray).size = 1 := rfl
  have s3 : ((⟨#[99, 114, 97, 115, 104, 32]⟩ : ByteArray) ++ f).size ≤ 27 := by rw [ByteArray.size_append]; omega
  have s4 : ((⟨#[99, 114, 97, 115, 104, 32]⟩ : ByteArray) ++ f ++ (⟨#[32]⟩ : ByteArray)).size ≤ 28 := by rw [ByteArray.size_append]; omega
  clear e q hf hl hg hm HL h1 h2 h4 hv
  have c2 := fun d os => cell_regrown (newcell (w := w) (T := 29) (cs := #[.int .i64 k, .int .i64 s, .int .i64 v, .int .i64 b]) (g := w.heap.size) 2 (.int .i64 v) rfl rfl) d os
  have c3 := fun d os => cell_regrown (newcell (w := w) (T := 29) (cs := #[.int .i64 k, .int .i64 s, .int .i64 v, .int .i64 b]) (g := w.heap.size) 3 (.int .i64 b) rfl rfl) d os
  go_enter Tryd.func30, Tryd.ntmps30
  go_wp2
  refine wp_region_quiet_below (by kernel_rfl) (by kernel_rfl) ?_
  repeat (first | go_big_quiet_step ((go_at_call 38; first | with_reducible exact Calls.regrown_of (C1.out _ (HE.out.below (below_regrown _ _ _))) | with_reducible exact Calls.regrown_of (C2.out _ (HE.out.below (below_regrown _ _ _))))) | quiet_step ((go_at_call 38; first | with_reducible exact Calls.regrown_of (C1.out _ (HE.out.below (below_regrown _ _ _))) | with_reducible exact Calls.regrown_of (C2.out _ (HE.out.below (below_regrown _ _ _))))))
  refine wpQuiet_nil ?_
  intro _ hw'
  obtain ⟨⟨dq, osq⟩, hw''⟩ := hw'
  subst hw''
  go_wp2
  go_ret
  exact ⟨by rw [HV.out]; first | rfl | simp [ByteArray.append_assoc], HB.out.trans ((below_regrown _ _ _).mono HB.out.size)⟩
end Go.Proofs.YthageombfifffaaDoor
