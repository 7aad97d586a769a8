/- Key and its reference. -/
import Derived.Test.YtdfkcibmmabjcaaRow
namespace Go.Proofs.Ytdfkcibmmabjcaa
open Go.ChangeShapes Go.WideShapes Go.ChangeAt Go.RowKit Go.ChangeMaps

def IntsAt (w : World) (A : Option Addr) (n : Nat) (zs : List Int) : Prop := zs.length = n ∧ (0 < n → ∃ b off, A = some ⟨b, off, none⟩ ∧ b < w.heap.size ∧ ∀ i (h : i < zs.length), w.cell? ⟨b, off + i, none⟩ = some (.int .i64 zs[i]))
theorem IntsAt.below {w w' : World} {A : Option Addr} {n : Nat} {zs : List Int} (h : IntsAt w A n zs) (hb : Below w.heap.size w w') : IntsAt w' A n zs :=
  ⟨h.1, fun hn => by
    obtain ⟨b, off, e, hl, hc⟩ := h.2 hn
    exact ⟨b, off, e, Nat.lt_of_lt_of_le hl hb.size, fun i hi => keepcell hb (hc i hi)⟩⟩
def pickV (R : List V3) (z : Int) : V3 := if 0 ≤ z ∧ z < R.length then R.getD z.toNat ⟨0, 0, ⟨#[]⟩⟩ else ⟨0, 0, ⟨#[]⟩⟩
theorem pickV_in (R : List V3) (j : Nat) (h : j < R.length) : pickV R j = R[j] := by
  unfold pickV
  rw [if_pos ⟨by omega, by omega⟩]; simp [List.getD, List.getElem?_eq_getElem h]
theorem pickV_out (R : List V3) (z : Int) (h : z < 0 ∨ (R.length : Int) ≤ z) : pickV R z = ⟨0, 0, ⟨#[]⟩⟩ := by unfold pickV; rw [if_neg (by omega)]
def colR (R : List V3) (zs : List Int) (k : Nat) : List UInt8 := (zs.take k).flatMap fun z => (pickV R z).enc
theorem colR_snoc (R : List V3) (zs : List Int) (k : Nat) (h : k < zs.length) : colR R zs (k + 1) = colR R zs k ++ encV (pickV R zs[k]).k (pickV R zs[k]).n (pickV R zs[k]).s.data.toList := by
  unfold colR
  rw [List.take_succ_eq_append_getElem h, List.flatMap_append]; simp [V3.enc]
theorem colR_len (R : List V3) (zs : List Int) (k : Nat) (hS : (R.map fun x => x.s.size + 1).sum ≤ 600) : (colR R zs k).length ≤ 6009 * k := by
  have one : ∀ z, (pickV R z).enc.length ≤ 6009 := by
    intro z
    have h1 := encV_len (pickV R z).k (pickV R z).n (pickV R z).s.data.toList
    have e : (pickV R z).s.data.toList.length = (pickV R z).s.size := by simp
    have : (pickV R z).s.size ≤ 600 := by
      by_cases h : 0 ≤ z ∧ z < R.length
      · obtain ⟨j, rfl⟩ : ∃ j : Nat, z = j := ⟨z.toNat, by omega⟩
        rw [pickV_in R j (by omega)]
        have := mem_sum R R[j] (List.getElem_mem _); omega
      · rw [pickV_out R z (by omega)]; decide
    unfold V3.enc; omega
  unfold colR
  have : ∀ l : List Int, (l.flatMap fun z => (pickV R z).enc).length ≤ 6009 * l.length := by
    intro l
    induction l with
    | nil => simp
    | cons z l ih => rw [List.flatMap_cons, List.length_append, List.length_cons]; have := one z; omega
  have h2 := this (zs.take k)
  have h3 : (zs.take k).length ≤ k := List.length_take_le _ _
  have : 6009 * (zs.take k).length ≤ 6009 * k := Nat.mul_le_mul_left _ h3
  omega

set_option maxRecDepth 100000 in
set_option maxHeartbeats 1000000 in
theorem Key_any (A : Option Addr) (n c : Nat) (R : List V3) (D : Option Addr) (m e : Nat) (zs : List Int) (w : World) (hr : RowAt w A n R) (hn : n ≤ 9223372036854775807) (hR : ∀ x ∈ R, x.ok) (hS : (R.map fun x => x.s.size + 1).sum ≤ 600) (hz : IntsAt w D m zs) (hm : m ≤ 20) :
    Calls Try.prog 23 #[.slice A n c, .slice D m e] w fun e w' => e = .returned (.string ⟨(colR R zs m).toArray⟩) ∧ Below w.heap.size w w' := by
  obtain ⟨i0, hi, hz0, hz1, hz2⟩ := info_parts Try.info5
  rcases Nat.eq_zero_or_pos m with h0 | h0
  · subst h0
    go_enter Try.func23, Try.ntmps23
    go_wp2
    refine wp_loop_rounds 1 ?_
    rw [rounds_succ]
    have hcv := fun w => run_string_own (P := Try.prog) w 28 9 5 0 (.slice none 0 0) [] Try.underlying28 Try.underlying5 Try.underlying9 (World.ownsRow_nil _ _ _ _)
    go_wp2
    go_ret
    exact ⟨rfl, Below.refl _ _⟩
  · obtain ⟨b, off, rfl, hb, hc⟩ := hz.2 h0
    have HZ := Lib.hid hz.1
    have HR := Lib.hid hr
    clear hz hr
    go_enter Try.func23, Try.ntmps23
    go_wp2
    go_loopw [5, 11] (fun v i wr => ∃ k : Nat, k ≤ m ∧ i = .int .i64 k ∧ Grows 5 w.heap.size w (.slice none 0 0) (colR R zs k) v wr) (fun _ i _ => m - (intOf i).toNat)
    case atStart => exact ⟨0, Nat.zero_le _, rfl, Grows.none_ (Nat.le_refl _)⟩
    case round =>
      obtain ⟨k, hk, rfl, hG⟩ := hrel
      have hB := hG.is_below rfl
      by_cases hlt : k < m
      · have hkR : k < zs.length := by rw [HZ.out]; exact hlt
        have c0 := (hB.cell (p := ⟨b, off + k, none⟩) hb).trans (hc k hkR)
        have H1 := Lib.hid (colR_snoc R zs k hkR)
        have hl := colR_len R zs k hS
        have hl2 : (colR R zs k).length ≤ 200000 := by have : 6009 * k ≤ 6009 * 20 := Nat.mul_le_mul_left _ (by omega); omega
        have HG := Lib.hid hG
        have HB := Lib.hid hB
        clear hG hB hl
        generalize colR R zs k = q at *
        have f0 := pastcell (x := .cells #[.int .i64 0, .int .i64 0, .string ⟨#[]⟩] 23) c0
        generalize zs[k] = z at *
        rcases (show (z < 0) ∨ (0 ≤ z ∧ (n : Int) ≤ z) ∨ ∃ j : Nat, z = j ∧ j < n by
          rcases Int.lt_or_le z 0 with h | h
          · exact .inl h
          · rcases Int.lt_or_le z n with h' | h'
            · exact .inr (.inr ⟨z.toNat, by omega, by omega⟩)
            · exact .inr (.inl ⟨h, h'⟩)) with h1 | ⟨h1, h2⟩ | ⟨j, rfl, h1⟩
        · rw [pickV_out R z (by rw [HR.out.1]; omega)] at H1
          go_wp2_with (go_at_call 30; refine (appendValue_any 0 0 ⟨#[]⟩ (HG.out.alloc _) (by omega) (by omega) (by omega) (by decide)).mono ?_; rintro e w2 ⟨v2, rfl, G2⟩)
          have HG2 := Lib.hid G2
          clear G2
          go_roundw
          case rel => exact ⟨k + 1, by omega, by go_num, by rw [H1.out]; exact HG2.out⟩
          case measure => simp [intOf]; omega
        · rw [pickV_out R z (by rw [HR.out.1]; omega)] at H1
          have h3 : ¬ z < (n : Int) := by omega
          go_wp2_with (go_at_call 30; refine (appendValue_any 0 0 ⟨#[]⟩ (HG.out.alloc _) (by omega) (by omega) (by omega) (by decide)).mono ?_; rintro e w2 ⟨v2, rfl, G2⟩)
          have HG2 := Lib.hid G2
          clear G2
          go_roundw
          case rel => exact ⟨k + 1, by omega, by go_num, by rw [H1.out]; exact HG2.out⟩
          case measure => simp [intOf]; omega
        · obtain ⟨g, o2, rfl, hg, hcs⟩ := HR.out.2 (by omega)
          have hjR : j < R.length := by rw [HR.out.1]; exact h1
          rw [pickV_in R j hjR] at H1
          obtain ⟨d0, d1, d2⟩ := hcs j hjR
          have d0 := (HB.out.cell (p := ⟨g, o2 + j * 3, none⟩) hg).trans d0
          have d1 := (HB.out.cell (p := ⟨g, o2 + j * 3 + 1, none⟩) hg).trans d1
          have d2 := (HB.out.cell (p := ⟨g, o2 + j * 3 + 2, none⟩) hg).trans d2
          obtain ⟨_, _, n1, n2, _⟩ := hR R[j] (List.getElem_mem _)
          have hz : R[j].s.size ≤ 600 := by have := mem_sum R R[j] (List.getElem_mem _); omega
          have e0 := pastcell (x := .cells #[.int .i64 0, .int .i64 0, .string ⟨#[]⟩] 23) d0
          have e1 := pastcell (x := .cells #[.int .i64 0, .int .i64 0, .string ⟨#[]⟩] 23) d1
          have e2 := pastcell (x := .cells #[.int .i64 0, .int .i64 0, .string ⟨#[]⟩] 23) d2
          clear hcs
          generalize R[j] = x at *
          rcases x with ⟨xk, xn, xs⟩
          simp only at d0 d1 d2 e0 e1 e2 n1 n2 hz H1
          go_wp2_with (go_at_call 30; refine (appendValue_any xk xn xs (HG.out.alloc _) (by omega) n1 n2 (by omega)).mono ?_; rintro e w2 ⟨v2, rfl, G2⟩)
          have HG2 := Lib.hid G2
          clear G2
          go_roundw
          case rel => exact ⟨k + 1, by omega, by go_num, by rw [H1.out]; exact HG2.out⟩
          case measure => simp [intOf]; omega
      · obtain rfl : k = m := by omega
        have HG := Lib.hid hG
        clear hG
        have hcv := run_string_own wr 28 9 5 _ _ _ Try.underlying28 Try.underlying5 Try.underlying9 HG.out.1
        go_wp2
        go_ret
        exact ⟨rfl, HG.out.is_below rfl⟩

set_option maxRecDepth 100000 in
set_option maxHeartbeats 1000000 in
theorem refKey_any (A : Option Addr) (n c : Nat) (R : List V3) (D : Option Addr) (m e : Nat) (zs : List Int) (w : World) (hr : RowAt w A n R) (hn : n ≤ 9223372036854775807) (hR : ∀ x ∈ R, x.ok) (hS : (R.map fun x => x.s.size + 1).sum ≤ 600) (hz : IntsAt w D m zs) (hm : m ≤ 20) :
    Calls Try.prog 24 #[.slice A n c, .slice D m e] w fun e w' => e = .returned (.string ⟨(colR R zs m).toArray⟩) ∧ Below w.heap.size w w' := by
  obtain ⟨i0, hi, hz0, hz1, hz2⟩ := info_parts Try.info5
  rcases Nat.eq_zero_or_pos m with h0 | h0
  · subst h0
    go_enter Try.func24, Try.ntmps24
    go_wp2
    refine wp_loop_rounds 1 ?_
    rw [rounds_succ]
    have hcv := fun w => run_string_own (P := Try.prog) w 28 9 5 0 (.slice none 0 0) [] Try.underlying28 Try.underlying5 Try.underlying9 (World.ownsRow_nil _ _ _ _)
    go_wp2
    go_ret
    exact ⟨rfl, Below.refl _ _⟩
  · obtain ⟨b, off, rfl, hb, hc⟩ := hz.2 h0
    have HZ := Lib.hid hz.1
    have HR := Lib.hid hr
    clear hz hr
    go_enter Try.func24, Try.ntmps24
    go_wp2
    go_loopw [5, 6] (fun v i wr => ∃ k : Nat, k ≤ m ∧ i = .int .i64 k ∧ Grows 5 w.heap.size w (.slice none 0 0) (colR R zs k) v wr) (fun _ i _ => m - (intOf i).toNat)
    case atStart => exact ⟨0, Nat.zero_le _, rfl, Grows.none_ (Nat.le_refl _)⟩
    case round =>
      obtain ⟨k, hk, rfl, hG⟩ := hrel
      have hB := hG.is_below rfl
      by_cases hlt : k < m
      · have hkR : k < zs.length := by rw [HZ.out]; exact hlt
        have c0 := (hB.cell (p := ⟨b, off + k, none⟩) hb).trans (hc k hkR)
        have H1 := Lib.hid (colR_snoc R zs k hkR)
        have hl := colR_len R zs k hS
        have hl2 : (colR R zs k).length ≤ 200000 := by have : 6009 * k ≤ 6009 * 20 := Nat.mul_le_mul_left _ (by omega); omega
        have HG := Lib.hid hG
        have HB := Lib.hid hB
        clear hG hB hl
        generalize colR R zs k = q at *
        have f0 := pastcell (x := .cells #[.int .i64 0, .int .i64 0, .string ⟨#[]⟩] 23) c0
        generalize zs[k] = z at *
        rcases (show (z < 0) ∨ (0 ≤ z ∧ (n : Int) ≤ z) ∨ ∃ j : Nat, z = j ∧ j < n by
          rcases Int.lt_or_le z 0 with h | h
          · exact .inl h
          · rcases Int.lt_or_le z n with h' | h'
            · exact .inr (.inr ⟨z.toNat, by omega, by omega⟩)
            · exact .inr (.inl ⟨h, h'⟩)) with h1 | ⟨h1, h2⟩ | ⟨j, rfl, h1⟩
        · rw [pickV_out R z (by rw [HR.out.1]; omega)] at H1
          have HV := Lib.hid (fun w => Value_any 0 0 ⟨#[]⟩ w (by omega) (by omega) (by decide))
          have hm2 : (encV 0 0 (⟨#[]⟩ : ByteArray).data.toList).length ≤ 6000 := by have := encV_len 0 0 (⟨#[]⟩ : ByteArray).data.toList; have e := (show (ByteArray.data ⟨#[]⟩).toList.length = 0 by rfl); omega
          generalize encV 0 0 (⟨#[]⟩ : ByteArray).data.toList = y at *
          go_wp2_with (first
            | (go_at_call 14; refine (HV.out _).mono ?_; rintro e w2 ⟨v2, rfl, o2, hb2⟩)
            | (at_builtin; refine wpList_app rfl (.tmp 36) (.tmp 38) 28 28 rfl w.heap.size w (.slice none 0 0) 5 i0 Try.underlying28 hi hz0 hz1 hz2 _ q rfl ((HG.out.alloc _).below hb2) _ y.length y rfl (src_own Try.underlying28 o2) (by omega) ?_; intro v3 w3 G3 z3 k3))
          clear k3 z3
          have HG2 := Lib.hid G3
          clear G3
          go_roundw
          case rel => exact ⟨k + 1, by omega, by go_num, by rw [H1.out]; exact HG2.out⟩
          case measure => simp [intOf]; omega
        · rw [pickV_out R z (by rw [HR.out.1]; omega)] at H1
          have h3 : ¬ z < (n : Int) := by omega
          have HV := Lib.hid (fun w => Value_any 0 0 ⟨#[]⟩ w (by omega) (by omega) (by decide))
          have hm2 : (encV 0 0 (⟨#[]⟩ : ByteArray).data.toList).length ≤ 6000 := by have := encV_len 0 0 (⟨#[]⟩ : ByteArray).data.toList; have e := (show (ByteArray.data ⟨#[]⟩).toList.length = 0 by rfl); omega
          generalize encV 0 0 (⟨#[]⟩ : ByteArray).data.toList = y at *
          go_wp2_with (first
            | (go_at_call 14; refine (HV.out _).mono ?_; rintro e w2 ⟨v2, rfl, o2, hb2⟩)
            | (at_builtin; refine wpList_app rfl (.tmp 36) (.tmp 38) 28 28 rfl w.heap.size w (.slice none 0 0) 5 i0 Try.underlying28 hi hz0 hz1 hz2 _ q rfl ((HG.out.alloc _).below hb2) _ y.length y rfl (src_own Try.underlying28 o2) (by omega) ?_; intro v3 w3 G3 z3 k3))
          clear k3 z3
          have HG2 := Lib.hid G3
          clear G3
          go_roundw
          case rel => exact ⟨k + 1, by omega, by go_num, by rw [H1.out]; exact HG2.out⟩
          case measure => simp [intOf]; omega
        · obtain ⟨g, o2, rfl, hg, hcs⟩ := HR.out.2 (by omega)
          have hjR : j < R.length := by rw [HR.out.1]; exact h1
          rw [pickV_in R j hjR] at H1
          obtain ⟨d0, d1, d2⟩ := hcs j hjR
          have d0 := (HB.out.cell (p := ⟨g, o2 + j * 3, none⟩) hg).trans d0
          have d1 := (HB.out.cell (p := ⟨g, o2 + j * 3 + 1, none⟩) hg).trans d1
          have d2 := (HB.out.cell (p := ⟨g, o2 + j * 3 + 2, none⟩) hg).trans d2
          obtain ⟨_, _, n1, n2, _⟩ := hR R[j] (List.getElem_mem _)
          have hz : R[j].s.size ≤ 600 := by have := mem_sum R R[j] (List.getElem_mem _); omega
          have e0 := pastcell (x := .cells #[.int .i64 0, .int .i64 0, .string ⟨#[]⟩] 23) d0
          have e1 := pastcell (x := .cells #[.int .i64 0, .int .i64 0, .string ⟨#[]⟩] 23) d1
          have e2 := pastcell (x := .cells #[.int .i64 0, .int .i64 0, .string ⟨#[]⟩] 23) d2
          clear hcs
          generalize R[j] = x at *
          rcases x with ⟨xk, xn, xs⟩
          simp only at d0 d1 d2 e0 e1 e2 n1 n2 hz H1
          have HV := Lib.hid (fun w => Value_any xk xn xs w n1 n2 (by omega))
          have hm2 : (encV xk xn (xs : ByteArray).data.toList).length ≤ 6000 := by have := encV_len xk xn (xs : ByteArray).data.toList; have e := (show xs.data.toList.length = xs.size by simp); omega
          generalize encV xk xn (xs : ByteArray).data.toList = y at *
          go_wp2_with (first
            | (go_at_call 14; refine (HV.out _).mono ?_; rintro e w2 ⟨v2, rfl, o2, hb2⟩)
            | (at_builtin; refine wpList_app rfl (.tmp 36) (.tmp 38) 28 28 rfl w.heap.size w (.slice none 0 0) 5 i0 Try.underlying28 hi hz0 hz1 hz2 _ q rfl ((HG.out.alloc _).below hb2) _ y.length y rfl (src_own Try.underlying28 o2) (by omega) ?_; intro v3 w3 G3 z3 k3))
          clear k3 z3
          have HG2 := Lib.hid G3
          clear G3
          go_roundw
          case rel => exact ⟨k + 1, by omega, by go_num, by rw [H1.out]; exact HG2.out⟩
          case measure => simp [intOf]; omega
      · obtain rfl : k = m := by omega
        have HG := Lib.hid hG
        clear hG
        have hcv := run_string_own wr 28 9 5 _ _ _ Try.underlying28 Try.underlying5 Try.underlying9 HG.out.1
        go_wp2
        go_ret
        exact ⟨rfl, HG.out.is_below rfl⟩
end Go.Proofs.Ytdfkcibmmabjcaa
