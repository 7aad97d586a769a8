/- Rows of values: opened, small, encoded. -/
import Derived.Test.YtdfkcibmmabjcaaOpn
import Derived.Test.YtdfkcibmmabjcaaRef
import Derived.Test.YtdfkcibmmabjcaaPfx
import Derived.Deep.Slices
import Derived.Deep.Fields
import Derived.ChangeSame
namespace Go.Proofs.Ytdfkcibmmabjcaa
open Go.ChangeShapes Go.WideShapes Go.ChangeAt Go.RowKit Go.ChangeMaps

structure V3 where
  k : Int
  n : Int
  s : ByteArray
def V3.ok (x : V3) : Prop := -9223372036854775808 ≤ x.k ∧ x.k ≤ 9223372036854775807 ∧ -9223372036854775808 ≤ x.n ∧ x.n ≤ 9223372036854775807 ∧ x.s.size ≤ 140737488351232
def V3.enc (x : V3) : List UInt8 := encV x.k x.n x.s.data.toList
def encR (R : List V3) : List UInt8 := R.flatMap V3.enc
/-- A slice that reads as a list of values. -/
def RowAt (w : World) (A : Option Addr) (n : Nat) (R : List V3) : Prop := R.length = n ∧ (0 < n → ∃ b off, A = some ⟨b, off, none⟩ ∧ b < w.heap.size ∧
  ∀ i (h : i < R.length), w.cell? ⟨b, off + i * 3, none⟩ = some (.int .i64 R[i].k) ∧ w.cell? ⟨b, off + i * 3 + 1, none⟩ = some (.int .i64 R[i].n) ∧ w.cell? ⟨b, off + i * 3 + 2, none⟩ = some (.string R[i].s))
theorem RowAt.below {w w' : World} {A : Option Addr} {n : Nat} {R : List V3} (h : RowAt w A n R) (hb : Below w.heap.size w w') : RowAt w' A n R :=
  ⟨h.1, fun hn => by
    obtain ⟨b, off, e, hl, hc⟩ := h.2 hn
    exact ⟨b, off, e, Nat.lt_of_lt_of_le hl hb.size, fun i hi => ⟨keepcell hb (hc i hi).1, keepcell hb (hc i hi).2.1, keepcell hb (hc i hi).2.2⟩⟩⟩

def sm : Nat → List V3 → Bool
  | _, [] => true
  | a, x :: R => if 600 < a + (x.s.size + 1) then false else sm (a + (x.s.size + 1)) R
theorem sm_yes : ∀ (a : Nat) (R : List V3), sm a R = true → a ≤ 600 → a + (R.map fun x => x.s.size + 1).sum ≤ 600
  | a, [], _, h => by simpa using h
  | a, x :: R, h, ha => by
    unfold sm at h
    split at h
    · cases h
    · have := sm_yes _ R h (by omega)
      simp only [List.map_cons, List.sum_cons]; omega

theorem sm_step (a k : Nat) (R : List V3) (h : k < R.length) : sm a (R.drop k) = if 600 < a + (R[k].s.size + 1) then false else sm (a + (R[k].s.size + 1)) (R.drop (k + 1)) := by
  rw [List.drop_eq_getElem_cons h]; rfl

set_option maxHeartbeats 1000000 in
set_option maxRecDepth 100000 in
theorem small_any (A : Option Addr) (n c : Nat) (R : List V3) (w : World) (hr : RowAt w A n R) (hn : n ≤ 9223372036854775807) (hR : ∀ x ∈ R, x.ok) :
    Calls Try.prog 12 #[.slice A n c] w fun e w' => e = .returned (.bool (sm 0 R)) ∧ Below w.heap.size w w' := by
  rcases Nat.eq_zero_or_pos n with h0 | h0
  · subst h0
    obtain rfl : R = [] := List.eq_nil_of_length_eq_zero hr.1
    go_enter Try.func12, Try.ntmps12
    go_wp2
    refine wp_loop_rounds 1 ?_
    rw [rounds_succ]
    go_wp2
    go_ret
    exact ⟨rfl, Below.refl _ _⟩
  · obtain ⟨b, off, rfl, hb, hc⟩ := hr.2 h0
    have hl := hr.1
    have HL := Lib.hid hl
    clear hr hl
    go_enter Try.func12, Try.ntmps12
    go_wp2
    go_loopw [3, 8] (fun a i wr => ∃ k t : Nat, k ≤ n ∧ t ≤ 600 ∧ i = .int .i64 k ∧ a = .int .i64 t ∧ sm 0 R = sm t (R.drop k) ∧ Below w.heap.size w wr) (fun _ i _ => n - (intOf i).toNat)
    case atStart => exact ⟨0, 0, Nat.zero_le _, by omega, rfl, rfl, rfl, Below.refl _ _⟩
    case round =>
      obtain ⟨k, t, hk, ht, rfl, rfl, hs, hB⟩ := hrel
      by_cases hlt : k < n
      · have hkR : k < R.length := by rw [HL.out]; exact hlt
        obtain ⟨c0, c1, c2⟩ := hc k hkR
        have c0 := (hB.cell (p := ⟨b, off + k * 3, none⟩) hb).trans c0
        have c1 := (hB.cell (p := ⟨b, off + k * 3 + 1, none⟩) hb).trans c1
        have c2 := (hB.cell (p := ⟨b, off + k * 3 + 2, none⟩) hb).trans c2
        have hz := (hR R[k] (List.getElem_mem _)).2.2.2.2
        have H1 := Lib.hid (hs.trans (sm_step t k R hkR))
        have H2 := Lib.hid hB
        clear hs hB
        generalize R[k] = x at *
        rcases x with ⟨xk, xn, xs⟩
        simp only at c0 c1 c2 hz
        by_cases hov : 600 < t + (xs.size + 1)
        · have H3 := Lib.hid (H1.out.trans (if_pos hov))
          go_wp2
          go_ret
          exact ⟨(by rw [H3.out]; rfl), H2.out.alloc (H2.out.size) _⟩
        · have H3 := Lib.hid (H1.out.trans (if_neg hov))
          go_wp2
          go_roundw
          case rel => exact ⟨k + 1, t + (xs.size + 1), by omega, by omega, by go_num, by go_num, H3.out, H2.out.alloc (H2.out.size) _⟩
          case measure => simp [intOf]; omega
      · obtain rfl : k = n := by omega
        have H1 := Lib.hid hs
        clear hs
        go_wp2
        go_ret
        refine ⟨?_, hB⟩
        rw [H1.out, List.drop_of_length_le (by rw [HL.out]; exact Nat.le_refl _)]
        rfl

theorem encR_snoc (R : List V3) (k : Nat) (h : k < R.length) : encR (R.take (k + 1)) = encR (R.take k) ++ encV R[k].k R[k].n R[k].s.data.toList := by
  rw [List.take_succ_eq_append_getElem h, encR, List.flatMap_append]; simp [encR, V3.enc]
theorem encR_len (R : List V3) : (encR R).length ≤ 10 * (R.map fun x => x.s.size + 1).sum := by
  unfold encR
  induction R with
  | nil => simp
  | cons x R ih =>
    have := encV_len x.k x.n x.s.data.toList
    have e : x.s.data.toList.length = x.s.size := by simp
    rw [List.flatMap_cons, List.length_append, List.map_cons, List.sum_cons]
    show (encV x.k x.n x.s.data.toList).length + _ ≤ _
    omega
theorem sum_take (R : List V3) (k : Nat) : ((R.take k).map fun x => x.s.size + 1).sum ≤ (R.map fun x => x.s.size + 1).sum := by
  conv => rhs; rw [← List.take_append_drop k R]
  rw [List.map_append, List.sum_append]; omega
theorem mem_sum (R : List V3) (x : V3) (h : x ∈ R) : x.s.size + 1 ≤ (R.map fun x => x.s.size + 1).sum := by
  induction R with
  | nil => cases h
  | cons y R ih =>
    rw [List.map_cons, List.sum_cons]
    rcases List.mem_cons.1 h with rfl | h
    · omega
    · have := ih h; omega

set_option maxRecDepth 100000 in
theorem EncodeRow_any (A : Option Addr) (n c : Nat) (R : List V3) (w : World) (hr : RowAt w A n R) (hn : n ≤ 9223372036854775807) (hR : ∀ x ∈ R, x.ok) (hS : (R.map fun x => x.s.size + 1).sum ≤ 600) :
    Calls Try.prog 15 #[.slice A n c] w (Made 5 w (encR R)) := by
  rcases Nat.eq_zero_or_pos n with h0 | h0
  · subst h0
    obtain rfl : R = [] := List.eq_nil_of_length_eq_zero hr.1
    go_enter Try.func15, Try.ntmps15
    go_wp2
    refine wp_loop_rounds 1 ?_
    rw [rounds_succ]
    go_wp2
    go_ret
    exact ⟨_, rfl, World.ownsRow_nil _ _ _ _, Below.refl _ _⟩
  · obtain ⟨b, off, rfl, hb, hc⟩ := hr.2 h0
    have hl := hr.1
    have HL := Lib.hid hl
    clear hr hl
    go_enter Try.func15, Try.ntmps15
    go_wp2
    go_loopw [3, 8] (fun v i wr => ∃ k : Nat, k ≤ n ∧ i = .int .i64 k ∧ Grows 5 w.heap.size w (.slice none 0 0) (encR (R.take k)) v wr) (fun _ i _ => n - (intOf i).toNat)
    case atStart => exact ⟨0, Nat.zero_le _, rfl, Grows.none_ (Nat.le_refl _)⟩
    case round =>
      obtain ⟨k, hk, rfl, hG⟩ := hrel
      have hB := hG.is_below rfl
      by_cases hlt : k < n
      · have hkR : k < R.length := by rw [HL.out]; exact hlt
        obtain ⟨c0, c1, c2⟩ := hc k hkR
        have c0 := (hB.cell (p := ⟨b, off + k * 3, none⟩) hb).trans c0
        have c1 := (hB.cell (p := ⟨b, off + k * 3 + 1, none⟩) hb).trans c1
        have c2 := (hB.cell (p := ⟨b, off + k * 3 + 2, none⟩) hb).trans c2
        obtain ⟨_, _, n1, n2, _⟩ := hR R[k] (List.getElem_mem _)
        have hz : R[k].s.size ≤ 600 := by have := mem_sum R R[k] (List.getElem_mem _); omega
        have H1 := Lib.hid (encR_snoc R k hkR)
        have hm : (encR (R.take k)).length ≤ 6000 := by have := encR_len (R.take k); have := sum_take R k; omega
        have HG := Lib.hid hG
        clear hG hB
        generalize encR (R.take k) = m at *
        generalize R[k] = x at *
        rcases x with ⟨xk, xn, xs⟩
        simp only at c0 c1 c2 n1 n2 hz
        go_wp2_with (go_at_call 30; refine (appendValue_any xk xn xs (HG.out.alloc _) (by omega) n1 n2 (by omega)).mono ?_; rintro e w2 ⟨v2, rfl, G2⟩)
        have HG2 := Lib.hid G2
        clear G2
        go_roundw
        case rel => exact ⟨k + 1, by omega, by go_num, by rw [H1.out]; exact HG2.out⟩
        case measure => simp [intOf]; omega
      · obtain rfl : k = n := by omega
        have HG := Lib.hid hG
        clear hG
        have e : R.take k = R := List.take_of_length_le (by rw [HL.out]; exact Nat.le_refl _)
        rw [e] at HG
        go_wp2
        go_ret
        exact ⟨_, rfl, HG.out.1, HG.out.is_below rfl⟩

theorem src_own {P : Program} {W : World} {B e t : Nat} {v : Value} {l : List UInt8} (ht : P.underlying t = some (.slice e)) (h : W.ownsRow B e 1 v l.length (bc l)) : Src P 1 t v l.length (bc l) W := by
  rcases h.2 with ⟨rfl, hl⟩ | ⟨g, cap, cur, rfl, hg, hh, hnc, hcap, hsz, htake⟩
  · obtain rfl : l = [] := List.eq_nil_of_length_eq_zero hl
    exact Src.ofNil _ ht 0
  · refine Src.ofSlice _ ht _ _ _ _ (by rw [bc_len]; omega) (fun j u hu => ?_) (bc_one l)
    have hj : j < l.length := by have := (List.getElem?_eq_some_iff.1 hu).1; rwa [bc_len] at this
    rw [add_plain, Nat.zero_add, World.ownsRow.cellAt h j (by omega)]
    exact hu

set_option maxRecDepth 100000 in
theorem Row_any (A : Option Addr) (n c : Nat) (R : List V3) (w : World) (hr : RowAt w A n R) (hn : n ≤ 9223372036854775807) (hR : ∀ x ∈ R, x.ok) (hS : (R.map fun x => x.s.size + 1).sum ≤ 600) :
    Calls Try.prog 16 #[.slice A n c] w (Made 5 w (encR R)) := by
  obtain ⟨i0, hi, hz0, hz1, hz2⟩ := info_parts Try.info5
  rcases Nat.eq_zero_or_pos n with h0 | h0
  · subst h0
    obtain rfl : R = [] := List.eq_nil_of_length_eq_zero hr.1
    go_enter Try.func16, Try.ntmps16
    go_wp2
    refine wp_loop_rounds 1 ?_
    rw [rounds_succ]
    go_wp2
    go_ret
    exact ⟨_, rfl, World.ownsRow_nil _ _ _ _, Below.refl _ _⟩
  · obtain ⟨b, off, rfl, hb, hc⟩ := hr.2 h0
    have hl := hr.1
    have HL := Lib.hid hl
    clear hr hl
    go_enter Try.func16, Try.ntmps16
    go_wp2
    go_loopw [3, 4] (fun v i wr => ∃ k : Nat, k ≤ n ∧ i = .int .i64 k ∧ Grows 5 w.heap.size w (.slice none 0 0) (encR (R.take k)) v wr) (fun _ i _ => n - (intOf i).toNat)
    case atStart => exact ⟨0, Nat.zero_le _, rfl, Grows.none_ (Nat.le_refl _)⟩
    case round =>
      obtain ⟨k, hk, rfl, hG⟩ := hrel
      have hB := hG.is_below rfl
      by_cases hlt : k < n
      · have hkR : k < R.length := by rw [HL.out]; exact hlt
        obtain ⟨c0, c1, c2⟩ := hc k hkR
        have c0 := (hB.cell (p := ⟨b, off + k * 3, none⟩) hb).trans c0
        have c1 := (hB.cell (p := ⟨b, off + k * 3 + 1, none⟩) hb).trans c1
        have c2 := (hB.cell (p := ⟨b, off + k * 3 + 2, none⟩) hb).trans c2
        obtain ⟨_, _, n1, n2, _⟩ := hR R[k] (List.getElem_mem _)
        have hz : R[k].s.size ≤ 600 := by have := mem_sum R R[k] (List.getElem_mem _); omega
        have H1 := Lib.hid (encR_snoc R k hkR)
        have hm : (encR (R.take k)).length ≤ 6000 := by have := encR_len (R.take k); have := sum_take R k; omega
        have hm2 : (encV R[k].k R[k].n R[k].s.data.toList).length ≤ 6000 := by have := encV_len R[k].k R[k].n R[k].s.data.toList; have e : R[k].s.data.toList.length = R[k].s.size := by { simp }; omega
        have HG := Lib.hid hG
        clear hG hB
        generalize encR (R.take k) = m at *
        generalize R[k] = x at *
        rcases x with ⟨xk, xn, xs⟩
        simp only at c0 c1 c2 n1 n2 hz hm2
        have HV := Lib.hid (fun w => Value_any xk xn xs w n1 n2 (by omega))
        simp only at H1
        generalize encV xk xn xs.data.toList = z at *
        go_wp2_with (first
          | (go_at_call 14; refine (HV.out _).mono ?_; rintro e w2 ⟨v2, rfl, o2, hb2⟩)
          | (at_builtin; refine wpList_app rfl (.tmp 11) (.tmp 16) 28 28 rfl w.heap.size w (.slice none 0 0) 5 i0 Try.underlying28 hi hz0 hz1 hz2 _ m rfl (HG.out.below hb2) _ z.length z rfl (src_own Try.underlying28 o2) (by omega) ?_; intro v3 w3 G3 z3 k3))
        have HG2 := Lib.hid G3
        clear G3 k3 z3
        go_roundw
        case rel => exact ⟨k + 1, by omega, by go_num, by rw [H1.out]; exact HG2.out⟩
        case measure => simp [intOf]; omega
      · obtain rfl : k = n := by omega
        have HG := Lib.hid hG
        clear hG
        have e : R.take k = R := List.take_of_length_le (by rw [HL.out]; exact Nat.le_refl _)
        rw [e] at HG
        go_wp2
        go_ret
        exact ⟨_, rfl, HG.out.1, HG.out.is_below rfl⟩
end Go.Proofs.Ytdfkcibmmabjcaa
