/- Valid values and rows; byte strings compared. -/
import Derived.Test.YtdfkcibmmabjcaaCmp
namespace Go.Proofs.Ytdfkcibmmabjcaa
open Go.ChangeShapes Go.WideShapes Go.ChangeAt Go.RowKit Go.ChangeMaps

def prB (l : List UInt8) : Bool := l.all fun c => decide (32 ≤ c.toNat) && decide (c.toNat ≤ 126)
theorem prB_step (l : List UInt8) (k : Nat) (h : k < l.length) : prB (l.drop k) = (decide (32 ≤ l[k].toNat) && decide (l[k].toNat ≤ 126) && prB (l.drop (k + 1))) := by
  rw [List.drop_eq_getElem_cons h]; rfl
theorem Printable_any (s : ByteArray) (w : World) (hs : s.size ≤ 9223372036854775807) :
    Calls Try.prog 44 #[.string s] w fun e w' => e = .returned (.bool (prB s.data.toList)) ∧ w = w' := by
  have hl : s.data.toList.length = s.size := by simp
  have HL := Lib.hid hl
  clear hl
  go_enter Try.func44, Try.ntmps44
  go_wp2
  go_loop [3] (fun i => ∃ k : Nat, k ≤ s.size ∧ i = .int .i64 k ∧ prB s.data.toList = prB (s.data.toList.drop k)) (fun i => s.size - (intOf i).toNat)
  case atStart => exact ⟨0, Nat.zero_le _, rfl, rfl⟩
  case round =>
    obtain ⟨k, hk, rfl, hc⟩ := hrel
    by_cases h1 : k < s.size
    · have H := Lib.hid (hc.trans (prB_step _ k (by rw [HL.out]; exact h1)))
      have ex : s.data.toList[k]'(by rw [HL.out]; exact h1) = s[k] := by simp; rfl
      rw [ex] at H
      have hx : s[k].toNat < 256 := s[k].toNat_lt
      clear hc ex
      rcases (show s[k].toNat < 32 ∨ (32 ≤ s[k].toNat ∧ 126 < s[k].toNat) ∨ (32 ≤ s[k].toNat ∧ s[k].toNat ≤ 126) by omega) with h2 | ⟨h2, h3⟩ | ⟨h2, h3⟩
      · have H := Lib.hid (H.out.trans (by rw [decide_eq_false (by omega)]; rfl : _ = false))
        go_wp2
        go_ret
        exact ⟨ret_bool H.out.symm, rfl⟩
      · have H := Lib.hid (H.out.trans (by rw [decide_eq_false (p := s[k].toNat ≤ 126) (by omega), Bool.and_false]; rfl : _ = false))
        go_wp2
        go_ret
        exact ⟨ret_bool H.out.symm, rfl⟩
      · have H := Lib.hid (H.out.trans (by rw [decide_eq_true h2, decide_eq_true h3]; rfl : _ = prB (s.data.toList.drop (k + 1))))
        go_wp2
        go_round
        case rel => exact ⟨k + 1, by omega, by go_num, H.out⟩
        case measure => simp [intOf]; omega
    · obtain rfl : k = s.size := by omega
      have H := Lib.hid (hc.trans (by rw [List.drop_of_length_le (by rw [HL.out]; exact Nat.le_refl _)]; rfl : _ = true))
      clear hc
      go_wp2
      go_ret
      exact ⟨ret_bool H.out.symm, rfl⟩

def V3.valid (x : V3) : Bool := if x.k = 0 then decide (x.n = 0) && decide (x.s.size = 0) else if x.k = 1 then decide (x.s.size = 0) else if x.k = 2 then decide (x.n = 0) && prB x.s.data.toList && decide (x.s.size ≤ 16) else false
theorem empty_list (s : ByteArray) : s.toList.isEmpty = decide (s.size = 0) := by
  have e : s.data.toList.length = s.size := by simp
  rw [ByteArray.toList_eq, ← e]
  cases s.data.toList <;> simp
set_option maxHeartbeats 1000000 in
theorem Valid_any (k n : Int) (s : ByteArray) (w : World) (hs : s.size ≤ 9223372036854775807) :
    Calls Try.prog 35 #[.agg #[.int .i64 k, .int .i64 n, .string s]] w fun e w' => e = .returned (.bool (V3.valid ⟨k, n, s⟩)) ∧ Below w.heap.size w w' := by
  have E := empty_list s
  have HP := Lib.hid (fun w => Printable_any s w hs)
  obtain ⟨p, hp⟩ : ∃ p, prB s.data.toList = p := ⟨_, rfl⟩
  rw [hp] at HP
  have HV : Hid (V3.valid ⟨k, n, s⟩ = if k = 0 then decide (n = 0) && decide (s.size = 0) else if k = 1 then decide (s.size = 0) else if k = 2 then decide (n = 0) && p && decide (s.size ≤ 16) else false) := by
    refine Lib.hid ?_
    rw [← hp]; rfl
  clear hp
  have A1 : ∀ w : World, Below w.heap.size w (w.alloc (.cells #[.int .i64 k, .int .i64 n, .string s] 23)) := fun w => (Below.refl _ w).alloc (Nat.le_refl _) _
  have HA := Lib.hid A1
  clear A1
  by_cases h0 : k = 0
  · subst h0
    rw [if_pos rfl] at HV
    by_cases hn : n = 0
    · subst hn
      rw [decide_eq_true rfl, Bool.true_and] at HV
      rcases hz : decide (s.size = 0) with _ | _ <;> rw [hz] at E HV
      all_goals
        rw [HV.out]
        clear HV hz
        go_enter Try.func35, Try.ntmps35
        go_wp2
        go_ret
        exact ⟨rfl, HA.out _⟩
    · have hn2 : (n == 0) = false := by simpa using hn
      rw [decide_eq_false hn, Bool.false_and] at HV
      rw [HV.out]
      go_enter Try.func35, Try.ntmps35
      go_wp2
      go_ret
      exact ⟨rfl, HA.out _⟩
  · have b0 : (k == 0) = false := by simpa using h0
    rw [if_neg h0] at HV
    by_cases h1 : k = 1
    · subst h1
      rw [if_pos rfl] at HV
      rcases hz : decide (s.size = 0) with _ | _ <;> rw [hz] at E HV
      all_goals
        rw [HV.out]
        clear HV hz
        go_enter Try.func35, Try.ntmps35
        go_wp2
        go_ret
        exact ⟨rfl, HA.out _⟩
    · have b1 : (k == 1) = false := by simpa using h1
      rw [if_neg h1] at HV
      by_cases h2 : k = 2
      · subst h2
        rw [if_pos rfl] at HV
        by_cases hn : n = 0
        · subst hn
          rw [decide_eq_true rfl, Bool.true_and] at HV
          cases p
          · rw [Bool.false_and] at HV
            rw [HV.out]
            go_enter Try.func35, Try.ntmps35
            go_wp2_with (go_at_call 44; refine (HP.out _).mono ?_; rintro e w' ⟨rfl, rfl⟩)
            go_ret
            exact ⟨rfl, HA.out _⟩
          · rw [Bool.true_and] at HV
            by_cases hl : s.size ≤ 16
            · have hd : decide (s.size ≤ 16) = true := decide_eq_true hl
              have hd2 : decide ((s.size : Int) ≤ 16) = true := decide_eq_true (by omega)
              rw [decide_eq_true hl] at HV
              rw [HV.out]
              go_enter Try.func35, Try.ntmps35
              go_wp2_with (go_at_call 44; refine (HP.out _).mono ?_; rintro e w' ⟨rfl, rfl⟩)
              go_ret
              exact ⟨rfl, HA.out _⟩
            · have hd : decide (s.size ≤ 16) = false := decide_eq_false hl
              have hd2 : decide ((s.size : Int) ≤ 16) = false := decide_eq_false (by omega)
              rw [decide_eq_false hl] at HV
              rw [HV.out]
              go_enter Try.func35, Try.ntmps35
              go_wp2_with (go_at_call 44; refine (HP.out _).mono ?_; rintro e w' ⟨rfl, rfl⟩)
              go_ret
              exact ⟨rfl, HA.out _⟩
        · have hn2 : (n == 0) = false := by simpa using hn
          rw [decide_eq_false hn, Bool.false_and, Bool.false_and] at HV
          rw [HV.out]
          go_enter Try.func35, Try.ntmps35
          go_wp2
          go_ret
          exact ⟨rfl, HA.out _⟩
      · have b2 : (k == 2) = false := by simpa using h2
        rw [if_neg h2] at HV
        rw [HV.out]
        go_enter Try.func35, Try.ntmps35
        go_wp2
        go_ret
        exact ⟨rfl, HA.out _⟩

theorem all_step (R : List V3) (k : Nat) (h : k < R.length) : (R.drop k).all V3.valid = (R[k].valid && (R.drop (k + 1)).all V3.valid) := by
  rw [List.drop_eq_getElem_cons h]; rfl
set_option maxRecDepth 100000 in
theorem valid_any (A : Option Addr) (n c : Nat) (R : List V3) (w : World) (hr : RowAt w A n R) (hn : n ≤ 9223372036854775807) (hR : ∀ x ∈ R, x.ok) :
    Calls Try.prog 20 #[.slice A n c] w fun e w' => e = .returned (.bool (R.all V3.valid)) ∧ Below w.heap.size w w' := by
  rcases Nat.eq_zero_or_pos n with h0 | h0
  · subst h0
    obtain rfl : R = [] := List.eq_nil_of_length_eq_zero hr.1
    go_enter Try.func20, Try.ntmps20
    go_wp2
    refine wp_loop_rounds 1 ?_
    rw [rounds_succ]
    go_wp2
    go_ret
    exact ⟨rfl, Below.refl _ _⟩
  · obtain ⟨b, off, rfl, hb, hc⟩ := hr.2 h0
    have HL := Lib.hid hr.1
    clear hr
    go_enter Try.func20, Try.ntmps20
    go_wp2
    go_loopw [7] (fun i wr => ∃ k : Nat, k ≤ n ∧ i = .int .i64 k ∧ R.all V3.valid = (R.drop k).all V3.valid ∧ Below w.heap.size w wr) (fun i _ => n - (intOf i).toNat)
    case atStart => exact ⟨0, Nat.zero_le _, rfl, rfl, Below.refl _ _⟩
    case round =>
      obtain ⟨k, hk, rfl, hs, hB⟩ := hrel
      by_cases hlt : k < n
      · have hkR : k < R.length := by rw [HL.out]; exact hlt
        obtain ⟨c0, c1, c2⟩ := hc k hkR
        have c0 := (hB.cell (p := ⟨b, off + k * 3, none⟩) hb).trans c0
        have c1 := (hB.cell (p := ⟨b, off + k * 3 + 1, none⟩) hb).trans c1
        have c2 := (hB.cell (p := ⟨b, off + k * 3 + 2, none⟩) hb).trans c2
        have hz := (hR R[k] (List.getElem_mem _)).2.2.2.2
        have H1 := Lib.hid (hs.trans (all_step R k hkR))
        have H2 := Lib.hid hB
        clear hs hB
        generalize R[k] = x at *
        rcases x with ⟨xk, xn, xs⟩
        simp only at c0 c1 c2 hz
        have HV := Lib.hid (fun w => Valid_any xk xn xs w (by omega))
        generalize V3.valid ⟨xk, xn, xs⟩ = q at *
        cases q
        · rw [Bool.false_and] at H1
          go_wp2_with (go_at_call 35; refine (HV.out _).mono ?_; rintro e w2 ⟨rfl, hb2⟩)
          go_ret
          exact ⟨ret_bool H1.out.symm, (H2.out.alloc H2.out.size _).trans (hb2.mono (by have := H2.out.size; simp; omega))⟩
        · rw [Bool.true_and] at H1
          go_wp2_with (go_at_call 35; refine (HV.out _).mono ?_; rintro e w2 ⟨rfl, hb2⟩)
          go_roundw
          case rel => exact ⟨k + 1, by omega, by go_num, H1.out, (H2.out.alloc H2.out.size _).trans (hb2.mono (by have := H2.out.size; simp; omega))⟩
          case measure => simp [intOf]; omega
      · obtain rfl : k = n := by omega
        have H1 := Lib.hid (hs.trans (by rw [List.drop_of_length_le (by rw [HL.out]; exact Nat.le_refl _)]; rfl : _ = true))
        have H2 := Lib.hid hB
        clear hs hB
        go_wp2
        go_ret
        exact ⟨ret_bool H1.out.symm, H2.out⟩

/-- A slice that reads as bytes. -/
def BytesAt (w : World) (A : Option Addr) (n : Nat) (l : List UInt8) : Prop := l.length = n ∧ (0 < n → ∃ b off, A = some ⟨b, off, none⟩ ∧ b < w.heap.size ∧ ∀ i (h : i < l.length), w.cell? ⟨b, off + i, none⟩ = some (.int .u8 (l[i].toNat : Int)))
theorem own_bytes {w : World} {B : Nat} {v : Value} {l : List UInt8} (h : w.ownsRow B 5 1 v l.length (bc l)) : ∃ A c, v = .slice A l.length c ∧ BytesAt w A l.length l := by
  have h0 := h
  rcases h.2 with ⟨rfl, hl⟩ | ⟨g, cap, cur, rfl, hg, hh, hnc, hcap, hsz, htake⟩
  · exact ⟨none, 0, by rw [hl], rfl, fun hn => by omega⟩
  · refine ⟨_, _, rfl, rfl, fun hn => ⟨g, 0, rfl, (h0.lt g rfl).2, fun i hi => ?_⟩⟩
    rw [Nat.zero_add, World.ownsRow.cellAt h0 i (by omega), bc_at l i hi]
theorem BytesAt.below {w w' : World} {A : Option Addr} {n : Nat} {l : List UInt8} (h : BytesAt w A n l) (hb : Below w.heap.size w w') : BytesAt w' A n l :=
  ⟨h.1, fun hn => by
    obtain ⟨b, off, e, hl, hc⟩ := h.2 hn
    exact ⟨b, off, e, Nat.lt_of_lt_of_le hl hb.size, fun i hi => keepcell hb (hc i hi)⟩⟩

set_option maxHeartbeats 1000000 in
theorem Compare_any (A : Option Addr) (n c : Nat) (l : List UInt8) (D : Option Addr) (m d : Nat) (q : List UInt8) (w : World) (hr : BytesAt w A n l) (hn : n ≤ 9223372036854775807) (hs : BytesAt w D m q) (hm : m ≤ 9223372036854775807) :
    Calls Try.prog 21 #[.slice A n c, .slice D m d] w fun e w' => e = .returned (.int .i64 (tcmp l q)) ∧ Below w.heap.size w w' := by
  have HL := Lib.hid hr.1
  have HM := Lib.hid hs.1
  have fin : ∀ k, k ≤ n → k ≤ m → (k = n ∨ k = m) → tcmp l q = lex ucmp (l.drop k) (q.drop k) → tcmp l q = icmp n m := fun k h1 h2 h3 h4 => by
    rw [h4, lex_end ucmp l q k (by rw [HL.out]; exact h1) (by rw [HM.out]; exact h2) (by rw [HL.out, HM.out]; exact h3), HL.out, HM.out]
  have HF := Lib.hid fin
  clear fin
  rcases (show n = 0 ∨ (m = 0 ∧ 0 < n) ∨ (0 < n ∧ 0 < m) by omega) with h0 | ⟨h0, h0'⟩ | ⟨h0, h0'⟩
  · subst h0
    have H := Lib.hid (HF.out 0 (Nat.le_refl _) (Nat.zero_le _) (.inl rfl) rfl)
    clear hr hs HF
    by_cases hz : 0 < m
    · have H := Lib.hid (H.out.trans (by unfold icmp; rw [if_pos (by omega)] : _ = (-1 : Int)))
      go_enter Try.func21, Try.ntmps21
      go_wp2
      refine wp_loop_rounds 1 ?_
      rw [rounds_succ]
      go_wp2
      go_ret
      exact ⟨ret_int H.out.symm, Below.refl _ _⟩
    · obtain rfl : m = 0 := by omega
      have H := Lib.hid (H.out.trans (by decide : _ = (0 : Int)))
      go_enter Try.func21, Try.ntmps21
      go_wp2
      refine wp_loop_rounds 1 ?_
      rw [rounds_succ]
      go_wp2
      go_ret
      exact ⟨ret_int H.out.symm, Below.refl _ _⟩
  · subst h0
    have H := Lib.hid (HF.out 0 (Nat.zero_le _) (Nat.le_refl _) (.inr rfl) rfl)
    clear hr hs HF
    have H := Lib.hid (H.out.trans (by unfold icmp; rw [if_neg (by omega), if_pos (by omega)] : _ = (1 : Int)))
    go_enter Try.func21, Try.ntmps21
    go_wp2
    refine wp_loop_rounds 1 ?_
    rw [rounds_succ]
    go_wp2
    go_ret
    exact ⟨ret_int H.out.symm, Below.refl _ _⟩
  · obtain ⟨b, off, rfl, hb, hc⟩ := hr.2 h0
    obtain ⟨g, of2, rfl, hg, hc2⟩ := hs.2 h0'
    clear hr hs
    go_enter Try.func21, Try.ntmps21
    go_wp2
    go_loopw [5] (fun i wr => ∃ k : Nat, k ≤ n ∧ k ≤ m ∧ i = .int .i64 k ∧ tcmp l q = lex ucmp (l.drop k) (q.drop k) ∧ Below w.heap.size w wr) (fun i _ => n - (intOf i).toNat)
    case atStart => exact ⟨0, Nat.zero_le _, Nat.zero_le _, rfl, rfl, Below.refl _ _⟩
    case round =>
      obtain ⟨k, hk, hk2, rfl, hcm, hB⟩ := hrel
      by_cases h12 : k < n ∧ k < m
      · obtain ⟨h1, h2⟩ := h12
        have hkR : k < l.length := by rw [HL.out]; exact h1
        have hkS : k < q.length := by rw [HM.out]; exact h2
        have H := Lib.hid (hcm.trans (lex_step ucmp _ _ k hkR hkS))
        have c0 := (hB.cell (p := ⟨b, off + k, none⟩) hb).trans (hc k hkR)
        have d0 := (hB.cell (p := ⟨g, of2 + k, none⟩) hg).trans (hc2 k hkS)
        have hx : l[k].toNat < 256 := l[k].toNat_lt
        have hy : q[k].toNat < 256 := q[k].toNat_lt
        have HB := Lib.hid hB
        clear hcm hB
        have hu : ucmp l[k] q[k] = icmp l[k].toNat q[k].toNat := rfl
        rw [hu] at H
        clear hu
        generalize l[k].toNat = x at *
        generalize q[k].toNat = y at *
        rcases Nat.lt_trichotomy x y with h | h | h
        · have e : icmp (x : Int) y = -1 := by unfold icmp; rw [if_pos (by omega)]
          rw [e] at H
          have H := Lib.hid (H.out.trans (if_neg (by decide)))
          clear e
          go_wp2
          go_quiet (fail)
          go_wp2
          go_ret
          exact ⟨ret_int H.out.symm, below_drewN HB.out⟩
        · have e : icmp (x : Int) y = 0 := by unfold icmp; rw [if_neg (by omega), if_neg (by omega)]
          rw [e] at H
          have H := Lib.hid (H.out.trans (if_pos rfl))
          clear e
          subst h
          go_wp2
          go_quiet (fail)
          go_wp2
          go_quiet (fail)
          go_wp2
          go_roundw
          case rel => exact ⟨k + 1, by omega, by omega, by go_num, H.out, by first | exact below_drewN (below_drewN HB.out) | exact below_drewN HB.out⟩
          case measure => simp [intOf]; omega
        · have e : icmp (x : Int) y = 1 := by unfold icmp; rw [if_neg (by omega), if_pos (by omega)]
          rw [e] at H
          have H := Lib.hid (H.out.trans (if_neg (by decide)))
          clear e
          have h' : ¬ x < y := by omega
          go_wp2
          go_quiet (fail)
          go_wp2
          go_quiet (fail)
          go_wp2
          go_ret
          exact ⟨ret_int H.out.symm, by first | exact below_drewN (below_drewN HB.out) | exact below_drewN HB.out⟩
      · have H := Lib.hid (HF.out k hk hk2 (by omega) hcm)
        have HB := Lib.hid hB
        clear hcm hB HF
        have hc1 : k = n ∨ k = m := by omega
        rcases (show n < m ∨ n = m ∨ m < n by omega) with h | h | h
        · have H3 := Lib.hid (H.out.trans (by unfold icmp; rw [if_pos (by omega)] : _ = (-1 : Int)))
          obtain rfl : k = n := by omega
          clear hc1
          go_wp2
          go_ret
          exact ⟨ret_int H3.out.symm, HB.out⟩
        · have H3 := Lib.hid (H.out.trans (by unfold icmp; rw [if_neg (by omega), if_neg (by omega)] : _ = (0 : Int)))
          subst h
          obtain rfl : k = n := by omega
          clear hc1
          go_wp2
          go_ret
          exact ⟨ret_int H3.out.symm, HB.out⟩
        · have H3 := Lib.hid (H.out.trans (by unfold icmp; rw [if_neg (by omega), if_pos (by omega)] : _ = (1 : Int)))
          obtain rfl : k = m := by omega
          clear hc1
          go_wp2
          go_ret
          exact ⟨ret_int H3.out.symm, HB.out⟩
end Go.Proofs.Ytdfkcibmmabjcaa
