/- A value decoded. -/
import Derived.Test.YtdfkcibmmabjcaaVld
import Derived.Test.YtdfkcibmmabjcaaShelf
namespace Go.Proofs.Ytdfkcibmmabjcaa
open Go.ChangeShapes Go.WideShapes Go.ChangeAt Go.RowKit Go.ChangeMaps

theorem printable_any (s : ByteArray) (w : World) (hs : s.size ≤ 9223372036854775807) :
    Calls Try.prog 46 #[.string s] w fun e w' => e = .returned (.bool (prB s.data.toList)) ∧ w = w' := by
  have hl : s.data.toList.length = s.size := by simp
  have HL := Lib.hid hl
  clear hl
  go_enter Try.func46, Try.ntmps46
  go_wp2
  go_loop [6] (fun i => ∃ k : Nat, k ≤ s.size ∧ i = .int .i64 k ∧ prB s.data.toList = prB (s.data.toList.drop k)) (fun i => s.size - (intOf i).toNat)
  case atStart => exact ⟨0, Nat.zero_le _, rfl, rfl⟩
  case round =>
    obtain ⟨k, hk, rfl, hc⟩ := hrel
    by_cases h1 : k < s.size
    · have H := Lib.hid (hc.trans (prB_step _ k (by rw [HL.out]; exact h1)))
      have ex : s.data.toList[k]'(by rw [HL.out]; exact h1) = s[k] := by simp; rfl
      rw [ex] at H
      have hx : s[k].toNat < 256 := s[k].toNat_lt
      clear hc ex
      rcases (show s[k].toNat < 32 ∨ (32 ≤ s[k].toNat ∧ 126 < s[k].toNat) ∨ (32 ≤ s[k].toNat ∧ s[k].toNat ≤ 126) by omega) with h2 | ⟨h2, h3⟩ | ⟨h2, h3⟩
      · have H := Lib.hid (H.out.trans (by rw [decide_eq_false (by omega)]; rfl : _ = false))
        go_wp2
        go_ret
        exact ⟨ret_bool H.out.symm, rfl⟩
      · have H := Lib.hid (H.out.trans (by rw [decide_eq_false (p := s[k].toNat ≤ 126) (by omega), Bool.and_false]; rfl : _ = false))
        go_wp2
        go_ret
        exact ⟨ret_bool H.out.symm, rfl⟩
      · have H := Lib.hid (H.out.trans (by rw [decide_eq_true h2, decide_eq_true h3]; rfl : _ = prB (s.data.toList.drop (k + 1))))
        go_wp2
        go_round
        case rel => exact ⟨k + 1, by omega, by go_num, H.out⟩
        case measure => simp [intOf]; omega
    · obtain rfl : k = s.size := by omega
      have H := Lib.hid (hc.trans (by rw [List.drop_of_length_le (by rw [HL.out]; exact Nat.le_refl _)]; rfl : _ = true))
      clear hc
      go_wp2
      go_ret
      exact ⟨ret_bool H.out.symm, rfl⟩

theorem Int_any (n : Int) (w : World) : Calls Try.prog 39 #[.int .i64 n] w fun e w' => e = .returned (.agg #[.int .i64 1, .int .i64 n, .string ⟨#[]⟩]) ∧ Below w.heap.size w w' := by
  go_enter Try.func39, Try.ntmps39
  go_wp2
  exact bodyPost_ret (v := .agg #[.int .i64 1, .int .i64 n, .string ⟨#[]⟩]) (by simp [results, Try.results39, go_sem]) rfl ⟨rfl, (Below.refl _ _).alloc (Nat.le_refl _) _⟩
theorem Text_any (s : ByteArray) (w : World) : Calls Try.prog 41 #[.string s] w fun e w' => e = .returned (.agg #[.int .i64 2, .int .i64 0, .string s]) ∧ Below w.heap.size w w' := by
  go_enter Try.func41, Try.ntmps41
  go_wp2
  exact bodyPost_ret (v := .agg #[.int .i64 2, .int .i64 0, .string s]) (by simp [results, Try.results41, go_sem]) rfl ⟨rfl, (Below.refl _ _).alloc (Nat.le_refl _) _⟩

theorem ValidText_any (s : ByteArray) (w : World) (hs : s.size ≤ 9223372036854775807) :
    Calls Try.prog 42 #[.agg #[.int .i64 2, .int .i64 0, .string s]] w fun e w' => e = .returned (.bool (decide (s.size ≤ 16) && prB s.data.toList)) ∧ Below w.heap.size w w' := by
  have HP := Lib.hid (fun w => printable_any s w hs)
  obtain ⟨p, hp⟩ : ∃ p, prB s.data.toList = p := ⟨_, rfl⟩
  rw [hp] at HP ⊢
  clear hp
  have c0 := fun d os => cell_regrown (newcell (w := w) (T := 23) (cs := #[.int .i64 2, .int .i64 0, .string s]) (g := w.heap.size) 0 (.int .i64 2) rfl rfl) d os
  have c1 := fun d os => cell_regrown (newcell (w := w) (T := 23) (cs := #[.int .i64 2, .int .i64 0, .string s]) (g := w.heap.size) 1 (.int .i64 0) rfl rfl) d os
  have c2 := fun d os => cell_regrown (newcell (w := w) (T := 23) (cs := #[.int .i64 2, .int .i64 0, .string s]) (g := w.heap.size) 2 (.string s) rfl rfl) d os
  have HB := Lib.hid ((Below.refl w.heap.size w).alloc (Nat.le_refl _) (.cells #[.int .i64 2, .int .i64 0, .string s] 23))
  by_cases hl : s.size ≤ 16
  · have hd : decide (s.size ≤ 16) = true := decide_eq_true hl
    have hd2 : decide ((s.size : Int) ≤ 16) = true := decide_eq_true (by omega)
    rw [hd, Bool.true_and]
    go_enter Try.func42, Try.ntmps42
    go_wp2
    refine wp_region_quiet_below (by kernel_rfl) (by kernel_rfl) ?_
    repeat (first | go_big_quiet_step (((first | (go_at_call 41; exact Calls.regrown_of (Text_any _ _)) | (go_at_call 46; exact Calls.regrown_of ((HP.out _).mono fun _ _ ⟨he, hw⟩ => ⟨he, by subst hw; exact Below.refl _ _⟩))))) | quiet_step (((first | (go_at_call 41; exact Calls.regrown_of (Text_any _ _)) | (go_at_call 46; exact Calls.regrown_of ((HP.out _).mono fun _ _ ⟨he, hw⟩ => ⟨he, by subst hw; exact Below.refl _ _⟩))))))
    refine wpQuiet_nil ?_
    intro _ hw'
    obtain ⟨⟨dq, osq⟩, hw''⟩ := hw'
    subst hw''
    go_wp2
    go_ret
    exact ⟨rfl, HB.out.trans ((below_regrown _ _ _).mono HB.out.size)⟩
  · have hd : decide (s.size ≤ 16) = false := decide_eq_false hl
    have hd2 : decide ((s.size : Int) ≤ 16) = false := decide_eq_false (by omega)
    rw [hd, Bool.false_and]
    go_enter Try.func42, Try.ntmps42
    go_wp2
    refine wp_region_quiet_below (by kernel_rfl) (by kernel_rfl) ?_
    repeat (first | go_big_quiet_step (((first | (go_at_call 41; exact Calls.regrown_of (Text_any _ _)) | (go_at_call 46; exact Calls.regrown_of ((HP.out _).mono fun _ _ ⟨he, hw⟩ => ⟨he, by subst hw; exact Below.refl _ _⟩))))) | quiet_step (((first | (go_at_call 41; exact Calls.regrown_of (Text_any _ _)) | (go_at_call 46; exact Calls.regrown_of ((HP.out _).mono fun _ _ ⟨he, hw⟩ => ⟨he, by subst hw; exact Below.refl _ _⟩))))))
    refine wpQuiet_nil ?_
    intro _ hw'
    obtain ⟨⟨dq, osq⟩, hw''⟩ := hw'
    subst hw''
    go_wp2
    go_ret
    exact ⟨rfl, HB.out.trans ((below_regrown _ _ _).mono HB.out.size)⟩

def zeroV : V3 := ⟨0, 0, ⟨#[]⟩⟩
/-- The value at the beginning, and the length of its encoding. -/
def decD (l : List UInt8) : V3 × Nat :=
  match l with
  | [] => (zeroV, 0)
  | c :: t =>
    if c = 1 then (zeroV, 1)
    else if c = 2 then (if 9 ≤ l.length then (⟨1, val8 (t.take 8) - 9223372036854775808, ⟨#[]⟩⟩, 9) else (zeroV, 0))
    else if c = 3 then
      (if 0 < Lib.indexByte l 0 then
        (if (Lib.indexByte l 0).toNat - 1 ≤ 16 ∧ prB (t.take ((Lib.indexByte l 0).toNat - 1)) = true then (⟨2, 0, ⟨(t.take ((Lib.indexByte l 0).toNat - 1)).toArray⟩⟩, (Lib.indexByte l 0).toNat + 1) else (zeroV, 0))
      else (zeroV, 0))
    else (zeroV, 0)
theorem decD_cons (c : UInt8) (t : List UInt8) : decD (c :: t) = if c = 1 then (zeroV, 1)
    else if c = 2 then (if 9 ≤ (c :: t).length then (⟨1, val8 (t.take 8) - 9223372036854775808, ⟨#[]⟩⟩, 9) else (zeroV, 0))
    else if c = 3 then
      (if 0 < Lib.indexByte (c :: t) 0 then
        (if (Lib.indexByte (c :: t) 0).toNat - 1 ≤ 16 ∧ prB (t.take ((Lib.indexByte (c :: t) 0).toNat - 1)) = true then (⟨2, 0, ⟨(t.take ((Lib.indexByte (c :: t) 0).toNat - 1)).toArray⟩⟩, (Lib.indexByte (c :: t) 0).toNat + 1) else (zeroV, 0))
      else (zeroV, 0))
    else (zeroV, 0) := rfl
theorem newfree {w : World} {cs : Array Value} {T : TypeId} {g : Nat} (hg : g = w.heap.size) : ∀ j, (w.alloc (.cells cs T)).frozen? ⟨g, j, none⟩ = false := fun j => by
  subst hg
  have h : (w.alloc (.cells cs T)).heap[w.heap.size]? = some (.cells cs T) := heap_alloc_new w _
  unfold World.frozen?
  simp only
  rw [h]
  simp
theorem keepfree {W w1 : World} {b : Nat} (hl : b < W.heap.size) (hb : Below W.heap.size W w1) (h : ∀ o, W.frozen? ⟨b, o, none⟩ = false) : ∀ o, w1.frozen? ⟨b, o, none⟩ = false := fun o =>
  (hb.frozen (p := ⟨b, o, none⟩) hl).trans (h o)
def ret2 (x : V3) (n : Nat) : Ending := .returned (.tuple #[.agg #[.int .i64 x.k, .int .i64 x.n, .string x.s], .int .i64 n])
theorem bytesOf_toNat (l : List UInt8) : Lib.bytesOf (l.map fun x => (x.toNat : Int)) = l := by
  unfold Lib.bytesOf
  rw [List.map_map]
  refine (List.map_congr_left (g := id) fun x _ => ?_).trans (List.map_id l)
  show UInt8.ofNat ((x.toNat : Int).toNat) = x
  simp
theorem Index_any (b off n c : Nat) (l : List UInt8) (w : World) (hl : l.length = n) (hc : ∀ i (h : i < l.length), w.cell? ⟨b, off + i, none⟩ = some (.int .u8 (l[i].toNat : Int))) :
    Calls Try.prog 40 #[.slice (some ⟨b, off, none⟩) n c, .int .u8 0] w fun e w' => e = .returned (.int .i64 (Lib.indexByte l 0)) ∧ w = w' := by
  have h := Try.bytes_IndexByte b off n c (l.map fun x => (x.toNat : Int)) 0 w (by simpa using hl) (fun i hi => by
    rw [hc i (by omega)]; simp [List.getD, List.getElem?_eq_getElem (show i < l.length by omega)])
  rw [bytesOf_toNat] at h
  exact h.mono fun _ _ ⟨he, hw⟩ => ⟨he, hw.symm⟩
theorem indexByte_bd : ∀ (l : List UInt8) (c : UInt8), -1 ≤ Lib.indexByte l c ∧ Lib.indexByte l c < l.length ∨ Lib.indexByte l c = -1
  | [], _ => .inr rfl
  | b :: l, c => by
    unfold Lib.indexByte
    rcases indexByte_bd l c with h | h
    · split
      · exact .inl ⟨by omega, by simp only [List.length_cons]; omega⟩
      · split
        · exact .inr rfl
        · exact .inl ⟨by omega, by simp only [List.length_cons]; omega⟩
    · split
      · exact .inl ⟨by omega, by simp only [List.length_cons]; omega⟩
      · rw [h]; exact .inr rfl

set_option maxHeartbeats 1000000 in
theorem decode_any (b off n cap : Nat) (l : List UInt8) (w : World) (hl : l.length = n) (h0 : 0 < n) (hn : n ≤ 1099511627776) (hcap : n ≤ cap) (hcap2 : cap ≤ 9223372036854775807) (hb : b < w.heap.size) (hc : ∀ i (h : i < l.length), w.cell? ⟨b, off + i, none⟩ = some (.int .u8 (l[i].toNat : Int))) :
    Calls Try.prog 32 #[.slice (some ⟨b, off, none⟩) n cap] w fun e w' => e = ret2 (decD l).1 (decD l).2 ∧ Below w.heap.size w w' := by
  rcases l with _ | ⟨x, t⟩
  · simp at hl; omega
  have c0 := hc 0 (by omega)
  simp only [Nat.add_zero, List.getElem_cons_zero] at c0
  have c0 := pastcell (x := .cells #[.int .i64 0, .int .i64 0, .string ⟨#[]⟩] 23) c0
  have HC := Lib.hid hc
  have hx : x.toNat < 256 := x.toNat_lt
  clear hc
  have HA := Lib.hid ((Below.refl w.heap.size w).alloc (Nat.le_refl _) (.cells #[.int .i64 0, .int .i64 0, .string ⟨#[]⟩] 23))
  have D := decD_cons x t
  obtain ⟨q, hq⟩ : ∃ q : V3 × Nat, decD (x :: t) = q := ⟨_, rfl⟩
  rw [hq] at D ⊢
  clear hq
  have fin0 : q = (zeroV, 0) → Ending.returned (.tuple #[.agg #[.int .i64 0, .int .i64 0, .string ⟨#[]⟩], .int .i64 0]) = ret2 q.1 q.2 := fun e => by rw [e]; rfl
  have HF := Lib.hid fin0
  clear fin0
  by_cases h1 : x = 1
  · have HD := Lib.hid (D.trans (if_pos h1))
    clear D
    subst h1
    go_enter Try.func32, Try.ntmps32
    go_wp2
    refine bodyPost_ret (v := .tuple #[.agg #[.int .i64 0, .int .i64 0, .string ⟨#[]⟩], .int .i64 1]) (by simp [results, Try.results32, go_sem]) rfl ⟨?_, HA.out⟩
    rw [HD.out]; rfl
  have b1 : ((x.toNat : Int) == 1) = false := by simp only [beq_eq_false_iff_ne, ne_eq]; intro e; exact h1 (UInt8.toNat.inj (by show _ = 1; omega))
  replace D := D.trans (if_neg h1)
  by_cases h2 : x = 2
  · replace D := D.trans (if_pos h2)
    subst h2
    by_cases h9 : 9 ≤ n
    · have HD := Lib.hid (D.trans (if_pos (by rw [hl]; exact h9)))
      clear D b1 h1
      have hl8 : (t.take 8).length = 8 := by rw [List.length_take]; simp at hl; omega
      have hn8 : ∀ j (h : j < (t.take 8).length), (w.alloc (.cells #[.int .i64 0, .int .i64 0, .string ⟨#[]⟩] 23)).cell? ((⟨b, off + 1, none⟩ : Addr).add j) = some (.int .u8 ((t.take 8)[j].toNat : Int)) := fun j hj => by
        have hjt : j < t.length := by rw [List.length_take] at hj; omega
        have := HC.out (j + 1) (by simp; omega)
        rw [List.getElem_cons_succ] at this
        rw [add_plain, List.getElem_take]
        refine pastcell ?_
        rw [Nat.add_assoc, Nat.add_comm 1 j]; exact this
      have HN := Lib.hid (fun c => number_any ⟨b, off + 1, none⟩ c (t.take 8) _ hl8 hn8)
      clear hn8 hl8
      generalize val8 (t.take 8) - 9223372036854775808 = z at *
      go_enter Try.func32, Try.ntmps32
      go_wp2_with (first | (go_at_call 37; refine (HN.out _).mono ?_; rintro e w' ⟨rfl, rfl⟩) | (go_at_call 39; refine (Int_any _ _).mono ?_; rintro e w2 ⟨rfl, hb2⟩; have e0 := keepcell hb2 (newcell (g := w.heap.size) 0 (.int .i64 0) rfl rfl); have e1 := keepcell hb2 (newcell (g := w.heap.size) 1 (.int .i64 0) rfl rfl); have e2 := keepcell hb2 (newcell (g := w.heap.size) 2 (.string ⟨#[]⟩) rfl rfl); have f0 := keepfree (by simp) hb2 (newfree (g := w.heap.size) rfl)))
      refine bodyPost_ret (v := .tuple #[.agg #[.int .i64 1, .int .i64 z, .string ⟨#[]⟩], .int .i64 9]) (by simp [results, Try.results32, go_sem, e0, e1, e2]) rfl ⟨?_, ?_⟩
      · rw [HD.out]; rfl
      · exact (((HA.out.trans (hb2.mono HA.out.size)).setCell (by exact Nat.le_refl _) _).setCell (by exact Nat.le_refl _) _).setCell (by exact Nat.le_refl _) _
    · have HD := Lib.hid (HF.out (D.trans (if_neg (by rw [hl]; exact h9))))
      clear D b1 h1
      go_enter Try.func32, Try.ntmps32
      go_wp2
      refine bodyPost_ret (v := .tuple #[.agg #[.int .i64 0, .int .i64 0, .string ⟨#[]⟩], .int .i64 0]) (by simp [results, Try.results32, go_sem]) rfl ⟨HD.out, HA.out⟩
  have b2 : ((x.toNat : Int) == 2) = false := by simp only [beq_eq_false_iff_ne, ne_eq]; intro e; exact h2 (UInt8.toNat.inj (by show _ = 2; omega))
  replace D := D.trans (if_neg h2)
  by_cases h3 : x = 3
  · replace D := D.trans (if_pos h3)
    subst h3
    clear b1 b2 h1 h2
    have HI := Lib.hid (Index_any b off n cap (3 :: t) (w.alloc (.cells #[.int .i64 0, .int .i64 0, .string ⟨#[]⟩] 23)) hl (fun i hi => pastcell (HC.out i hi)))
    have hbd := indexByte_bd (3 :: t) 0
    obtain ⟨z, hz⟩ : ∃ z, Lib.indexByte (3 :: t) 0 = z := ⟨_, rfl⟩
    rw [hz] at HI D hbd
    clear hz
    by_cases hp : 0 < z
    · obtain ⟨j, rfl⟩ : ∃ j : Nat, z = (j : Int) + 1 := ⟨(z - 1).toNat, by omega⟩
      have hj : j + 1 < n := by rw [hl] at hbd; omega
      replace D := D.trans (if_pos hp)
      rw [show ((j : Int) + 1).toNat = j + 1 by omega, Nat.add_sub_cancel] at D
      have htl : (t.take j).length = j := by rw [List.length_take]; simp at hl; omega
      have hcv := run_convert_bytes_back (P := Try.prog) (w.alloc (.cells #[.int .i64 0, .int .i64 0, .string ⟨#[]⟩] 23)) 28 9 5 ⟨b, off + 1, none⟩ (cap - 1) (t.take j) Try.underlying28 Try.underlying5 Try.underlying9 (fun i hi => by
        have hit : i < t.length := by rw [List.length_take] at hi; omega
        have := HC.out (i + 1) (by simp; omega)
        rw [List.getElem_cons_succ] at this
        rw [add_plain, List.getElem_take]
        refine pastcell ?_
        rw [Nat.add_assoc, Nat.add_comm 1 i]; exact this)
      rw [htl] at hcv
      obtain ⟨s, hs⟩ : ∃ s : ByteArray, ⟨(t.take j).toArray⟩ = s := ⟨_, rfl⟩
      have hsz : s.size = j := by rw [← hs, size_of_list, htl]
      have hsd : t.take j = s.data.toList := by rw [← hs]
      rw [hs] at hcv D
      rw [hsd] at D
      have HV := Lib.hid (fun w => ValidText_any s w (by omega))
      rw [hsz] at HV
      have HS := Lib.hid hs
      clear hs hsd hbd htl hsz
      generalize prB s.data.toList = p at *
      by_cases hv : j ≤ 16 ∧ p = true
      · have HD := Lib.hid (D.trans (if_pos hv))
        obtain ⟨v1, rfl⟩ := hv
        rw [decide_eq_true v1, Bool.true_and] at HV
        clear D
        go_enter Try.func32, Try.ntmps32
        go_wp2_with (first
          | (go_at_call 40; refine HI.out.mono ?_; rintro e w' ⟨rfl, rfl⟩)
          | (go_at_call 41; refine (Text_any _ _).mono ?_; rintro e w2 ⟨rfl, hb2⟩)
          | (go_at_call 42; refine (HV.out _).mono ?_; rintro e w3 ⟨rfl, hb3⟩
             have e0 := keepcell hb3 (pastcell (x := .cells #[.int .i64 2, .int .i64 0, .string s] 23) (keepcell hb2 (newcell (g := w.heap.size) 0 (.int .i64 0) rfl rfl)))
             have e1 := keepcell hb3 (pastcell (x := .cells #[.int .i64 2, .int .i64 0, .string s] 23) (keepcell hb2 (newcell (g := w.heap.size) 1 (.int .i64 0) rfl rfl)))
             have e2 := keepcell hb3 (pastcell (x := .cells #[.int .i64 2, .int .i64 0, .string s] 23) (keepcell hb2 (newcell (g := w.heap.size) 2 (.string ⟨#[]⟩) rfl rfl)))
             have g0 := keepcell hb3 (newcell (w := w2) (T := 23) (cs := #[.int .i64 2, .int .i64 0, .string s]) (g := w2.heap.size) 0 (.int .i64 2) rfl rfl)
             have g1 := keepcell hb3 (newcell (w := w2) (T := 23) (cs := #[.int .i64 2, .int .i64 0, .string s]) (g := w2.heap.size) 1 (.int .i64 0) rfl rfl)
             have g2 := keepcell hb3 (newcell (w := w2) (T := 23) (cs := #[.int .i64 2, .int .i64 0, .string s]) (g := w2.heap.size) 2 (.string s) rfl rfl)
             have f0 := keepfree (by have := hb2.size; simp at this ⊢; omega) hb3 (keepfree (by have := hb2.size; simp at this; omega) ((Below.refl w2.heap.size w2).alloc (Nat.le_refl _) (.cells #[.int .i64 2, .int .i64 0, .string s] 23)) (keepfree (by simp) hb2 (newfree (g := w.heap.size) rfl)))))
        refine bodyPost_ret (v := .tuple #[.agg #[.int .i64 2, .int .i64 0, .string s], .int .i64 (j + 1 + 1)]) (by simp [results, Try.results32, go_sem, e0, e1, e2]) rfl ⟨?_, ?_⟩
        · rw [HD.out]; exact congrArg Ending.returned (congrArg Value.tuple (by simp))
        · exact ((((((HA.out.trans (hb2.mono HA.out.size)).alloc (by have := HA.out.size; have := hb2.size; omega) _).trans (hb3.mono (by have := HA.out.size; have := hb2.size; simp; omega))).setCell (by exact Nat.le_refl _) _).setCell (by exact Nat.le_refl _) _).setCell (by exact Nat.le_refl _) _)
      · have HD := Lib.hid (HF.out (D.trans (if_neg hv)))
        have hq : (decide (j ≤ 16) && p) = false := by
          by_cases h : j ≤ 16
          · rw [decide_eq_true h, Bool.true_and]; cases p; rfl; exact absurd ⟨h, rfl⟩ hv
          · rw [decide_eq_false h, Bool.false_and]
        rw [hq] at HV
        clear D hq hv
        go_enter Try.func32, Try.ntmps32
        go_wp2_with (first
          | (go_at_call 40; refine HI.out.mono ?_; rintro e w' ⟨rfl, rfl⟩)
          | (go_at_call 41; refine (Text_any _ _).mono ?_; rintro e w2 ⟨rfl, hb2⟩)
          | (go_at_call 42; refine (HV.out _).mono ?_; rintro e w3 ⟨rfl, hb3⟩
             have e0 := keepcell hb3 (pastcell (x := .cells #[.int .i64 2, .int .i64 0, .string s] 23) (keepcell hb2 (newcell (g := w.heap.size) 0 (.int .i64 0) rfl rfl)))
             have e1 := keepcell hb3 (pastcell (x := .cells #[.int .i64 2, .int .i64 0, .string s] 23) (keepcell hb2 (newcell (g := w.heap.size) 1 (.int .i64 0) rfl rfl)))
             have e2 := keepcell hb3 (pastcell (x := .cells #[.int .i64 2, .int .i64 0, .string s] 23) (keepcell hb2 (newcell (g := w.heap.size) 2 (.string ⟨#[]⟩) rfl rfl)))
             have g0 := keepcell hb3 (newcell (w := w2) (T := 23) (cs := #[.int .i64 2, .int .i64 0, .string s]) (g := w2.heap.size) 0 (.int .i64 2) rfl rfl)
             have g1 := keepcell hb3 (newcell (w := w2) (T := 23) (cs := #[.int .i64 2, .int .i64 0, .string s]) (g := w2.heap.size) 1 (.int .i64 0) rfl rfl)
             have g2 := keepcell hb3 (newcell (w := w2) (T := 23) (cs := #[.int .i64 2, .int .i64 0, .string s]) (g := w2.heap.size) 2 (.string s) rfl rfl)
             have f0 := keepfree (by have := hb2.size; simp at this ⊢; omega) hb3 (keepfree (by have := hb2.size; simp at this; omega) ((Below.refl w2.heap.size w2).alloc (Nat.le_refl _) (.cells #[.int .i64 2, .int .i64 0, .string s] 23)) (keepfree (by simp) hb2 (newfree (g := w.heap.size) rfl)))))
        refine bodyPost_ret (v := .tuple #[.agg #[.int .i64 0, .int .i64 0, .string ⟨#[]⟩], .int .i64 0]) (by simp [results, Try.results32, go_sem, e0, e1, e2]) rfl ⟨HD.out, ?_⟩
        exact ((((((HA.out.trans (hb2.mono HA.out.size)).alloc (by have := HA.out.size; have := hb2.size; omega) _).trans (hb3.mono (by have := HA.out.size; have := hb2.size; simp; omega))).setCell (by exact Nat.le_refl _) _).setCell (by exact Nat.le_refl _) _).setCell (by exact Nat.le_refl _) _)
    · have HD := Lib.hid (HF.out (D.trans (if_neg hp)))
      clear D
      go_enter Try.func32, Try.ntmps32
      go_wp2_with (go_at_call 40; refine HI.out.mono ?_; rintro e w' ⟨rfl, rfl⟩)
      refine bodyPost_ret (v := .tuple #[.agg #[.int .i64 0, .int .i64 0, .string ⟨#[]⟩], .int .i64 0]) (by simp [results, Try.results32, go_sem]) rfl ⟨HD.out, HA.out⟩
  have b3 : ((x.toNat : Int) == 3) = false := by simp only [beq_eq_false_iff_ne, ne_eq]; intro e; exact h3 (UInt8.toNat.inj (by show _ = 3; omega))
  have HD := Lib.hid (HF.out (D.trans (if_neg h3)))
  clear D
  go_enter Try.func32, Try.ntmps32
  go_wp2
  refine bodyPost_ret (v := .tuple #[.agg #[.int .i64 0, .int .i64 0, .string ⟨#[]⟩], .int .i64 0]) (by simp [results, Try.results32, go_sem]) rfl ⟨HD.out, HA.out⟩
end Go.Proofs.Ytdfkcibmmabjcaa
