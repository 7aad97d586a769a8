/- The reference: a pattern matched against a text. -/
import Derived.Test.YtfhbffgnpedaeaaElp
import Derived.Test.YtfhbffgnpedaeaaElk
import Derived.BigRegion
namespace Go.Proofs.Ytfhbffgnpedaeaa
open Go.ChangeShapes Go.WideShapes Go.ChangeAt Go.RowKit Go.ChangeMaps

theorem like_one {c : UInt8} (hc : c ≠ 37) (T : List UInt8) : likeM [c] T = true ↔ ∃ x, T = [x] ∧ (c == 95 || c == x) = true := by
  cases T with
  | nil => simp [likeM, if_neg hc]
  | cons x ts =>
    simp only [likeM, if_neg hc, Bool.and_eq_true]
    constructor
    · rintro ⟨h, h2⟩
      have : ts = [] := by simpa using h2
      exact ⟨x, by rw [this], h⟩
    · rintro ⟨y, h, h2⟩
      injection h with h3 h4
      subst h3 h4
      exact ⟨h2, rfl⟩
theorem any_empty : ∀ (T : List UInt8), anyTail (likeM []) T = true
  | [] => rfl
  | c :: T => by simp only [anyTail, any_empty T, Bool.or_true]
theorem like_sign (T : List UInt8) : likeM [37] T = true := by
  simp only [likeM, if_true]
  exact any_empty T
/-- The first k characters of a pattern match the first i of a text. -/
def mt (P T : List UInt8) (k i : Nat) : Bool := likeM (P.take k) (T.take i)
theorem mt_start (P T : List UInt8) (i : Nat) (hi : i ≤ T.length) : mt P T 0 i = decide (i = 0) := by
  unfold mt
  simp only [List.take_zero, likeM]
  cases i with
  | zero => simp
  | succ i =>
    have : 0 < (T.take (i + 1)).length := by rw [List.length_take]; omega
    cases h : T.take (i + 1) with
    | nil => rw [h] at this; simp at this
    | cons _ _ => simp
theorem mt_split (P T : List UInt8) (k i : Nat) (c : UInt8) (hc : P[k]? = some c) (hi : i ≤ T.length) : mt P T (k + 1) i = true ↔ ∃ m, m ≤ i ∧ mt P T k m = true ∧ likeM [c] ((T.take i).drop m) = true := by
  obtain ⟨hk, hc2⟩ := List.getElem?_eq_some_iff.1 hc
  unfold mt
  rw [show P.take (k + 1) = P.take k ++ [c] by rw [← hc2]; simp]
  rw [like_app]
  rw [List.length_take, Nat.min_eq_left hi]
  constructor
  · rintro ⟨m, h1, h2, h3⟩
    rw [List.take_take, Nat.min_eq_left h1] at h2
    exact ⟨m, h1, h2, h3⟩
  · rintro ⟨m, h1, h2, h3⟩
    refine ⟨m, h1, ?_, h3⟩
    rw [List.take_take, Nat.min_eq_left h1]
    exact h2
theorem mt_star0 (P T : List UInt8) (k : Nat) (hc : P[k]? = some 37) : mt P T (k + 1) 0 = mt P T k 0 := by
  rw [Bool.eq_iff_iff, mt_split P T k 0 37 hc (Nat.zero_le _)]
  constructor
  · rintro ⟨m, h1, h2, _⟩
    obtain rfl : m = 0 := by omega
    exact h2
  · intro h
    exact ⟨0, Nat.le_refl _, h, like_sign _⟩
theorem mt_star (P T : List UInt8) (k i : Nat) (hc : P[k]? = some 37) (hi : i + 1 ≤ T.length) : mt P T (k + 1) (i + 1) = (mt P T k (i + 1) || mt P T (k + 1) i) := by
  rw [Bool.eq_iff_iff, Bool.or_eq_true, mt_split P T k (i + 1) 37 hc hi, mt_split P T k i 37 hc (by omega)]
  constructor
  · rintro ⟨m, h1, h2, _⟩
    by_cases h : m = i + 1
    · subst h; exact .inl h2
    · exact .inr ⟨m, by omega, h2, like_sign _⟩
  · rintro (h | ⟨m, h1, h2, _⟩)
    · exact ⟨i + 1, Nat.le_refl _, h, like_sign _⟩
    · exact ⟨m, by omega, h2, like_sign _⟩
theorem mt_char0 (P T : List UInt8) (k : Nat) (c : UInt8) (hc : P[k]? = some c) (h37 : c ≠ 37) : mt P T (k + 1) 0 = false := by
  rw [← Bool.not_eq_true, mt_split P T k 0 c hc (Nat.zero_le _)]
  rintro ⟨m, h1, h2, h3⟩
  obtain ⟨x, hx, _⟩ := (like_one h37 _).1 h3
  simp at hx
theorem mt_char (P T : List UInt8) (k i : Nat) (c x : UInt8) (hc : P[k]? = some c) (h37 : c ≠ 37) (hx : T[i]? = some x) : mt P T (k + 1) (i + 1) = (mt P T k i && (c == 95 || c == x)) := by
  obtain ⟨hil, hx2⟩ := List.getElem?_eq_some_iff.1 hx
  rw [Bool.eq_iff_iff, Bool.and_eq_true, mt_split P T k (i + 1) c hc (by omega)]
  have he : (T.take (i + 1)).drop i = [x] := by
    rw [List.take_add_one, hx, List.drop_append_of_le_length (by rw [List.length_take]; omega)]
    rw [List.drop_of_length_le (by rw [List.length_take]; omega)]
    rfl
  constructor
  · rintro ⟨m, h1, h2, h3⟩
    obtain ⟨y, hy, h4⟩ := (like_one h37 _).1 h3
    have hl : ((T.take (i + 1)).drop m).length = 1 := by rw [hy]; rfl
    rw [List.length_drop, List.length_take] at hl
    obtain rfl : m = i := by omega
    rw [he] at hy
    injection hy with hy
    subst hy
    exact ⟨h2, h4⟩
  · rintro ⟨h1, h2⟩
    exact ⟨i, by omega, h1, by rw [he]; exact (like_one h37 _).2 ⟨x, rfl, h2⟩⟩
theorem mt_all (P T : List UInt8) : mt P T P.length T.length = likeM P T := by unfold mt; rw [List.take_length, List.take_length]
def bls (L : List Bool) : Array Value := (L.map Value.bool).toArray
theorem bls_get {L : List Bool} {i : Nat} {b : Bool} (h : L[i]? = some b) : (bls L)[i]? = some (.bool b) := by simp [bls, h]
theorem bls_set (L : List Bool) (i : Nat) (b : Bool) : (bls L).setIfInBounds i (.bool b) = bls (L.set i b) := by
  simp [bls, List.map_set]
theorem makeB (n : Nat) (hn : n ≤ 1000) (w : World) : (Instr.makeSlice 72 (.int .i64 ((n : Int) + 1)) (.int .i64 ((n : Int) + 1))).run Try.prog w = .ok (.slice (some ⟨w.heap.size, 0, none⟩) (n + 1) (n + 1)) (w.alloc (.cells (bls (List.replicate (n + 1) false)) 4)) := by
  obtain ⟨i, hi, hz, hs, hb⟩ := info_parts (show (Try.prog.info? 4).map (fun i => (i.zero, i.size, i.bytes)) = some (some (.bool false), 1, 1) by kernel_rfl)
  have := run_make (P := Try.prog) w 72 4 i _ Try.underlying72 hi hz .i64 .i64 ((n : Int) + 1) ((n : Int) + 1) (by omega) (Int.le_refl _) (by rw [hb]; omega) (by omega)
  rw [hs] at this
  rw [show ((n : Int) + 1).toNat = n + 1 by omega] at this
  rw [this]
  congr 2
  congr 1
  apply Array.ext
  · simp [bls, madeCells]
  · intro j h1 h2
    simp [bls, madeCells, Value.cells, Nat.mod_one]
set_option maxRecDepth 100000 in
set_option maxHeartbeats 4000000 in
theorem RLike_any (s p : ByteArray) (w : World) (hs : s.size ≤ 1000) (hp : p.size ≤ 4611686018427387904) :
    Calls Try.prog 41 #[.string s, .string p] w fun e w' => e = .returned (.bool (likeM p.data.toList s.data.toList)) ∧ Below w.heap.size w w' := by
  have HL := Lib.hid (show s.data.toList.length = s.size by simp)
  have HM := Lib.hid (show p.data.toList.length = p.size by simp)
  have HMK := Lib.hid (fun W => makeB s.size hs W)
  obtain ⟨F, hF⟩ : ∃ f, f = mt p.data.toList s.data.toList := ⟨_, rfl⟩
  have HFin := Lib.hid (show F p.size s.size = likeM p.data.toList s.data.toList by rw [hF, ← HL.out, ← HM.out]; exact mt_all _ _)
  have HF0 := Lib.hid (show ∀ i, i ≤ s.size → F 0 i = decide (i = 0) by intro i hi; rw [hF]; exact mt_start _ _ i (by rw [HL.out]; exact hi))
  have HS0 := Lib.hid (show ∀ k (hk : k < p.size), p[k].toNat = 37 → F (k + 1) 0 = F k 0 by
    intro k hk h; rw [hF]; exact mt_star0 _ _ k (by rw [List.getElem?_eq_getElem (by rw [HM.out]; exact hk)]; congr 1; exact UInt8.toNat_inj.1 h))
  have HS := Lib.hid (show ∀ k i (hk : k < p.size), i + 1 ≤ s.size → p[k].toNat = 37 → F (k + 1) (i + 1) = (F k (i + 1) || F (k + 1) i) by
    intro k i hk hi h; rw [hF]; exact mt_star _ _ k i (by rw [List.getElem?_eq_getElem (by rw [HM.out]; exact hk)]; congr 1; exact UInt8.toNat_inj.1 h) (by rw [HL.out]; exact hi))
  have HC0 := Lib.hid (show ∀ k (hk : k < p.size), p[k].toNat ≠ 37 → F (k + 1) 0 = false by
    intro k hk h; rw [hF]; exact mt_char0 _ _ k p[k] (by rw [List.getElem?_eq_getElem (by rw [HM.out]; exact hk)]; rfl) (fun e => h (by rw [e]; rfl)))
  have HC := Lib.hid (show ∀ k i (hk : k < p.size) (hi : i < s.size), p[k].toNat ≠ 37 → F (k + 1) (i + 1) = (F k i && (decide (p[k].toNat = 95) || decide (p[k].toNat = s[i].toNat))) by
    intro k i hk hi h
    rw [hF, mt_char _ _ k i p[k] s[i] (by rw [List.getElem?_eq_getElem (by rw [HM.out]; exact hk)]; rfl) (fun e => h (by rw [e]; rfl)) (by rw [List.getElem?_eq_getElem (by rw [HL.out]; exact hi)]; rfl)]
    have e1 : (p[k] == 95) = decide (p[k].toNat = 95) := by rw [Bool.eq_iff_iff]; simp only [beq_iff_eq, decide_eq_true_eq]; exact ⟨fun e => by rw [e]; rfl, fun e => UInt8.toNat_inj.1 e⟩
    have e2 : (p[k] == s[i]) = decide (p[k].toNat = s[i].toNat) := by rw [Bool.eq_iff_iff]; simp only [beq_iff_eq, decide_eq_true_eq]; exact ⟨fun e => by rw [e], fun e => UInt8.toNat_inj.1 e⟩
    rw [e1, e2])
  rw [← HFin.out]
  obtain ⟨r, hr⟩ : ∃ r, F p.size s.size = r := ⟨_, rfl⟩
  rw [hr]
  have HR := Lib.hid hr
  clear hF HFin hr
  have hmk := HMK.out w
  obtain ⟨W0, hW0⟩ : ∃ W, W = w.alloc (.cells (bls (List.replicate (s.size + 1) false)) 4) := ⟨_, rfl⟩
  rw [← hW0] at hmk
  have HB0 := Lib.hid (show Below w.heap.size w W0 by rw [hW0]; exact (Below.refl _ w).alloc (Nat.le_refl _) _)
  have HK0 := Lib.hid (show Blk W0 w.heap.size 4 (bls (List.replicate (s.size + 1) false)) by rw [hW0]; exact Blk.new _ _ _)
  clear hW0
  have e0 : W0.cell? ⟨w.heap.size, 0, none⟩ = some (.bool false) := (HK0.out.cell 0).trans (bls_get (by simp))
  have f0 : W0.frozen? ⟨w.heap.size, 0, none⟩ = false := Joins.unfrozen_of_block HK0.out _
  have hlt0 : (0 : Int) < (((s.size + 1 : Nat)) : Int) := by omega
  have HK1 := Lib.hid (show Blk (W0.setCell ⟨w.heap.size, 0, none⟩ (.bool true)) w.heap.size 4 (bls ((List.replicate (s.size + 1) false).set 0 true)) by rw [← bls_set]; exact (store_step HK0.out 0 _).1)
  have HB1 := Lib.hid ((store_step HK0.out 0 (.bool true)).2.2 w.heap.size w HB0.out (Nat.le_refl _))
  clear HK0 HB0
  go_enter Try.func41, Try.ntmps41
  go_wp2
  obtain ⟨W1, hW1⟩ : ∃ W, W = W0.setCell ⟨w.heap.size, 0, none⟩ (.bool true) := ⟨_, rfl⟩
  rw [← hW1] at HK1 HB1 ⊢
  clear hW1 e0 f0 hmk
  go_loopw [5, 6] (fun s5 s6 wr => ∃ (k g : Nat) (L : List Bool), s5 = .slice (some ⟨g, 0, none⟩) (s.size + 1) (s.size + 1) ∧ s6 = .int .i64 (k : Int) ∧ k ≤ p.size ∧ L.length = s.size + 1 ∧ (∀ i, i ≤ s.size → L[i]? = some (F k i)) ∧ Blk wr g 4 (bls L) ∧ w.heap.size ≤ g ∧ Below w.heap.size w wr) (fun _ s6 _ => p.size - (intOf s6).toNat)
  case atStart =>
    refine ⟨0, w.heap.size, (List.replicate (s.size + 1) false).set 0 true, rfl, rfl, Nat.zero_le _, by simp, fun i hi => ?_, HK1.out, Nat.le_refl _, HB1.out⟩
    rw [HF0.out i hi]
    cases i with
    | zero => simp
    | succ i => rw [List.getElem?_set_ne (by omega), List.getElem?_replicate, if_pos (by omega)]; simp
  case round =>
    obtain ⟨k, g, L, rfl, rfl, hk, hLl, hLc, hblk, hgw, hb⟩ := hrel
    have HLc := Lib.hid hLc
    have HK := Lib.hid hblk
    have HB := Lib.hid hb
    clear hLc hblk hb HK1 HB1
    by_cases hlt : k < p.size
    · have hlti : (k : Int) < p.size := by omega
      have hmk := HMK.out wr
      obtain ⟨W2, hW2⟩ : ∃ W, W = wr.alloc (.cells (bls (List.replicate (s.size + 1) false)) 4) := ⟨_, rfl⟩
      rw [← hW2] at hmk
      have HB2 := Lib.hid (show Below w.heap.size w W2 by rw [hW2]; exact HB.out.alloc HB.out.size _)
      have HK2 := Lib.hid (show Blk W2 g 4 (bls L) by rw [hW2]; exact HK.out.alloc _)
      have HN2 := Lib.hid (show Blk W2 wr.heap.size 4 (bls (List.replicate (s.size + 1) false)) by rw [hW2]; exact Blk.new _ _ _)
      have HGL := Lib.hid (show g < wr.heap.size from HK.out.lt)
      have HWL := Lib.hid (show w.heap.size ≤ wr.heap.size from HB.out.size)
      clear hW2 HK HB
      go_wp2
      clear hmk
      obtain ⟨h, hh⟩ : ∃ h, wr.heap.size = h := ⟨_, rfl⟩
      rw [hh] at HN2 HGL HWL ⊢
      clear hh
      obtain ⟨wq, hwq⟩ : ∃ x, x = wr := ⟨_, rfl⟩
      go_loopw [8] (fun s8 wr => ∃ (i : Nat) (M : List Bool), s8 = .int .i64 (i : Int) ∧ i ≤ s.size + 1 ∧ M.length = s.size + 1 ∧ (∀ j, j < i → M[j]? = some (F (k + 1) j)) ∧ (∀ j, i ≤ j → j ≤ s.size → M[j]? = some false) ∧ Blk wr h 4 (bls M) ∧ Blk wr g 4 (bls L) ∧ Below w.heap.size w wr) (fun s8 _ => s.size + 1 - (intOf s8).toNat)
      case atStart => exact ⟨0, _, rfl, Nat.zero_le _, by simp, fun j hj => by omega, fun j _ hj => by rw [List.getElem?_replicate, if_pos (by omega)], HN2.out, HK2.out, HB2.out⟩
      case round =>
        obtain ⟨i, M, rfl, hi, hMl, hMc, hMz, hbh, hbg, hb⟩ := hrel
        have HMc := Lib.hid hMc
        have HMz := Lib.hid hMz
        have HH := Lib.hid hbh
        have HG := Lib.hid hbg
        have HB := Lib.hid hb
        clear hMc hMz hbh hbg hb HN2 HK2 HB2
        by_cases hin : i ≤ s.size
        · have hini : (i : Int) ≤ s.size := by omega
          have hii : (i : Int) < ((s.size + 1 : Nat) : Int) := by omega
          have hne : g ≠ h := by have := HGL.out; omega
          have hhw : w.heap.size ≤ h := HWL.out
          have HN := Lib.hid (fun W (q1 : Blk W h 4 (bls M)) (q2 : Blk W g 4 (bls L)) (q3 : Below w.heap.size w W) (v : Bool) (hv : F (k + 1) i = v) => show ∃ M' : List Bool, M'.length = s.size + 1 ∧ (∀ j, j < i + 1 → M'[j]? = some (F (k + 1) j)) ∧ (∀ j, i + 1 ≤ j → j ≤ s.size → M'[j]? = some false) ∧ Blk (W.setCell ⟨h, i, none⟩ (.bool v)) h 4 (bls M') ∧ Blk (W.setCell ⟨h, i, none⟩ (.bool v)) g 4 (bls L) ∧ Below w.heap.size w (W.setCell ⟨h, i, none⟩ (.bool v)) from by
            refine ⟨M.set i v, by simp [hMl], fun j hj => ?_, fun j h1 h2 => ?_, by rw [← bls_set]; exact (store_step q1 i _).1, (store_step q1 i _).2.1 g 4 _ hne q2, (store_step q1 i _).2.2 _ _ q3 hhw⟩
            · by_cases e : j = i
              · subst e; rw [List.getElem?_set_self (by omega), hv]
              · rw [List.getElem?_set_ne (by omega)]; exact HMc.out j (by omega)
            · rw [List.getElem?_set_ne (by omega)]; exact HMz.out j (by omega) h2)
          have c0 : wr.cell? ⟨h, i, none⟩ = some (.bool false) := (HH.out.cell _).trans (bls_get (HMz.out i (Nat.le_refl _) hin))
          have f0 : wr.frozen? ⟨h, i, none⟩ = false := Joins.unfrozen_of_block HH.out _
          by_cases h37 : p[k].toNat = 37
          · have c1 : wr.cell? ⟨g, i, none⟩ = some (.bool (F k i)) := (HG.out.cell _).trans (bls_get (HLc.out i hin))
            obtain ⟨b1, hb1⟩ : ∃ b, F k i = b := ⟨_, rfl⟩
            rw [hb1] at c1
            have hq1 := Lib.hid hb1
            clear hb1
            by_cases h0 : i = 0
            · subst h0
              have HV := Lib.hid (show F (k + 1) 0 = b1 by rw [HS0.out k hlt h37, hq1.out])
              cases b1
              all_goals
                go_wp2
                go_roundw
                case rel => obtain ⟨M', r1, r2, r3, r4, r5, r6⟩ := HN.out wr HH.out HG.out HB.out _ HV.out; exact ⟨1, M', by go_num, by omega, r1, r2, r3, r4, r5, r6⟩
                case measure => simp only [intOf, Int.toNat_natCast]; omega
            · obtain ⟨j, hj⟩ : ∃ j : Nat, i = j + 1 := ⟨i - 1, by omega⟩
              have hij : (i : Int) - 1 = (j : Int) := by omega
              have hgt : (i : Int) > 0 := by omega
              have hjj : (j : Int) < ((s.size + 1 : Nat) : Int) := by omega
              have c2 : wr.cell? ⟨h, j, none⟩ = some (.bool (F (k + 1) j)) := (HH.out.cell _).trans (bls_get (HMc.out j (by omega)))
              have HV := Lib.hid (show F (k + 1) i = (b1 || F (k + 1) j) by rw [hj, HS.out k j hlt (by omega) h37, ← hj, hq1.out])
              obtain ⟨b2, hb2⟩ : ∃ b, F (k + 1) j = b := ⟨_, rfl⟩
              rw [hb2] at c2 HV
              clear hb2
              have HJ := Lib.hid hj
              clear hj h0
              cases b1
              all_goals
                go_wp2
                go_roundw
                case rel => obtain ⟨M', r1, r2, r3, r4, r5, r6⟩ := HN.out wr HH.out HG.out HB.out _ HV.out; exact ⟨i + 1, M', by go_num, by omega, r1, r2, r3, r4, r5, r6⟩
                case measure => simp only [intOf]; rw [show ((i : Int) + 1).toNat = i + 1 by omega]; omega
          · have b37 : ((p[k].toNat : Int) == 37) = false := by simp; omega
            by_cases h0 : i = 0
            · subst h0
              have HV := Lib.hid (HC0.out k hlt h37)
              clear h37
              go_wp2
              go_roundw
              case rel => exact ⟨1, M, by go_num, by omega, hMl, (fun j hj => by obtain rfl : j = 0 := (by omega); rw [HV.out]; exact HMz.out 0 (Nat.le_refl _) (by omega)), fun j h1 h2 => HMz.out j (by omega) h2, HH.out, HG.out, HB.out⟩
              case measure => simp only [intOf, Int.toNat_natCast]; omega
            · obtain ⟨j, hj⟩ : ∃ j : Nat, i = j + 1 := ⟨i - 1, by omega⟩
              have hij : (i : Int) - 1 = (j : Int) := by omega
              have hgt : (i : Int) > 0 := by omega
              have hjj : (j : Int) < ((s.size + 1 : Nat) : Int) := by omega
              have hjs : j < s.size := by omega
              have hjsi : (j : Int) < s.size := by omega
              have c2 : wr.cell? ⟨g, j, none⟩ = some (.bool (F k j)) := (HG.out.cell _).trans (bls_get (HLc.out j (by omega)))
              have HV := Lib.hid (show F (k + 1) i = (F k j && (decide (p[k].toNat = 95) || decide (p[k].toNat = s[j].toNat))) by rw [hj, HC.out k j hlt hjs h37])
              obtain ⟨b2, hb2⟩ : ∃ b, F k j = b := ⟨_, rfl⟩
              rw [hb2] at c2 HV
              clear hb2
              have HJ := Lib.hid hj
              clear hj h0 h37
              cases b2
              case false =>
                replace HV := Lib.hid (show F (k + 1) i = false by rw [HV.out]; rfl)
                go_wp2
                go_region
                all_goals
                  go_wp2
                  go_roundw
                  case rel => obtain ⟨M', r1, r2, r3, r4, r5, r6⟩ := HN.out _ HH.out.drew HG.out.drew (below_drew HB.out) _ HV.out; exact ⟨i + 1, M', by go_num, by omega, r1, r2, r3, r4, r5, r6⟩
                  case measure => simp only [intOf]; rw [show ((i : Int) + 1).toNat = i + 1 by omega]; omega
              case true =>
                by_cases h95 : p[k].toNat = 95
                · replace HV := Lib.hid (show F (k + 1) i = true by rw [HV.out, decide_eq_true h95]; rfl)
                  go_wp2
                  go_region
                  all_goals
                    go_wp2
                    go_roundw
                    case rel => obtain ⟨M', r1, r2, r3, r4, r5, r6⟩ := HN.out _ HH.out.drew HG.out.drew (below_drew HB.out) _ HV.out; exact ⟨i + 1, M', by go_num, by omega, r1, r2, r3, r4, r5, r6⟩
                    case measure => simp only [intOf]; rw [show ((i : Int) + 1).toNat = i + 1 by omega]; omega
                · have b95 : ((p[k].toNat : Int) == 95) = false := by simp; omega
                  by_cases heq : p[k].toNat = s[j].toNat
                  · replace HV := Lib.hid (show F (k + 1) i = true by rw [HV.out, decide_eq_true heq]; simp)
                    have beq : ((p[k].toNat : Int) == (s[j].toNat : Int)) = true := by simp; omega
                    clear heq h95
                    go_wp2
                    go_region
                    all_goals
                      go_wp2
                      go_roundw
                      case rel => obtain ⟨M', r1, r2, r3, r4, r5, r6⟩ := HN.out _ HH.out.drew HG.out.drew (below_drew HB.out) _ HV.out; exact ⟨i + 1, M', by go_num, by omega, r1, r2, r3, r4, r5, r6⟩
                      case measure => simp only [intOf]; rw [show ((i : Int) + 1).toNat = i + 1 by omega]; omega
                  · replace HV := Lib.hid (show F (k + 1) i = false by rw [HV.out, decide_eq_false heq, decide_eq_false h95]; rfl)
                    have beq : ((p[k].toNat : Int) == (s[j].toNat : Int)) = false := by simp; omega
                    clear heq h95
                    go_wp2
                    go_region
                    all_goals
                      go_wp2
                      go_roundw
                      case rel => obtain ⟨M', r1, r2, r3, r4, r5, r6⟩ := HN.out _ HH.out.drew HG.out.drew (below_drew HB.out) _ HV.out; exact ⟨i + 1, M', by go_num, by omega, r1, r2, r3, r4, r5, r6⟩
                      case measure => simp only [intOf]; rw [show ((i : Int) + 1).toNat = i + 1 by omega]; omega
        · have hini : ¬ (i : Int) ≤ s.size := by omega
          obtain rfl : i = s.size + 1 := by omega
          go_wp2
          go_roundw
          case rel => exact ⟨k + 1, h, M, rfl, by go_num, by omega, hMl, fun j hj => HMc.out j (by omega), HH.out, by have := HWL.out; omega, HB.out⟩
          case measure => simp only [intOf, Int.toNat_natCast]; omega
    · have hlti : ¬ (k : Int) < p.size := by omega
      obtain rfl : k = p.size := by omega
      have c0 : wr.cell? ⟨g, s.size, none⟩ = some (.bool r) := (HK.out.cell _).trans (bls_get (by rw [HLc.out _ (Nat.le_refl _), HR.out]))
      have h5 : ((s.size : Nat) : Int) < ((s.size + 1 : Nat) : Int) := by omega
      go_wp2
      go_ret
      exact ⟨rfl, HB.out⟩
end Go.Proofs.Ytfhbffgnpedaeaa
