/- The reference decodes rows. -/
import Derived.Test.YtdfkcibmmabjcaaRtm
namespace Go.Proofs.Ytdfkcibmmabjcaa
open Go.ChangeShapes Go.WideShapes Go.ChangeAt Go.RowKit Go.ChangeMaps

def isP (c : UInt8) : Bool := decide (32 ≤ c.toNat) && decide (c.toNat ≤ 126)
/-- How many printable bytes come first. -/
def pl (l : List UInt8) : Nat := (l.takeWhile isP).length
theorem pl_cons (c : UInt8) (l : List UInt8) : pl (c :: l) = if isP c then pl l + 1 else 0 := by
  unfold pl; rw [List.takeWhile_cons]; split <;> simp
theorem pl_le (l : List UInt8) : pl l ≤ l.length := (List.takeWhile_prefix isP).length_le
theorem pl_step (l : List UInt8) (k : Nat) (h : k < l.length) : pl (l.drop k) = if isP l[k] then pl (l.drop (k + 1)) + 1 else 0 := by
  rw [List.drop_eq_getElem_cons h, pl_cons]
theorem pl_take : ∀ l : List UInt8, prB (l.take (pl l)) = true
  | [] => rfl
  | c :: l => by
    rw [pl_cons]
    by_cases h : isP c = true
    · rw [if_pos h, List.take_succ_cons]
      have ih := pl_take l
      unfold prB at ih ⊢
      unfold isP at h
      rw [List.all_cons, ih, h]; rfl
    · rw [if_neg h]; rfl
theorem pl_ge : ∀ (l : List UInt8) (j : Nat), j ≤ l.length → prB (l.take j) = true → j ≤ pl l
  | _, 0, _, _ => Nat.zero_le _
  | [], j + 1, h, _ => by simp at h
  | c :: l, j + 1, h, hp => by
    rw [List.take_succ_cons] at hp
    obtain ⟨h1, h2, h3⟩ := pr_cons hp
    have ih := pl_ge l j (by simpa using h) h3
    rw [pl_cons, if_pos (by unfold isP; simp [h1, h2])]
    omega
theorem pl_stop : ∀ (l : List UInt8) (h : pl l < l.length), isP l[pl l] = false
  | [], h => by simp [pl] at h
  | c :: l, h => by
    by_cases hc : isP c = true
    · have e : pl (c :: l) = pl l + 1 := by rw [pl_cons, if_pos hc]
      have ih := pl_stop l (by rw [e] at h; simpa using h)
      simp only [e, List.getElem_cons_succ]
      exact ih
    · have e : pl (c :: l) = 0 := by rw [pl_cons, if_neg hc]
      simp only [e, List.getElem_cons_zero]
      simpa using hc
theorem index_split : ∀ (l : List UInt8) (j : Nat), Lib.indexByte l 0 = j → j < l.length ∧ l[j]? = some 0
  | [], j, h => by unfold Lib.indexByte at h; omega
  | x :: l, j, h => by
    unfold Lib.indexByte at h
    split at h
    · rename_i hx
      obtain rfl : j = 0 := by omega
      exact ⟨by simp, by simpa using hx⟩
    · split at h
      · omega
      · obtain ⟨m, rfl⟩ : ∃ m, j = m + 1 := by
          have := indexByte_bd l 0
          rcases this with h2 | h2
          · exact ⟨j - 1, by rename_i h3; simp at h3; omega⟩
          · rename_i h3; simp [h2] at h3
        obtain ⟨h1, h2⟩ := index_split l m (by omega)
        exact ⟨by simpa using h1, by simpa using h2⟩
/-- Texts: the reference's way. -/
theorem text_yes (t : List UInt8) (h : pl t < t.length) (h0 : t[pl t] = 0) (h16 : pl t ≤ 16) : decD (3 :: t) = (⟨2, 0, ⟨(t.take (pl t)).toArray⟩⟩, pl t + 2) := by
  have ht : t = t.take (pl t) ++ 0 :: t.drop (pl t + 1) := by
    conv => lhs; rw [← List.take_append_drop (pl t) t, List.drop_eq_getElem_cons h, h0]
  have hi : Lib.indexByte (3 :: t) 0 = (pl t : Int) + 1 := by
    have := index_skip (3 :: t.take (pl t)) (t.drop (pl t + 1)) (fun y hy => by
      rcases List.mem_cons.1 hy with rfl | hy
      · decide
      · exact pr_nz _ (pl_take t) y hy)
    rw [List.cons_append, ← ht] at this
    rw [this, List.length_cons, List.length_take]; omega
  rw [decD_cons, if_neg (by decide), if_neg (by decide), if_pos rfl, hi, if_pos (by omega), show ((pl t : Int) + 1).toNat = pl t + 1 by omega, Nat.add_sub_cancel, if_pos ⟨h16, pl_take t⟩]
theorem text_no (t : List UInt8) (h : ∀ h : pl t < t.length, t[pl t] = 0 → 16 < pl t) : (decD (3 :: t)).2 = 0 := by
  rw [decD_cons, if_neg (by decide), if_neg (by decide), if_pos rfl]
  split
  · rename_i hz
    split
    · rename_i hv
      exfalso
      obtain ⟨j, hj⟩ : ∃ j : Nat, Lib.indexByte (3 :: t) 0 = ((j + 1 : Nat) : Int) := ⟨(Lib.indexByte (3 :: t) 0 - 1).toNat, by omega⟩
      obtain ⟨h1, h2⟩ := index_split _ _ hj
      rw [hj, show (((j + 1 : Nat) : Int)).toNat - 1 = j by omega] at hv
      simp only [List.length_cons] at h1
      rw [List.getElem?_cons_succ] at h2
      have hjt : j < t.length := by omega
      have h3 := pl_ge t j (by omega) hv.2
      have hj0 : t[j] = 0 := by rw [List.getElem?_eq_getElem hjt] at h2; injection h2
      have h4 : pl t = j := by
        rcases Nat.lt_or_ge j (pl t) with h5 | h5
        · exfalso
          have h6 : j < (t.take (pl t)).length := by rw [List.length_take]; omega
          have h7 := pr_nz _ (pl_take t) _ (List.getElem_mem h6)
          rw [List.getElem_take] at h7
          exact h7 hj0
        · omega
      have := h (by omega) (by simp only [h4]; exact hj0)
      omega
    · rfl
  · rfl
theorem xor_back (v : Int) (h0 : 0 ≤ v) (h1 : v < 18446744073709551616) : wrap64 (bits .xor .u64 v 9223372036854775808) = v - 9223372036854775808 := by
  rw [u64_xor _ _ (by omega) (by omega) (by omega) (by omega)]
  have := xor_top v.toNat (by omega)
  rw [show (9223372036854775808 : Int).toNat = 2 ^ 63 by decide, this]
  simp only [wrap64]
  omega

def RdPost (w : World) (l : List UInt8) (e : Ending) (w' : World) : Prop :=
  Below w.heap.size w w' ∧ match decA l with
    | none => e = .returned (.tuple #[.slice none 0 0, .bool false])
    | some R => ∃ A c, e = .returned (.tuple #[.slice A R.length c, .bool true]) ∧ RowAt w' A R.length R

set_option maxRecDepth 100000 in
set_option maxHeartbeats 2000000 in
theorem Decode_any (A : Option Addr) (n c : Nat) (l : List UInt8) (w : World) (hr : BytesAt w A n l) (hn : n ≤ 100000) (hnc : n ≤ c) (hc2 : c ≤ 9223372036854775807) :
    Calls Try.prog 18 #[.slice A n c] w (RdPost w l) := by
  have HL := Lib.hid hr.1
  rcases Nat.eq_zero_or_pos n with h0 | h0
  · subst h0
    obtain rfl : l = [] := List.eq_nil_of_length_eq_zero hr.1
    go_enter Try.func18, Try.ntmps18
    go_wp2
    refine wp_loop_rounds 1 ?_
    rw [rounds_succ]
    go_wp2
    go_ret2
    refine ⟨Below.refl _ _, ?_⟩
    rw [decA_nil]
    exact ⟨none, 0, rfl, rfl, fun h => absurd h (by simp)⟩
  · obtain ⟨b, off, rfl, hb, hcl⟩ := hr.2 h0
    have HC := Lib.hid hcl
    clear hr hcl
    go_enter Try.func18, Try.ntmps18
    go_wp2
    go_loopw [4, 5] (fun r i wr => ∃ (p : Nat) (X : List V3), p ≤ n ∧ i = .int .i64 p ∧ X.length ≤ p ∧ RGrows w.heap.size w (.slice none 0 0) X r wr ∧ decA l = (decA (l.drop p)).map (X ++ ·)) (fun _ i _ => n - (intOf i).toNat)
    case atStart => exact ⟨0, [], Nat.zero_le _, rfl, Nat.le_refl _, RGrows.none_ (Nat.le_refl _), by rw [List.drop_zero]; cases decA l <;> simp⟩
    case round =>
      obtain ⟨p, X, hp, rfl, hX, hG, hd⟩ := hrel
      have hB := hG.is_below rfl
      have HG := Lib.hid hG
      have HB := Lib.hid hB
      clear hG
      by_cases hlt : p < n
      · have hql : (l.drop p).length = n - p := by rw [List.length_drop, HL.out]
        have hcq : ∀ i (h : i < (l.drop p).length), wr.cell? ⟨b, off + (p + i), none⟩ = some (.int .u8 ((l.drop p)[i].toNat : Int)) := fun i hi => by
          rw [List.getElem_drop]
          exact (hB.cell (p := ⟨b, off + (p + i), none⟩) hb).trans (HC.out (p + i) (by rw [HL.out]; omega))
        have HQ := Lib.hid hcq
        have HD := Lib.hid hd
        clear hcq hd hB
        obtain ⟨x, t, hq⟩ : ∃ x t, l.drop p = x :: t := by
          rcases hh : l.drop p with _ | ⟨x, t⟩
          · rw [hh] at hql; simp at hql; omega
          · exact ⟨x, t, rfl⟩
        rw [hq] at HQ HD hql
        have c0 := HQ.out 0 (by simp)
        simp only [Nat.add_zero, List.getElem_cons_zero] at c0
        have hx : x.toNat < 256 := x.toNat_lt
        have hbad : (decD (x :: t)).2 = 0 → decA l = none := fun e => by rw [HD.out, decA_bad _ (by simp) e]; rfl
        have hgo : ∀ y k, decD (x :: t) = (y, k) → 0 < k → decA l = (decA (l.drop (p + k))).map ((X ++ [y]) ++ ·) := fun y k e hk => by
          rw [HD.out, decA_go _ (by simp) (by rw [e]; simp only; omega), e, ← hq, List.drop_drop]
          simp only
          cases decA (l.drop (p + k)) <;> simp
        have HBad := Lib.hid hbad
        have HGo := Lib.hid hgo
        clear hbad hgo hq
        have HNo : Hid ((decD (x :: t)).2 = 0 → ∀ w', Below w.heap.size w w' → RdPost w l (.returned (.tuple #[.slice none 0 0, .bool false])) w') := Lib.hid (fun e w' h => ⟨h, by rw [HBad.out e]⟩)
        simp only [List.length_cons] at hql
        by_cases h1 : x = 1
        · subst h1
          have HN := Lib.hid (HGo.out zeroV 1 rfl (by omega))
          go_wp2_with (at_builtin; refine wpList_rapp rfl (.tmp 19) (.tmp 21) rfl w.heap.size w (.slice none 0 0) _ X rfl (HG.out.alloc _) _ zeroV rfl (Blk.new_ rfl rfl) (by omega) ?_; intro v3 w3 G3 z3 k3)
          have HG3 := Lib.hid G3
          clear G3 z3 k3
          go_roundw
          case rel => exact ⟨p + 1, X ++ [zeroV], by omega, by go_num, by rw [List.length_append, List.length_singleton]; omega, HG3.out, HN.out⟩
          case measure => simp [intOf]; omega
        · have b1 : ((x.toNat : Int) == 1) = false := by simp only [beq_eq_false_iff_ne, ne_eq]; intro e; exact h1 (UInt8.toNat.inj (by show _ = 1; omega))
          by_cases h2 : x = 2
          · subst h2
            by_cases h9 : p + 9 ≤ n
            · have hl8 : (t.take 8).length = 8 := by rw [List.length_take]; omega
              have hv := val8_all (t.take 8) hl8
              have hxb := xor_back (val8 (t.take 8)) hv.1 hv.2
              have HN := Lib.hid (HGo.out ⟨1, val8 (t.take 8) - 9223372036854775808, ⟨#[]⟩⟩ 9 (by rw [decD_cons, if_neg (by decide), if_pos rfl, if_pos (by simp only [List.length_cons]; omega)]) (by omega))
              have hT : ∀ k (h : k < (t.take 8).length), wr.cell? ⟨b, off + (p + 1 + k), none⟩ = some (.int .u8 ((t.take 8)[k].toNat : Int)) := fun k h => by
                have hkt : k < t.length := by rw [List.length_take] at h; omega
                have := HQ.out (k + 1) (by simp; omega)
                rw [List.getElem_cons_succ] at this
                rw [List.getElem_take, show p + 1 + k = p + (k + 1) by omega]; exact this
              generalize t.take 8 = T at *
              have HL8 := Lib.hid hl8
              have HX := Lib.hid hxb
              have HT := Lib.hid hT
              have e8 : T.take 8 = T := List.take_of_length_le (by rw [hl8]; exact Nat.le_refl _)
              have HE := Lib.hid e8
              clear hl8 hxb hv hT e8
              go_wp2
              obtain ⟨wo, rfl⟩ : ∃ wo : World, wo = wr := ⟨_, rfl⟩
              go_loop [6, 7] (fun u i => ∃ k : Nat, k ≤ 8 ∧ i = .int .i64 (p + 1 + k : Nat) ∧ u = .int .u64 (val8 (T.take k))) (fun _ i => p + 9 - (intOf i).toNat)
              case atStart => exact ⟨0, Nat.zero_le _, by go_num, rfl⟩
              case round =>
                obtain ⟨k, hk, rfl, rfl⟩ := hrel
                by_cases hk8 : k < 8
                · obtain ⟨v0, v1⟩ := val8_lt T k hk8
                  have hkT : k < T.length := by rw [HL8.out]; exact hk8
                  have cc := HT.out k hkT
                  have hy : T[k].toNat < 256 := T[k].toNat_lt
                  have HV := Lib.hid ((congrArg val8 (take_snoc T k hkT)).trans (val8_snoc _ _))
                  generalize T[k].toNat = y at *
                  generalize val8 (T.take k) = v at *
                  go_wp2
                  go_round
                  case rel => exact ⟨k + 1, by omega, by go_num, int_eq (by rw [HV.out]; omega)⟩
                  case measure => simp [intOf]; omega
                · obtain rfl : k = 8 := by omega
                  have hv := HX.out
                  rw [HE.out]
                  generalize val8 T = v at *
                  have h17 : ¬ ((p + 1 + 8 : Nat) : Int) < (p : Int) + 9 := by omega
                  go_wp2_with (at_builtin; refine wpList_rapp rfl (.tmp 54) (.tmp 59) rfl w.heap.size w (.slice none 0 0) _ X rfl (HG.out.alloc _) _ ⟨1, v - 9223372036854775808, ⟨#[]⟩⟩ rfl (Blk.new_ rfl rfl) (by omega) ?_; intro v3 w3 G3 z3 k3)
                  have HG3 := Lib.hid G3
                  clear G3 z3 k3
                  go_roundw
                  case rel => exact ⟨p + 9, X ++ [⟨1, v - 9223372036854775808, ⟨#[]⟩⟩], by omega, by go_num, by rw [List.length_append, List.length_singleton]; omega, HG3.out, HN.out⟩
                  case measure => simp [intOf]; omega
            · have HN := Lib.hid (HNo.out (by rw [decD_cons, if_neg (by decide), if_pos rfl, if_neg (by simp only [List.length_cons]; omega)]))
              go_wp2
              go_ret2
              exact HN.out _ HB.out
          · have b2 : ((x.toNat : Int) == 2) = false := by simp only [beq_eq_false_iff_ne, ne_eq]; intro e; exact h2 (UInt8.toNat.inj (by show _ = 2; omega))
            by_cases h3 : x = 3
            · subst h3
              have hT : ∀ k (h : k < t.length), wr.cell? ⟨b, off + (p + 1 + k), none⟩ = some (.int .u8 (t[k].toNat : Int)) := fun k h => by
                have := HQ.out (k + 1) (by simp; omega)
                rw [List.getElem_cons_succ] at this
                rw [show p + 1 + k = p + (k + 1) by omega]; exact this
              have HT := Lib.hid hT
              have HYes := Lib.hid (text_yes t)
              have HNot := Lib.hid (fun h => HNo.out (text_no t h))
              have hpl := pl_le t
              have HP := Lib.hid hpl
              clear hT hpl
              go_wp2
              obtain ⟨wo, rfl⟩ : ∃ wo : World, wo = wr := ⟨_, rfl⟩
              go_loop [8] (fun i => ∃ k : Nat, k ≤ t.length ∧ i = .int .i64 (p + 1 + k : Nat) ∧ pl t = k + pl (t.drop k)) (fun i => n - (intOf i).toNat)
              case atStart => exact ⟨0, Nat.zero_le _, by go_num, by simp⟩
              case round =>
                obtain ⟨k, hk, rfl, hpk⟩ := hrel
                by_cases hkt : k < t.length
                · have cc := HT.out k hkt
                  have hy : t[k].toNat < 256 := t[k].toNat_lt
                  have hst := pl_step t k hkt
                  have hkn : (p : Int) + 1 + (k : Int) < (n : Int) := by omega
                  have hke : decide ((p + 1 + k : Nat) = n) = false := decide_eq_false (by omega)
                  have hke2 : ((p : Int) + 1 + (k : Int) == (n : Int)) = false := by simp only [beq_eq_false_iff_ne, ne_eq]; omega
                  by_cases hpr : 32 ≤ t[k].toNat ∧ t[k].toNat ≤ 126
                  · have HK := Lib.hid (show pl t = k + 1 + pl (t.drop (k + 1)) by rw [hpk, hst, if_pos (by unfold isP; simp [hpr.1, hpr.2])]; omega)
                    obtain ⟨p1, p2⟩ := hpr
                    clear hpk hst
                    generalize t[k].toNat = y at *
                    go_wp2
                    go_round
                    case rel => exact ⟨k + 1, by omega, by go_num, HK.out⟩
                    case measure => simp [intOf]; omega
                  · have hK : pl t = k := by rw [hpk, hst, if_neg (by unfold isP; simp; omega)]; exact Nat.add_zero k
                    have HK := Lib.hid hK
                    have hzn : t[k].toNat = 0 → t[k] = 0 := fun e => UInt8.toNat.inj e
                    have hzm : t[k] = 0 → t[k].toNat = 0 := fun e => by rw [e]; rfl
                    have HZ := Lib.hid hzn
                    have HZ2 := Lib.hid hzm
                    clear hpk hst hK hzn hzm
                    by_cases hz : t[k].toNat = 0
                    · by_cases h16 : k ≤ 16
                      · have hy := HYes.out (by rw [HK.out]; exact hkt) (by simp only [HK.out]; exact HZ.out hz) (by rw [HK.out]; exact h16)
                        rw [HK.out] at hy
                        have htl : (t.take k).length = k := by rw [List.length_take]; omega
                        have hcv := run_convert_bytes_back (P := Try.prog) wo 28 9 5 ⟨b, off + (p + 1), none⟩ (c - (p + 1)) (t.take k) Try.underlying28 Try.underlying5 Try.underlying9 (fun i hi => by
                          have hit : i < t.length := by rw [List.length_take] at hi; omega
                          rw [add_plain, List.getElem_take, Nat.add_assoc]
                          exact HT.out i hit)
                        rw [htl] at hcv
                        obtain ⟨s, hs⟩ : ∃ s : ByteArray, ⟨(t.take k).toArray⟩ = s := ⟨_, rfl⟩
                        rw [hs] at hcv hy
                        have HN := Lib.hid (HGo.out _ _ hy (by omega))
                        rw [hz] at cc
                        have hmn : decide ((16 : Int) < (p : Int) + 1 + (k : Int) - (p : Int) - 1) = false := decide_eq_false (by omega)
                        have hmn2 : ¬ (16 : Int) < (p : Int) + 1 + (k : Int) - (p : Int) - 1 := by omega
                        have hsub : p + 1 + k - (p + 1) = k := by omega
                        clear hy htl hs hpr hz
                        go_wp2_with (at_builtin; refine wpList_rapp rfl (.tmp 109) (.tmp 117) rfl w.heap.size w (.slice none 0 0) _ X rfl (HG.out.alloc _) _ ⟨2, 0, s⟩ rfl (Blk.new_ rfl rfl) (by omega) ?_; intro v3 w3 G3 z3 k3)
                        have HG3 := Lib.hid G3
                        clear G3 z3 k3
                        go_roundw
                        case rel => exact ⟨p + (k + 2), X ++ [⟨2, 0, s⟩], by omega, by go_num, by rw [List.length_append, List.length_singleton]; omega, HG3.out, HN.out⟩
                        case measure => simp [intOf]; omega
                      · have HN := Lib.hid (HNot.out (fun _ _ => by rw [HK.out]; omega))
                        have hmn : (16 : Int) < (p : Int) + 1 + (k : Int) - (p : Int) - 1 := by omega
                        rw [hz] at cc
                        clear hpr hz
                        go_wp2
                        go_ret2
                        exact HN.out _ HB.out
                    · have HN := Lib.hid (HNot.out (fun h e => absurd (HZ2.out (by simp only [HK.out] at e; exact e)) hz))
                      have hz2 : ((t[k].toNat : Int) != 0) = true := by simpa using hz
                      rcases (show t[k].toNat < 32 ∨ (32 ≤ t[k].toNat ∧ 126 < t[k].toNat) by omega) with q1 | ⟨q1, q2⟩
                      · clear hpr hz
                        generalize t[k].toNat = y at *
                        go_wp2
                        go_ret2
                        exact HN.out _ HB.out
                      · clear hpr hz
                        generalize t[k].toNat = y at *
                        go_wp2
                        go_ret2
                        exact HN.out _ HB.out
                · obtain rfl : k = t.length := by omega
                  have hK : pl t = t.length := by rw [hpk, List.drop_length]; rfl
                  have HK := Lib.hid hK
                  have HN := Lib.hid (HNot.out (fun h => absurd h (by rw [HK.out]; omega)))
                  have hkn : ¬ (p : Int) + 1 + (t.length : Int) < (n : Int) := by omega
                  have hke : decide ((p + 1 + t.length : Nat) = n) = true := decide_eq_true (by omega)
                  have hke2 : ((p : Int) + 1 + (t.length : Int) == (n : Int)) = true := by simp only [beq_iff_eq]; omega
                  clear hpk hK
                  go_wp2
                  go_ret2
                  exact HN.out _ HB.out
            · have b3 : ((x.toNat : Int) == 3) = false := by simp only [beq_eq_false_iff_ne, ne_eq]; intro e; exact h3 (UInt8.toNat.inj (by show _ = 3; omega))
              have HN := Lib.hid (HNo.out (by rw [decD_cons, if_neg h1, if_neg h2, if_neg h3]))
              go_wp2
              go_ret2
              exact HN.out _ HB.out
      · obtain rfl : p = n := by omega
        have HS : Hid (∀ e w', (∃ A c, e = Ending.returned (.tuple #[.slice A X.length c, .bool true]) ∧ RowAt w' A X.length X) → Below w.heap.size w w' → RdPost w l e w') := Lib.hid (fun e w' h hb => ⟨hb, by
          have e2 : decA l = some X := by rw [hd, List.drop_of_length_le (by rw [HL.out]; exact Nat.le_refl _), decA_nil]; simp
          rw [e2]; exact h⟩)
        obtain ⟨A3, c3, rfl, y3⟩ := own_row HG.out.1
        have HY := Lib.hid y3
        clear hd y3
        go_wp2
        go_ret2
        exact HS.out _ _ ⟨A3, c3, rfl, HY.out⟩ HB.out
end Go.Proofs.Ytdfkcibmmabjcaa
